/-
  package span's Free.
-/
import Derived.Test.YtnifpphimodonaaSTurn
namespace Go.Proofs.Ytnifpphimodonaa
open Go.RowKit

theorem index_nil (a : Option Addr) (c : Nat) (f : Value) (w : World) :
    Calls Try.prog 30 #[.slice a 0 c, f] w fun e w' => e = .returned (.int .i64 (-1)) ∧ w' = w := by
  go_enter Try.func30, Try.ntmps30
  go_wp2
  refine wp_loop_rounds 1 ?_
  rw [rounds_succ]
  go_wp2
  go_ret
  exact ⟨rfl, rfl⟩

theorem contains_nil (a : Option Addr) (c : Nat) (f : Value) (w : World) :
    Calls Try.prog 33 #[.slice a 0 c, f] w fun e w' => e = .returned (.bool false) ∧ w' = w := by
  have hcon := fun w => index_nil a c f w
  go_enter Try.func33, Try.ntmps33
  go_wp2_with fail
  refine (hcon _).mono ?_
  rintro e w1 ⟨rfl, rfl⟩
  go_wp2_with fail
  go_ret
  exact ⟨rfl, rfl⟩

theorem sorted_nil (c : Nat) (w : World) :
    Calls Try.prog 35 #[.slice none 0 c] w fun e w' => e = .returned (.slice none 0 0) ∧ w' = w := by
  have hc1 := fun w => AnyE.slices_Clone_nil Try.cloneV 0 c w
  change ∀ w, Calls Try.prog 39 _ _ _ at hc1
  have hc2 := fun w => AnyF.slices_SortFunc_none Try.sortV none 0 (.func (.func 41) #[] #[]) w
  change ∀ w, Calls Try.prog 40 _ _ _ at hc2
  go_enter Try.func35, Try.ntmps35
  go_wp2_with fail
  refine (hc1 _).mono ?_
  rintro e w1 ⟨rfl, rfl⟩
  go_wp2_with fail
  refine (hc2 _).mono ?_
  rintro e w1 ⟨rfl, rfl⟩
  go_wp2_with fail
  go_ret
  exact ⟨rfl, rfl⟩

/-- ContainsFunc of what is no span. -/
theorem bad_is (a : Option Addr) (n c : Nat) (D : Nat → Val) (b : Bool) (hb : ((List.range n).map D).any (fun v => !okS v) = b) (w : World) (hl : SlV w a n c D) :
    Calls Try.prog 33 #[.slice a n c, .func (.func 32) #[] #[]] w fun e w' => e = .returned (.bool b) ∧ Below w.heap.size w w' := by
  have eg : ∀ args w, (callFunc 32 args).run Try.prog w = .ok (.enter 32 args) w := enters_of Try.func32 (by kernel_rfl) rfl
  rcases Nat.eq_zero_or_pos n with rfl | hn
  · have : b = false := by rw [← hb]; rfl
    subst this
    exact (contains_nil a c _ w).mono fun e w' ⟨h1, h2⟩ => ⟨h1, h2 ▸ Below.refl _ _⟩
  · obtain ⟨x, o, rfl, hat⟩ := hl.at' hn
    have := contains_is 32 #[] (fun v => !okS v) eg x o n c D w hl.small (fun W y hW => (invalid_is y _ rfl W).mono fun e w' ⟨he, h2⟩ => ⟨he, hW.trans (h2.mono hW.size)⟩) (hat 0 hn).2.2.2.2 hat
    rw [hb] at this
    exact this

set_option maxRecDepth 100000 in
/-- What is refused. -/
theorem free_bad1 (v : Val) (a : Option Addr) (n c : Nat) (w : World) (hv : okS v = false) :
    Calls Try.prog 22 #[.agg #[.int .u8 v.k, .int .i64 v.n, .int .i64 v.u, .string v.t], .slice a n c] w fun e w' => e = .returned (.tuple #[.slice none 0 0, .int .i64 4]) ∧ Below w.heap.size w w' := by
  obtain ⟨W, g, hW, hg, B0, hb0, hs⟩ := boxX w v
  have HV := Lib.hid hv
  have HB := Lib.hid hb0
  obtain ⟨b0, b1, b2, b3, b4⟩ := B0
  clear hb0 hs hv
  go_enter Try.func22, Try.ntmps22
  go_wp2_with fail
  refine (invalid_is v true (by rw [HV.out]; rfl) _).mono ?_
  rintro e w1 ⟨rfl, hb1⟩
  go_wp2_with fail
  exact bodyPost_ret (v := .tuple #[.slice none 0 0, .int .i64 4]) (by simp [results, Try.results22, go_sem]) rfl ⟨rfl, below_tr HB.out hb1⟩

set_option maxRecDepth 100000 in
theorem free_bad2 (v : Val) (a : Option Addr) (n c : Nat) (D : Nat → Val) (w : World) (hl : SlV w a n c D) (hv : okS v = true) (hb : ((List.range n).map D).any (fun v => !okS v) = true) :
    Calls Try.prog 22 #[.agg #[.int .u8 v.k, .int .i64 v.n, .int .i64 v.u, .string v.t], .slice a n c] w fun e w' => e = .returned (.tuple #[.slice none 0 0, .int .i64 4]) ∧ Below w.heap.size w w' := by
  obtain ⟨W, g, hW, hg, B0, hb0, hs⟩ := boxX w v
  have HV := Lib.hid hv
  have HB := Lib.hid hb0
  have HL := Lib.hid (hl.below hb0)
  have HBB := Lib.hid hb
  obtain ⟨b0, b1, b2, b3, b4⟩ := B0
  clear hb0 hs hv hl hb
  go_enter Try.func22, Try.ntmps22
  go_wp2_with fail
  refine (invalid_is v false (by rw [HV.out]; rfl) _).mono ?_
  rintro e w1 ⟨rfl, hb1⟩
  have hcon := bad_is a n c D true HBB.out w1 (HL.out.below hb1)
  go_wp2_with fail
  refine hcon.mono ?_
  rintro e w2 ⟨rfl, hb2⟩
  go_wp2_with fail
  exact bodyPost_ret (v := .tuple #[.slice none 0 0, .int .i64 4]) (by simp [results, Try.results22, go_sem]) rfl ⟨rfl, below_tr (below_tr HB.out hb1) hb2⟩

set_option maxRecDepth 100000 in
/-- slices.Clone of no element, not nil. -/
theorem clone_zero (a : Addr) (c : Nat) (D : Nat → Val) (w : World) :
    Calls Try.prog 39 #[.slice (some a) 0 c] w fun e w' => ∃ g cap, e = .returned (.slice (some ⟨g, 0, none⟩) 0 cap) ∧ w.heap.size ≤ g ∧ RowF w' g 0 D ∧ Below w.heap.size w w' := by
  have hq : ∀ w, (Go.binOp .eql 34 (.slice (some a) 0 c) (.slice none 0 0)).run Try.prog w = .ok (.bool false) w := fun w => Lib.run_eql_slice_nil w _ _ (some a) 0 c 0 0 Try.underlying34
  go_enter Try.func39, Try.ntmps39
  go_wp2_with fail
  go_ret
  exact ⟨w.heap.size, 0, rfl, Nat.le_refl _, ⟨fun i hi => by omega, fun t ht => by omega, by simp⟩, Below.allocs w _⟩

/-- What sorted hands back. -/
def IsSrt (base n : Nat) (D : Nat → Val) (W : World) (x : Value) : Prop :=
  ∃ p cap D', x = .slice p n cap ∧ ((p = none ∧ n = 0 ∧ cap = 0) ∨ ∃ g, p = some ⟨g, 0, none⟩ ∧ n ≤ cap ∧ base ≤ g ∧ RowF W g n D') ∧ SortedOf n D D'

theorem IsSrt.below {base n : Nat} {D : Nat → Val} {W W' : World} {x : Value} (h : IsSrt base n D W x) (hb : RowKit.Below W.heap.size W W') : IsSrt base n D W' x := by
  obtain ⟨p, cap, D', h1, h2, h3⟩ := h
  refine ⟨p, cap, D', h1, ?_, h3⟩
  rcases h2 with h2 | ⟨g, e, h4, h5, h6⟩
  · exact .inl h2
  · exact .inr ⟨g, e, h4, h5, h6.below hb⟩

theorem IsSrt.weak {base base' n : Nat} {D : Nat → Val} {W : World} {x : Value} (h : IsSrt base n D W x) (hb : base' ≤ base) : IsSrt base' n D W x := by
  obtain ⟨p, cap, D', h1, h2, h3⟩ := h
  refine ⟨p, cap, D', h1, ?_, h3⟩
  rcases h2 with h2 | ⟨g, e, h4, h5, h6⟩
  · exact .inl h2
  · exact .inr ⟨g, e, h4, by omega, h6⟩

theorem srt_is (a : Option Addr) (n c : Nat) (D : Nat → Val) (w : World) (hl : SlV w a n c D) (base : Nat) (hB : base ≤ w.heap.size) :
    Calls Try.prog 35 #[.slice a n c] w fun e w' => ∃ x, e = .returned x ∧ Below w.heap.size w w' ∧ IsSrt base n D w' x := by
  rcases Nat.eq_zero_or_pos n with rfl | hn
  · cases a with
    | none =>
      exact (sorted_nil c w).mono fun e w' ⟨h1, h2⟩ => ⟨_, h1, h2 ▸ Below.refl _ _, none, 0, D, rfl, .inl ⟨rfl, rfl, rfl⟩, List.Perm.refl _, fun i j _ h => by omega⟩
    | some a =>
      have h1 := clone_zero a c D w
      have h2 := fun p cap w => AnyF.slices_SortFunc_none Try.sortV p cap (.func (.func 41) #[] #[]) w
      change ∀ p cap w, Calls Try.prog 40 _ _ _ at h2
      have HB := Lib.hid hB
      clear hl hB
      go_enter Try.func35, Try.ntmps35
      go_wp2_with fail
      refine h1.mono ?_
      rintro e w1 ⟨g, cap, rfl, hbg, hR, hb1⟩
      clear h1
      have HR := Lib.hid hR
      have HBB := Lib.hid hb1
      have HG := Lib.hid hbg
      clear hR hb1 hbg
      go_wp2_with fail
      refine (h2 _ _ _).mono ?_
      rintro e w2 ⟨rfl, rfl⟩
      go_wp2_with fail
      go_ret
      exact ⟨_, rfl, HBB.out, some ⟨g, 0, none⟩, cap, D, rfl, .inr ⟨g, rfl, Nat.zero_le _, Nat.le_trans HB.out HG.out, HR.out⟩, List.Perm.refl _, fun i j _ h => by omega⟩
  · obtain ⟨b, o, rfl, hat⟩ := hl.at' hn
    refine (sorted_is b o n c D w hl.small hat).mono ?_
    rintro e w' ⟨g, cap, D', rfl, hnc, hbg, hS, hR, hb⟩
    exact ⟨_, rfl, hb, some ⟨g, 0, none⟩, cap, D', rfl, .inr ⟨g, rfl, hnc, by omega, hR⟩, hS⟩

/-- What gaps hands back. -/
def IsGps (base n : Nat) (D : Nat → Val) (v : Val) (W : World) (x : Value) : Prop :=
  ∃ Bo Bw p cap D', x = .func (.func 37) #[] #[.pointer (some ⟨Bo, 0, none⟩), .pointer (some ⟨Bw, 0, none⟩)] ∧ ((p = none ∧ n = 0 ∧ cap = 0) ∨ ∃ g, p = some ⟨g, 0, none⟩ ∧ n ≤ cap ∧ base ≤ g ∧ RowF W g n D') ∧ SortedOf n D D' ∧
    base ≤ Bo ∧ base ≤ Bw ∧ Bo < W.heap.size ∧ W.cell? ⟨Bo, 0, none⟩ = some (.slice p n cap) ∧ Boxed W Bw v.k v.n v.u v.t

theorem IsGps.below {base n : Nat} {D : Nat → Val} {v : Val} {W W' : World} {x : Value} (h : IsGps base n D v W x) (hb : RowKit.Below W.heap.size W W') : IsGps base n D v W' x := by
  obtain ⟨Bo, Bw, p, cap, D', h1, h2, h3, h4, h5, h6, h7, h8⟩ := h
  refine ⟨Bo, Bw, p, cap, D', h1, ?_, h3, h4, h5, Nat.lt_of_lt_of_le h6 hb.size, by rw [hb.cell (p := ⟨Bo, 0, none⟩) h6]; exact h7, h8.below hb⟩
  rcases h2 with h2 | ⟨g, e, h4, h5, h6⟩
  · exact .inl h2
  · exact .inr ⟨g, e, h4, h5, h6.below hb⟩

theorem gps_is (v : Val) (n : Nat) (D : Nat → Val) (base : Nat) (x : Value) (w : World) (hB : base ≤ w.heap.size) (hx : IsSrt base n D w x) :
    Calls Try.prog 34 #[.agg #[.int .u8 v.k, .int .i64 v.n, .int .i64 v.u, .string v.t], x] w fun e w' => ∃ y, e = .returned y ∧ Below w.heap.size w w' ∧ IsGps base n D v w' y := by
  obtain ⟨p, cap, D', rfl, h2, h3⟩ := hx
  refine (gaps_is v p n cap w).mono ?_
  rintro e w' ⟨rfl, rfl⟩
  have hb1 := Below.allocs w (.cells #[.int .u8 v.k, .int .i64 v.n, .int .i64 v.u, .string v.t] 23)
  have hb2 := Below.allocs (w.alloc (.cells #[.int .u8 v.k, .int .i64 v.n, .int .i64 v.u, .string v.t] 23)) (.cells #[.slice p n cap] 34)
  have hb := below_tr hb1 hb2
  refine ⟨_, rfl, hb, w.heap.size + 1, w.heap.size, p, cap, D', rfl, ?_, h3, by omega, hB, by simp, ?_, (Boxed.new w v.k v.n v.u v.t 23).below hb2⟩
  · rcases h2 with h2 | ⟨g, e, h4, h5, h6⟩
    · exact .inl h2
    · exact .inr ⟨g, e, h4, h5, h6.below hb⟩
  · have : (w.alloc (.cells #[.int .u8 v.k, .int .i64 v.n, .int .i64 v.u, .string v.t] 23)).heap.size = w.heap.size + 1 := by simp
    rw [← this, World.cell?_alloc_at _ _ _ _ (by simp)]
    rfl

end Go.Proofs.Ytnifpphimodonaa
