/-
  Entries: a copy of one (its key made anew); how two stand to one another.
-/
import Derived.Test.YtfikaccgpjiedaaJJ5
import Derived.Test.YtfikaccgpjiedaaJJ9
import Derived.Test.YtfikaccgpjiedaaJJ11
import Derived.Sort.Row
namespace Go.Proofs.Ytfikaccgpjiedaa
open Go.RowKit Go.Lib

/-- The values l lie in block g from its head on, and may be written. -/
structure Own (W : World) (g : Nat) (l : List Val) : Prop where
  at' : Lst W g 0 l
  fz : ∀ t, W.frozen? ⟨g, t, none⟩ = false
  lt : g < W.heap.size

theorem Own.below {W W' : World} {g : Nat} {l : List Val} (h : Own W g l) (hb : Below W.heap.size W W') : Own W' g l :=
  ⟨h.at'.below hb, fun t => by rw [hb.frozen (p := ⟨g, t, none⟩) h.lt]; exact h.fz t, Nat.lt_of_lt_of_le h.lt hb.size⟩
theorem Own.get {W : World} {g : Nat} {l : List Val} (h : Own W g l) {i : Nat} {x : Val} (hx : l[i]? = some x) : AtV W g (i * 4) x := by
  have := h.at' i x hx
  rwa [Nat.zero_add] at this

/-- To write what is there changes nothing. -/
theorem setCell_self {W : World} {b o : Nat} {v : Value} (h : W.cell? ⟨b, o, none⟩ = some v) : W.setCell ⟨b, o, none⟩ v = W := by
  rw [Sort.setCell_eq]
  refine Sort.mapBlock_id W b _ fun c e fr hb => ?_
  obtain ⟨c', e', fr', hb', hc⟩ := Sort.cells_of_cell? h
  rw [hb] at hb'
  injection hb' with hb'
  injection hb' with hcc
  subst hcc
  apply Array.ext_getElem?
  intro k
  rw [Array.getElem?_setIfInBounds]
  split
  · next e => subst e; rw [hc]; split
              · rfl
              · next h1 => exact absurd (Array.getElem?_eq_some_iff.1 hc).1 h1
  · rfl

theorem sclone_is (s : ByteArray) (hs : s.size ≤ 140737488351232) (w : World) : Calls Try.prog 51 #[.string s] w fun e w' => e = .returned (.string s) ∧ Below w.heap.size w w' := by
  have hcon := fun w => Try.stringslite_Clone s w (by omega)
  go_enter Try.func51, Try.ntmps51
  go_wp2_with fail
  refine (hcon _).mono ?_
  rintro e w1 ⟨rfl, hb⟩
  go_wp2_with fail
  go_ret
  exact ⟨rfl, hb⟩

theorem clone_vals (b o n c : Nat) (l : List Val) (w : World) (hn : l.length = n) (hs : n ≤ 1000000) (hat : Lst w b o l) :
    Calls Try.prog 50 #[.slice (some ⟨b, o, none⟩) n c] w fun e w' => ∃ g cap, e = .returned (.slice (some ⟨g, 0, none⟩) n cap) ∧ n ≤ cap ∧ cap ≤ maxLen ∧ w.heap.size ≤ g ∧ Own w' g l ∧ Below w.heap.size w w' := by
  subst hn
  obtain ⟨i0, hi, hz0, hz1, hz2⟩ := info_parts info_v
  have hcon := AnyE.slices_Clone Try.cloneV i0 (.agg #[.int .u8 0, .int .i64 0, .int .i64 0, .string ⟨#[]⟩]) 4 40 hi hz0 hz1 hz2 rfl (by decide) (fun _ => by kernel_rfl) b o l.length c (flatL l) w (flatL_len l) (by unfold maxLen; omega) (by omega)
    (fun j u hj => by
      have hjl : j < l.length * 4 := by have := (List.getElem?_eq_some_iff.1 hj).1; rwa [flatL_len] at this
      have e : j = j / 4 * 4 + j % 4 := by omega
      obtain ⟨x, hx⟩ := get_is (l := l) (i := j / 4) (by omega)
      rw [e] at hj
      rw [flatL_get l _ _ x hx (by omega)] at hj
      have := encV_get (hat (j / 4) x hx) hj
      rw [show o + j = o + j / 4 * 4 + j % 4 by omega]
      exact this)
    (flatL_one l)
  change Calls Try.prog 50 _ _ _ at hcon
  refine hcon.mono ?_
  rintro e w' ⟨v', rfl, hown, hne, hb⟩
  rcases own_row hown with ⟨h1, _⟩ | ⟨g, cap, rfl, h1, h2, h3, h4, h5, h6⟩
  · exact absurd h1 hne
  · exact ⟨g, cap, rfl, h1, h2, h3, ⟨h4, h5, h6⟩, hb⟩

/-! ### Two cells of a block -/

theorem Lit.two {W : World} {g : Nat} {u v : Value} (h : Lit W g [u, v]) : W.cell? ⟨g, 0, none⟩ = some u ∧ W.cell? ⟨g, 1, none⟩ = some v ∧ W.frozen? ⟨g, 0, none⟩ = false ∧ W.frozen? ⟨g, 1, none⟩ = false := by
  refine ⟨by simpa using h.at' 0 u rfl, by simpa using h.at' 1 v rfl, h.fz 0, h.fz 1⟩

/-- Two cells are written. -/
def put2 (W : World) (g : Nat) (u v : Value) : World := (W.setCell ⟨g, 0, none⟩ u).setCell ⟨g, 1, none⟩ v

theorem size_put2 (W : World) (g : Nat) (u v : Value) : (put2 W g u v).heap.size = W.heap.size := by simp [put2, World.setCell]
theorem below_put2 {B : Nat} {a W : World} (h : Below B a W) {g : Nat} (hg : B ≤ g) (u v : Value) : Below B a (put2 W g u v) := (h.setCell (by exact hg) _).setCell (by exact hg) _
theorem lit_put2 {W : World} {g : Nat} {u v : Value} (h : Lit W g [u, v]) {u' v' : Value} (h1 : u'.oneCell' = true) (h2 : v'.oneCell' = true) : Lit (put2 W g u' v') g [u', v'] := by
  obtain ⟨c0, c1, f0, f1⟩ := h.two
  refine ⟨by rw [size_put2]; exact h.lt, fun j x hx => ?_, fun j => ?_, fun x hx => ?_⟩
  · match j, hx with
    | 0, hx => simp at hx; subst hx; unfold put2; go_simp
    | 1, hx => simp at hx; subst hx; unfold put2; go_simp
    | j + 2, hx => simp at hx
  · unfold put2
    simp only [World.frozen?_setCell]
    exact h.fz j
  · simp at hx
    rcases hx with rfl | rfl
    · exact h1
    · exact h2
theorem cell_put2_ne (W : World) (g : Nat) (u v : Value) (a : Addr) (h : a.block ≠ g) : (put2 W g u v).cell? a = W.cell? a := by
  unfold put2
  rw [World.cell?_setCell_other _ _ _ _ (fun e => h (by rw [← e])), World.cell?_setCell_other _ _ _ _ (fun e => h (by rw [← e]))]
theorem block_put2_ne (W : World) (g : Nat) (u v : Value) (k : Nat) (h : k ≠ g) : (put2 W g u v).heap[k]? = W.heap[k]? := by
  unfold put2
  rw [Below.heap_setCell _ _ _ k h, Below.heap_setCell _ _ _ k h]

set_option maxRecDepth 100000 in
/-- Of no values. -/
theorem clone_none (a : Option Addr) (c : Nat) (w : World) :
    Calls Try.prog 50 #[.slice a 0 c] w fun e w' => ∃ a' c', e = .returned (.slice a' 0 c') ∧ c' = 0 ∧ Below w.heap.size w w' := by
  cases a with
  | none =>
    have q22 : ∀ (w : World) (a : Option Addr) (n c n' c' : Nat), (binOp .eql 27 (.slice a n c) (.slice none n' c')).run Try.prog w = .ok (.bool a.isNone) w := fun w a n c n' c' => Lib.run_eql_slice_nil w _ _ a n c n' c' Try.underlying27
    go_enter Try.func50, Try.ntmps50
    go_wp2_with fail
    go_ret
    exact ⟨_, _, rfl, rfl, Below.refl _ _⟩
  | some ad =>
    have hsrc := fun (W : World) => Src.ofSlice (size := 4) W Try.underlying27 ad 0 c [] (by simp) (fun j u hu => by simp at hu) (fun _ h => absurd h List.not_mem_nil)
    obtain ⟨i0, hi, hz0, hz1, hz2⟩ := info_parts info_v
    have hrun := fun (W : World) (b' : Option Addr) ty => run_append_nothing (P := Try.prog) W 27 27 ty 66 i0 Try.underlying27 hi b' 0 0 (Nat.le_refl _) (.slice (some ad) 0 c) (by rw [hz1]; exact hsrc W)
    have HRUN := Lib.hid hrun
    clear hrun hsrc
    have q22 : ∀ (w : World) (a : Option Addr) (n c n' c' : Nat), (binOp .eql 27 (.slice a n c) (.slice none n' c')).run Try.prog w = .ok (.bool a.isNone) w := fun w a n c n' c' => Lib.run_eql_slice_nil w _ _ a n c n' c' Try.underlying27
    go_enter Try.func50, Try.ntmps50
    go_wp2_with (at_builtin; refine append_stepW2 rfl _ _ 27 27 rfl _ _ _ _ rfl rfl (HRUN.out _ _ _) ?_)
    go_ret
    exact ⟨_, _, rfl, rfl, Below.allocs _ _⟩

set_option maxRecDepth 100000 in
set_option maxHeartbeats 1000000 in
theorem eclone_is (a : Option Addr) (c n : Nat) (key : List Val) (id : Int) (hn : key.length = n) (hs : n ≤ 1000000) (w : World) (h : SlL w a c key) :
    Calls Try.prog 35 #[.agg #[.slice a n c, .int .i64 id]] w fun e w' => ∃ a' c', e = .returned (.agg #[.slice a' n c', .int .i64 id]) ∧ SlG (fun k => w.heap.size ≤ k) w' a' c' key ∧ Below w.heap.size w w' := by
  have hcon : ∀ W, Below w.heap.size w W → Calls Try.prog 50 #[.slice a n c] W fun e w' => ∃ a' c', e = .returned (.slice a' n c') ∧ (n ≤ c' ∧ c' ≤ maxLen ∧ (key ≠ [] → ∃ g, a' = some ⟨g, 0, none⟩ ∧ w.heap.size ≤ g ∧ Own w' g key)) ∧ Below W.heap.size W w' := fun W hb => by
    by_cases hk : key = []
    · subst hk
      have hn0 : n = 0 := hn.symm
      subst hn0
      refine (clone_none a c W).mono ?_
      rintro e w' ⟨a', c', rfl, rfl, hb'⟩
      exact ⟨a', 0, rfl, ⟨Nat.le_refl _, Nat.zero_le _, fun h => absurd rfl h⟩, hb'⟩
    · obtain ⟨b, o, rfl, hl⟩ := h.at' hk
      refine (clone_vals b o n c key W hn hs (hl.below hb)).mono ?_
      rintro e w' ⟨g, cap, rfl, h1, h2, h3, h4, hb'⟩
      exact ⟨_, cap, rfl, ⟨h1, h2, fun _ => ⟨g, rfl, Nat.le_trans hb.size h3, h4⟩⟩, hb'⟩
  have HW := Lib.hid h.wf
  have HN := Lib.hid hn
  have hbn : n ≤ 9223372036854775807 := by omega
  have HCON := Lib.hid hcon
  clear h hn hcon
  go_enter Try.func35, Try.ntmps35
  go_wp2_with fail
  refine (HCON.out _ ((Below.allocs _ _).trans ((Below.allocs _ _).mono (by simp)))).mono ?_
  rintro e w1 ⟨a', c', rfl, hp, hb1⟩
  have L1 := (Lit.new w [.slice a n c, .int .i64 id] 37 (by intro v hv; simp at hv; rcases hv with rfl | rfl <;> rfl)).below (Below.allocs _ (.cells #[.slice none 0 0, .int .i64 0] 37)) |>.below hb1
  have L2 := (Lit.new (w.alloc (.cells #[.slice a n c, .int .i64 id] 37)) [.slice none 0 0, .int .i64 0] 37 (by intro v hv; simp at hv; rcases hv with rfl | rfl <;> rfl)).below hb1
  rw [World.size_alloc] at L2
  have B1 := Lib.hid (below_tr ((Below.allocs w (.cells #[.slice a n c, .int .i64 id] 37)).trans ((Below.allocs _ (.cells #[.slice none 0 0, .int .i64 0] 37)).mono (by simp))) hb1)
  obtain ⟨g, hg⟩ : ∃ g, w.heap.size = g := ⟨_, rfl⟩
  have HG := Lib.hid hg
  rw [hg] at L1 L2 ⊢
  have HL1 := Lib.hid L1
  have HL2 := Lib.hid L2
  have HP := Lib.hid hp
  clear HCON hp hb1 L1 L2 hg
  go_wp2_with fail
  go_loopg [4, 10] n (fun gg _ s10 wr => ∃ i : Nat, s10 = .int .i64 i ∧ i ≤ n ∧ n - i ≤ gg ∧ Hid (Below w1.heap.size w1 wr))
  case atStart => exact ⟨0, rfl, Nat.zero_le _, by omega, Lib.hid (Below.refl _ _)⟩
  case round =>
    obtain ⟨i, rfl, hin, hgg, BW⟩ := hrel
    by_cases hlt : i < n
    · have hltz : (i : Int) < (n : Int) := by omega
      have z1 : ¬ n ≤ i := by omega
      obtain ⟨x, hx⟩ := get_is (l := key) (i := i) (by rw [HN.out]; exact hlt)
      obtain ⟨b, rfl, _, ho⟩ := HP.out.2.2 (by rintro rfl; simp at hx)
      have HO := Lib.hid (ho.below BW.out)
      obtain ⟨e0, e1, e2, e3, e4⟩ := HO.out.get hx
      have hf3 := HO.out.fz (i * 4 + 3)
      have hcon := sclone_is x.t (get_wf HW.out hx).t
      have HX := Lib.hid hx
      clear hx ho
      go_wp2_with fail
      refine (hcon _).mono ?_
      rintro e w2 ⟨rfl, hb⟩
      have HO1 := Lib.hid (HO.out.below hb)
      have HB1 : Hid (Below w1.heap.size w1 w2) := Lib.hid (BW.out.trans (hb.mono BW.out.size))
      clear e0 e1 e2 e3 e4 hf3 hcon hb
      obtain ⟨e0, e1, e2, e3, e4⟩ := HO1.out.get HX.out
      have hf3 := HO1.out.fz (i * 4 + 3)
      have HSS := Lib.hid (setCell_self e3)
      go_wp2_with fail
      rw [HSS.out]
      go_roundg (n - (i + 1))
      case measure => omega
      case rel => exact ⟨i + 1, by go_num, by omega, Nat.le_refl _, HB1⟩
    · have hltz : ¬ (i : Int) < (n : Int) := by omega
      obtain ⟨c0, c1, f0, f1⟩ := (HL1.out.below BW.out).two
      have hl2 := HL2.out.below BW.out
      obtain ⟨d0, d1, g0, g1⟩ := hl2.two
      obtain ⟨W, hW⟩ : ∃ W, put2 wr (g + 1) (.slice a' n c') (.int .i64 id) = W := ⟨_, rfl⟩
      have hl3 : Lit W (g + 1) [.slice a' n c', .int .i64 id] := by rw [← hW]; exact lit_put2 hl2 rfl rfl
      have hbw : Below w.heap.size w W := by rw [← hW]; exact below_put2 (B1.out.trans (BW.out.mono B1.out.size)) (by rw [HG.out]; omega) _ _
      have hsl : SlG (fun k => w.heap.size ≤ k) W a' c' key := by
        obtain ⟨p1, p2, p3⟩ := HP.out
        refine ⟨⟨by rw [HN.out]; exact p1, p2, fun hk => ?_, HW.out⟩, fun hk b o e => ?_⟩
        · obtain ⟨b, rfl, hbg, ho⟩ := p3 hk
          have ho2 := ho.below BW.out
          refine ⟨b, 0, rfl, fun i x hx => ?_⟩
          have hne : b ≠ g + 1 := by
            rintro rfl
            obtain ⟨x0, l0, rfl⟩ : ∃ x0 l0, key = x0 :: l0 := by cases key with | nil => exact absurd rfl hk | cons x0 l0 => exact ⟨x0, l0, rfl⟩
            have := (ho2.at' 0 x0 rfl).1
            rw [Nat.zero_add, Nat.zero_mul] at this
            rw [d0] at this
            cases this
          rw [← hW]
          obtain ⟨q0, q1, q2, q3, q4⟩ := ho2.at' i x hx
          exact ⟨by rw [cell_put2_ne _ _ _ _ _ (by exact hne)]; exact q0, by rw [cell_put2_ne _ _ _ _ _ (by exact hne)]; exact q1, by rw [cell_put2_ne _ _ _ _ _ (by exact hne)]; exact q2, by rw [cell_put2_ne _ _ _ _ _ (by exact hne)]; exact q3, by rw [size_put2]; exact q4⟩
        · obtain ⟨b', e', hbg, _⟩ := p3 hk
          rw [e] at e'
          cases e'
          exact hbg
      obtain ⟨q0, q1, _, _⟩ := hl3.two
      have HH := Lib.hid (And.intro hsl hbw)
      have HW2 := Lib.hid hW
      clear hl2 hl3 hbw hsl hW
      go_wp2_with fail
      change bodyPost _ _ _ _ _ (put2 wr (g + 1) (.slice a' n c') (.int .i64 id))
      rw [HW2.out]
      exact bodyPost_ret (w := W) (v := .agg #[.slice a' n c', .int .i64 id]) (by simp [results, Try.results35, go_sem, q0, q1]) rfl ⟨a', c', rfl, HH.out.1, HH.out.2⟩

end Go.Proofs.Ytfikaccgpjiedaa

/-
  How an entry stands to a key, and to another entry.
-/
namespace Go.Proofs.Ytfikaccgpjiedaa
open Go.RowKit Go.Lib

theorem Lit.entry (W : World) (a : Option Addr) (n c : Nat) (id : Int) : Lit (W.alloc (.cells #[.slice a n c, .int .i64 id] 37)) W.heap.size [.slice a n c, .int .i64 id] :=
  Lit.new W [.slice a n c, .int .i64 id] 37 (by intro v hv; simp at hv; rcases hv with rfl | rfl <;> rfl)

theorem ckey_is (a a' : Option Addr) (c c' n k : Nat) (key l : List Val) (id r : Int) (hn : key.length = n) (hk : l.length = k) (hr : cmpL key l = r) (w : World) (h1 : SlL w a c key) (h2 : SlL w a' c' l) :
    Calls Try.prog 34 #[.agg #[.slice a n c, .int .i64 id], .slice a' k c'] w fun e w' => e = .returned (.int .i64 r) ∧ Below w.heap.size w w' := by
  have hal := Below.allocs w (.cells #[.slice a n c, .int .i64 id] 37)
  have hcon := comp_is a a' c c' n k key l r hn hk hr _ (h1.below hal) (h2.below hal)
  have HAL := Lib.hid hal
  clear h1 h2 hr hal hn hk
  go_enter Try.func34, Try.ntmps34
  go_wp2_with fail
  refine hcon.mono ?_
  rintro e w1 ⟨rfl, hb⟩
  have HB := Lib.hid (below_tr HAL.out hb)
  clear hcon hb
  go_wp2_with fail
  go_ret
  exact ⟨rfl, HB.out⟩

theorem nan_is (x : Int) (w : World) : Calls Try.prog 64 #[.int .i64 x] w fun e w' => e = .returned (.bool false) ∧ Below w.heap.size w w' := by
  go_enter Try.func64, Try.ntmps64
  go_wp2
  go_ret
  exact ⟨rfl, Below.refl _ _⟩

theorem icmp_is (x y r : Int) (hr : cmpI x y = r) (w : World) : Calls Try.prog 52 #[.int .i64 x, .int .i64 y] w fun e w' => e = .returned (.int .i64 r) ∧ Below w.heap.size w w' := by
  have hx := fun W => nan_is x W
  have hy := fun W => nan_is y W
  have HR := Lib.hid hr
  clear hr
  rcases Int.lt_trichotomy x y with h | rfl | h
  all_goals
    try have hn : ¬ x < y := by omega
    try have hg : ¬ y < x := by omega
    go_enter Try.func52, Try.ntmps52
    go_wp2_with fail
    refine (hx _).mono ?_
    rintro e w1 ⟨rfl, hb1⟩
    have HB1 := Lib.hid hb1
    clear hb1 hx
    go_wp2_with fail
    refine (hy _).mono ?_
    rintro e w2 ⟨rfl, hb2⟩
    have HB2 := Lib.hid (below_tr HB1.out hb2)
    clear hb2 hy
    go_wp2_with fail
    go_ret
    refine ⟨?_, HB2.out⟩
    rw [← HR.out]
    simp [cmpI]
    try omega

theorem lex_zero {c d : Int} (h : c = 0) : lex c d = d := by simp [lex, h]
theorem lex_ne {c d : Int} (h : c ≠ 0) : lex c d = c := by simp [lex, h]

theorem cent_is (a a' : Option Addr) (c c' n k : Nat) (key l : List Val) (id id' r : Int) (hn : key.length = n) (hk : l.length = k) (hr : cmpE ⟨key, id⟩ ⟨l, id'⟩ = r) (w : World) (h1 : SlL w a c key) (h2 : SlL w a' c' l) :
    Calls Try.prog 39 #[.agg #[.slice a n c, .int .i64 id], .agg #[.slice a' k c', .int .i64 id']] w fun e w' => e = .returned (.int .i64 r) ∧ Below w.heap.size w w' := by
  have hal := Below.allocs w (.cells #[.slice a n c, .int .i64 id] 37)
  have hal2 := hal.trans ((Below.allocs _ (.cells #[.slice a' k c', .int .i64 id'] 37)).mono hal.size)
  have L1 := (Lit.entry w a n c id).below (Below.allocs _ (.cells #[.slice a' k c', .int .i64 id'] 37))
  have L2 := Lit.entry (w.alloc (.cells #[.slice a n c, .int .i64 id] 37)) a' k c' id'
  rw [World.size_alloc] at L2
  obtain ⟨r0, hr0⟩ : ∃ r0, cmpL key l = r0 := ⟨_, rfl⟩
  have hcon := ckey_is a a' c c' n k key l id r0 hn hk hr0 _ (h1.below hal2) (h2.below hal2)
  have HR := Lib.hid hr
  have HR0 := Lib.hid hr0
  have HAL := Lib.hid hal2
  have HL1 := Lib.hid L1
  have HL2 := Lib.hid L2
  clear h1 h2 hr hal hal2 hn hk hr0 L1 L2
  go_enter Try.func39, Try.ntmps39
  go_wp2_with fail
  refine hcon.mono ?_
  rintro e w1 ⟨rfl, hb⟩
  have HB := Lib.hid (below_tr HAL.out hb)
  obtain ⟨c0, c1, _, _⟩ := (HL1.out.below hb).two
  obtain ⟨d0, d1, _, _⟩ := (HL2.out.below hb).two
  clear hcon hb HL1 HL2
  by_cases hz : r0 = 0
  · subst hz
    have hcon2 := fun W => icmp_is id id' r (by rw [← HR.out]; show _ = lex (cmpL key l) (cmpI id id'); rw [lex_zero HR0.out]) W
    go_wp2_with fail
    refine (hcon2 _).mono ?_
    rintro e w2 ⟨rfl, hb2⟩
    have HB2 := Lib.hid (below_tr HB.out hb2)
    clear hcon2 hb2 c0 c1 d0 d1
    go_wp2_with fail
    go_ret
    exact ⟨rfl, HB2.out⟩
  · have hzb : (r0 == 0) = false := by simpa using hz
    obtain rfl : r0 = r := by rw [← HR.out, ← HR0.out]; show _ = lex (cmpL key l) (cmpI id id'); rw [lex_ne (by rw [HR0.out]; exact hz)]
    go_wp2_with fail
    go_ret
    exact ⟨rfl, HB.out⟩

end Go.Proofs.Ytfikaccgpjiedaa

