/-
  What the laws of stage 10 lean on: a table of their own and viewers in memory, steps done to both tables.
-/
import Derived.Test.YtpdfknknnklioaaNRef
namespace Go.Proofs.Ytpdfknknnklioaa
open Go.RowKit
set_option linter.unusedVariables false

/-- A viewer in a block of its own, apart from the blocks of F. -/
structure View (W : World) (g : Nat) (a m : Int) (F : Nat → Prop) : Prop where
  lit : Lit W g 33 [.int .i64 a, .int .i64 m]
  no : ¬ F g

section
variable {w0 W W' : World} {t g : Nat} {T T' : Tb} {F : Nat → Prop} {a m : Int}

theorem One.tv (h : One w0 W t T F) (hn : T.n ≤ 1000) : TV W (.pointer (some ⟨t, 0, none⟩)) T := .inl ⟨t, F, rfl, h.is, by omega⟩

theorem View.below (h : View W g a m F) (hb : Below W.heap.size W W') : View W' g a m F := ⟨h.lit.below hb, h.no⟩
theorem View.next {F' : Nat → Prop} (h : View W g a m F) (ht : Touch F W W') (hF : ∀ k, F' k → F k ∨ W.heap.size ≤ k) : View W' g a m F' :=
  ⟨h.lit.stay (ht.stay (G := fun k => k = g) (fun k hk hx => h.no (by rw [← hk]; exact hx))) rfl, fun hx => (hF g hx).elim h.no (fun hl => by have := h.lit.lt; omega)⟩

/-- A viewer, stored into a block just made. -/
theorem View.make (W : World) (a m : Int) (hF : ∀ k, F k → k < W.heap.size) : View (W.alloc (.cells #[.int .i64 a, .int .i64 m] 33)) W.heap.size a m F ∧ Below W.heap.size W (W.alloc (.cells #[.int .i64 a, .int .i64 m] 33)) :=
  ⟨⟨Lit.new W _ [.int .i64 a, .int .i64 m], fun hx => by have := hF _ hx; omega⟩, Below.allocs _ _⟩

theorem View.one (W : World) (a m : Int) (hF : ∀ k, F k → k < W.heap.size) : ∃ g V, W.heap.size = g ∧ W.alloc (.cells #[.int .i64 a, .int .i64 m] 33) = V ∧ View V g a m F ∧ Below W.heap.size W V :=
  ⟨_, _, rfl, rfl, (View.make W a m hF).1, (View.make W a m hF).2⟩

theorem View.two (W : World) (a m a' m' : Int) (hF : ∀ k, F k → k < W.heap.size) : ∃ g g' V, W.heap.size = g ∧ W.heap.size + 1 = g' ∧ (W.alloc (.cells #[.int .i64 a, .int .i64 m] 33)).alloc (.cells #[.int .i64 a', .int .i64 m'] 33) = V ∧ View V g a m F ∧ View V g' a' m' F ∧ Below W.heap.size W V := by
  obtain ⟨h1, h2⟩ := View.make W a m hF
  have hs : (W.alloc (.cells #[.int .i64 a, .int .i64 m] 33)).heap.size = W.heap.size + 1 := by simp
  obtain ⟨h3, h4⟩ := View.make (W.alloc (.cells #[.int .i64 a, .int .i64 m] 33)) a' m' (F := F) (fun k hk => by have := hF k hk; omega)
  rw [hs] at h3
  exact ⟨_, _, _, rfl, rfl, rfl, h1.below h4, h3, below_tr h2 h4⟩

theorem one_now (h : One w0 W t T F) (hn : T.n ≤ 1000) (m la : Int) (hla : (T.last : Int) = la) : Calls Try.prog 13 #[.pointer (some ⟨t, 0, none⟩), .int .i64 m] W fun e w' => e = .returned (.agg #[.int .i64 la, .int .i64 m]) ∧ Below W.heap.size W w' := now_is W _ T m (h.tv hn) la hla
theorem one_own (h : One w0 W t T F) (hn : T.n ≤ 1000) (a m id : Int) (b : Bool) (hi : I64 id) (hb : T.ownB m id = b) : Calls Try.prog 15 #[.agg #[.int .i64 a, .int .i64 m], .pointer (some ⟨t, 0, none⟩), .int .i64 id] W fun e w' => e = .returned (.bool b) ∧ Below W.heap.size W w' := own_is W _ T a m id hi (h.tv hn) b hb
theorem one_sees (h : One w0 W t T F) (hn : T.n ≤ 1000) (a m id : Int) (b : Bool) (hi : I64 id) (hb : T.seesB a m id = b) : Calls Try.prog 17 #[.agg #[.int .i64 a, .int .i64 m], .pointer (some ⟨t, 0, none⟩), .int .i64 id] W fun e w' => e = .returned (.bool b) ∧ Below W.heap.size W w' := sees_is W _ T a m id hi (h.tv hn) b hb
theorem one_later (h : One w0 W t T F) (hn : T.n ≤ 1000) (a m id : Int) (b : Bool) (hi : I64 id) (hb : T.laterB a m id = b) : Calls Try.prog 19 #[.agg #[.int .i64 a, .int .i64 m], .pointer (some ⟨t, 0, none⟩), .int .i64 id] W fun e w' => e = .returned (.bool b) ∧ Below W.heap.size W w' := later_is W _ T a m id hi (h.tv hn) b hb
end

/-- Of nil. -/
theorem now_nil (w : World) (m : Int) : Calls Try.prog 13 #[.pointer none, .int .i64 m] w fun e w' => e = .returned (.agg #[.int .i64 0, .int .i64 m]) ∧ Below w.heap.size w w' := now_is w _ Tb.new m (.inr ⟨rfl, rfl⟩) 0 rfl
theorem new_own (m id : Int) : Tb.new.ownB m id = false := by unfold Tb.ownB; rw [new_cnt]; rfl
theorem new_sees (a m id : Int) : Tb.new.seesB a m id = false := by unfold Tb.seesB Tb.reachB; rw [new_own, new_num]; rfl
theorem new_later (a m id : Int) : Tb.new.laterB a m id = false := by unfold Tb.laterB; rw [new_num]; rfl
theorem own_nil (w : World) (a m id : Int) (hi : I64 id) : Calls Try.prog 15 #[.agg #[.int .i64 a, .int .i64 m], .pointer none, .int .i64 id] w fun e w' => e = .returned (.bool false) ∧ Below w.heap.size w w' := own_is w _ Tb.new a m id hi (.inr ⟨rfl, rfl⟩) false (new_own _ _)
theorem sees_nil (w : World) (a m id : Int) (hi : I64 id) : Calls Try.prog 17 #[.agg #[.int .i64 a, .int .i64 m], .pointer none, .int .i64 id] w fun e w' => e = .returned (.bool false) ∧ Below w.heap.size w w' := sees_is w _ Tb.new a m id hi (.inr ⟨rfl, rfl⟩) false (new_sees _ _ _)
theorem later_nil (w : World) (a m id : Int) (hi : I64 id) : Calls Try.prog 19 #[.agg #[.int .i64 a, .int .i64 m], .pointer none, .int .i64 id] w fun e w' => e = .returned (.bool false) ∧ Below w.heap.size w w' := later_is w _ Tb.new a m id hi (.inr ⟨rfl, rfl⟩) false (new_later _ _ _)

/-! ### Steps -/

set_option maxRecDepth 100000 in
set_option maxHeartbeats 4000000 in
theorem do_is (w : World) (t : Nat) (T : Tb) (F : Nat → Prop) (hn : T.n ≤ 1000) (hla : T.last ≤ 1000) (kind id : Int) (hk : 0 ≤ kind ∧ kind ≤ 255) (hi : I64 id) (h : Is w t T F) :
    Calls Try.prog 11 #[.agg #[.int .u8 kind, .int .i64 id], .pointer (some ⟨t, 0, none⟩)] w fun x w' => ∃ F', x = .returned (.tuple #[]) ∧ Is w' t (T.stp kind id) F' ∧ (∀ k, F' k → F k ∨ w.heap.size ≤ k) ∧ Touch F w w' := by
  obtain ⟨g, hg⟩ : ∃ g, w.heap.size = g := ⟨_, rfl⟩
  obtain ⟨W, hW⟩ : ∃ W, w.alloc (.cells #[.int .u8 kind, .int .i64 id] 29) = W := ⟨_, rfl⟩
  have hl : Lit W g 29 [.int .u8 kind, .int .i64 id] := by rw [← hW, ← hg]; exact Lit.new w _ _
  have hb : Below w.heap.size w W := by rw [← hW]; exact Below.allocs _ _
  have c0 := hl.cell (o := 0) rfl
  have c1 := hl.cell (o := 1) rfl
  have glt := hl.lt
  have HW := Lib.hid hW
  have HG := Lib.hid hg
  have hI := h.below hb
  have HB := Lib.hid hb
  by_cases h0 : kind = 0
  · subst h0
    obtain ⟨e1, e2, e3⟩ := begT_eq T id
    rw [e1]
    have HC := Lib.hid (begin_is W t T F (by omega) id hi hI)
    unfold ptrV at HC
    clear hl hW hb h hI hg e1 e2 e3
    go_enter Try.func11, Try.ntmps11
    go_upto_region 1 with (fail)
    rw [HW.out, HG.out]
    go_wp2_with fail
    refine HC.out.mono ?_
    rintro e w1 ⟨F', rfl, h1, h2, h3⟩
    have H1 := Lib.hid h1
    have H2 : Hid (∀ k, F' k → F k ∨ w.heap.size ≤ k) := Lib.hid (fun k hk => (h2 k hk).imp (fun x => x) (fun x => Nat.le_trans HB.out.size x))
    have H3 := Lib.hid ((Touch.of_below HB.out).trans h3 (fun _ _ h => h))
    clear h1 h2 h3 HC c0 c1 glt
    go_wp2_with fail
    go_end0
    exact ⟨F', rfl, H1.out, H2.out, H3.out⟩
  · by_cases h1 : kind = 1
    · obtain ⟨e1, e2, e3⟩ := comT_eq T kind id h0 h1
      rw [e1]
      subst h1
      have HC := Lib.hid (commit_is W t T F hn hla id hi hI)
      unfold ptrV at HC
      clear hl hW hb h hI hg e1 e2 e3
      go_enter Try.func11, Try.ntmps11
      go_upto_region 1 with (fail)
      rw [HW.out, HG.out]
      go_wp2_with fail
      refine HC.out.mono ?_
      rintro e w1 ⟨rfl, h1, h3⟩
      have H1 := Lib.hid h1
      have H3 := Lib.hid ((Touch.of_below HB.out).trans h3 (fun _ _ h => h))
      clear h1 h3 HC c0 c1 glt
      go_wp2_with fail
      go_end0
      exact ⟨F, rfl, H1.out, fun k hk => .inl hk, H3.out⟩
    · obtain ⟨e1, e2, e3⟩ := aboT_eq T kind id h0 h1
      rw [e1]
      have HC := Lib.hid (abort_is W t T F hn id hi hI)
      unfold ptrV at HC
      clear hl hW hb h hI hg e1 e2 e3
      go_enter Try.func11, Try.ntmps11
      go_upto_region 1 with (fail)
      rw [HW.out, HG.out]
      go_wp2_with fail
      refine HC.out.mono ?_
      rintro e w1 ⟨rfl, h1, h3⟩
      have H1 := Lib.hid h1
      have H3 := Lib.hid ((Touch.of_below HB.out).trans h3 (fun _ _ h => h))
      clear h1 h3 HC c0 c1 glt
      go_wp2_with fail
      go_end0
      exact ⟨F, rfl, H1.out, fun k hk => .inl hk, H3.out⟩

set_option maxRecDepth 100000 in
set_option maxHeartbeats 4000000 in
theorem told_is (w : World) (x : Nat) (T : Tb) (F : Nat → Prop) (hok : T.Ok) (hn : T.n ≤ 1000) (hla : T.last ≤ 1000) (kind id : Int) (hk : 0 ≤ kind ∧ kind ≤ 255) (hi : I64 id) (h : IsR w x T F) :
    Calls Try.prog 12 #[.agg #[.int .u8 kind, .int .i64 id], .pointer (some ⟨x, 0, none⟩)] w fun e w' => EndR w x F (T.stp kind id) (.tuple #[]) e w' := by
  obtain ⟨g, hg⟩ : ∃ g, w.heap.size = g := ⟨_, rfl⟩
  obtain ⟨W, hW⟩ : ∃ W, w.alloc (.cells #[.int .u8 kind, .int .i64 id] 29) = W := ⟨_, rfl⟩
  have hl : Lit W g 29 [.int .u8 kind, .int .i64 id] := by rw [← hW, ← hg]; exact Lit.new w _ _
  have hb : Below w.heap.size w W := by rw [← hW]; exact Below.allocs _ _
  have c0 := hl.cell (o := 0) rfl
  have c1 := hl.cell (o := 1) rfl
  have glt := hl.lt
  have HW := Lib.hid hW
  have HG := Lib.hid hg
  have hI := h.below hb
  have HB := Lib.hid hb
  by_cases h0 : kind = 0
  · subst h0
    obtain ⟨e1, e2, e3⟩ := begT_eq T id
    rw [e1]
    have HC := Lib.hid (begR_is W x T F hok hn id hi hI)
    clear hl hW hb h hI hg e1 e2 e3
    go_enter Try.func12, Try.ntmps12
    go_upto_region 1 with (fail)
    rw [HW.out, HG.out]
    go_wp2_with fail
    refine HC.out.mono ?_
    rintro e w1 ⟨F', rfl, h1, h2, h3⟩
    have H1 := Lib.hid h1
    have H2 : Hid (∀ k, F' k → F k ∨ w.heap.size ≤ k) := Lib.hid (fun k hk => (h2 k hk).imp (fun x => x) (fun x => Nat.le_trans HB.out.size x))
    have H3 := Lib.hid ((Touch.of_below HB.out).trans h3 (fun _ _ h => h))
    clear h1 h2 h3 HC c0 c1 glt
    go_wp2_with fail
    go_end0
    exact ⟨F', rfl, H1.out, H2.out, H3.out⟩
  · by_cases h1 : kind = 1
    · obtain ⟨e1, e2, e3⟩ := comT_eq T kind id h0 h1
      rw [e1]
      subst h1
      have HC := Lib.hid (commitR_is W x T F hok hn hla id hi hI)
      clear hl hW hb h hI hg e1 e2 e3
      go_enter Try.func12, Try.ntmps12
      go_upto_region 1 with (fail)
      rw [HW.out, HG.out]
      go_wp2_with fail
      refine HC.out.mono ?_
      rintro e w1 ⟨F', rfl, h1, h2, h3⟩
      have H1 := Lib.hid h1
      have H2 : Hid (∀ k, F' k → F k ∨ w.heap.size ≤ k) := Lib.hid (fun k hk => (h2 k hk).imp (fun x => x) (fun x => Nat.le_trans HB.out.size x))
      have H3 := Lib.hid ((Touch.of_below HB.out).trans h3 (fun _ _ h => h))
      clear h1 h2 h3 HC c0 c1 glt
      go_wp2_with fail
      go_end0
      exact ⟨F', rfl, H1.out, H2.out, H3.out⟩
    · obtain ⟨e1, e2, e3⟩ := aboT_eq T kind id h0 h1
      rw [e1]
      have HC := Lib.hid (abortR_is W x T F hok hn id hi hI)
      clear hl hW hb h hI hg e1 e2 e3
      go_enter Try.func12, Try.ntmps12
      go_upto_region 1 with (fail)
      rw [HW.out, HG.out]
      go_wp2_with fail
      refine HC.out.mono ?_
      rintro e w1 ⟨F', rfl, h1, h2, h3⟩
      have H1 := Lib.hid h1
      have H2 : Hid (∀ k, F' k → F k ∨ w.heap.size ≤ k) := Lib.hid (fun k hk => (h2 k hk).imp (fun x => x) (fun x => Nat.le_trans HB.out.size x))
      have H3 := Lib.hid ((Touch.of_below HB.out).trans h3 (fun _ _ h => h))
      clear h1 h2 h3 HC c0 c1 glt
      go_wp2_with fail
      go_end0
      exact ⟨F', rfl, H1.out, H2.out, H3.out⟩

theorem one_do {w0 W : World} {t : Nat} {T T' : Tb} {F : Nat → Prop} (h : One w0 W t T F) (hn : T.n ≤ 1000) (hl : T.last ≤ 1000) (kind id : Int) (hk : 0 ≤ kind ∧ kind ≤ 255) (hp : I64 id) (hT : T.stp kind id = T') :
    Calls Try.prog 11 #[.agg #[.int .u8 kind, .int .i64 id], .pointer (some ⟨t, 0, none⟩)] W fun e w' => Next w0 W t F T' (.tuple #[]) e w' := by
  refine (do_is W t T F hn hl kind id hk hp h.is).mono ?_
  rintro e w' ⟨F', rfl, h1, h2, h3⟩
  rw [hT] at h1
  exact ⟨F', rfl, ⟨h1, fun k hk => (h2 k hk).elim (h.far k) (Nat.le_trans h.bel.size), h.bel.trans (h3.below h.far h.bel.size)⟩, h3, h2⟩

/-- Both tables beside each other. -/
structure Pair (w W : World) (t : Nat) (T : Tb) (F : Nat → Prop) (x : Nat) (X : Tb) (Fx : Nat → Prop) : Prop where
  one : One w W t T F
  ref : IsR W x X Fx
  dis : ∀ k, F k → ¬ Fx k
  far : ∀ k, Fx k → w.heap.size ≤ k

section
variable {w W W' : World} {t x : Nat} {T X T' : Tb} {F Fx : Nat → Prop}
theorem Pair.below (h : Pair w W t T F x X Fx) (hb : Below W.heap.size W W') : Pair w W' t T F x X Fx := ⟨h.one.below hb, h.ref.below hb, h.dis, h.far⟩
theorem Pair.stepT {v : Value} {e : Ending} (h : Pair w W t T F x X Fx) (hn : Next w W t F T' v e W') : ∃ F', e = .returned v ∧ Pair w W' t T' F' x X Fx := by
  obtain ⟨F', he, h1, h2, h3⟩ := hn
  exact ⟨F', he, h1, h.ref.stay (h2.stay fun k hk hf => h.dis k hf hk), fun k hk hx => (h3 k hk).elim (fun hf => h.dis k hf hx) (fun hl => by have := h.ref.lt k hx; omega), h.far⟩
theorem Pair.stepR {v : Value} {e : Ending} (h : Pair w W t T F x X Fx) (hn : EndR W x Fx T' v e W') : ∃ Fx', e = .returned v ∧ Pair w W' t T F x T' Fx' := by
  obtain ⟨F', he, h1, h2, h3⟩ := hn
  exact ⟨F', he, ⟨h.one.is.stay (h3.stay fun k hk hf => h.dis k hk hf), h.one.far, h.one.bel.trans (h3.below h.far h.one.bel.size)⟩, h1, fun k hk hx => (h2 k hx).elim (fun hf => h.dis k hk hf) (fun hl => by have := h.one.is.lt k hk; omega), fun k hk => (h2 k hk).elim (h.far k) (fun hl => Nat.le_trans h.one.bel.size hl)⟩
theorem Pair.rv (h : Pair w W t T F x X Fx) (hok : X.Ok) (hn : X.n ≤ 1000) : RV W x X := ⟨Fx, h.ref, hok, hn⟩
end

theorem get_stp {l : List Stp} {i : Nat} (h : i < l.length) : ∃ s, l[i]? = some s := ⟨l[i], by simp [h]⟩
theorem run_take {T : Tb} {l : List Stp} {i : Nat} {s : Stp} (h : l[i]? = some s) : T.run (l.take (i + 1)) = (T.run (l.take i)).stp s.kind s.id := by
  rw [List.take_add_one, h]
  exact Tb.run_snoc _ _ _
theorem run_small {T : Tb} {B C : Nat} (hT : T.Small B) {l : List Stp} {n i : Nat} (hn : l.length = n) (h : B + n ≤ C) : (T.run (l.take i)).Small C := by
  have := Tb.Small.run hT (l.take i)
  have hl : (l.take i).length ≤ n := by rw [List.length_take]; omega
  exact ⟨by have := this.1; omega, by have := this.2; omega⟩

end Go.Proofs.Ytpdfknknnklioaa
