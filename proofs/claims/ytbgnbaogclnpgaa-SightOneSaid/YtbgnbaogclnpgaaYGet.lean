/-
  State, Top, Counts, Number, running: walked (stage 9).
-/
import Derived.Test.YtbgnbaogclnpgaaYMem
namespace Go.Proofs.Ytbgnbaogclnpgaa
open Go.RowKit
set_option linter.unusedVariables false

def recV (a b c d e : Value) : Value := .agg #[a, b, c, d, e]
theorem field5_0 (a b c d e : Value) (w : World) : (Instr.field 81 (recV a b c d e) 0).run Try.prog w = .ok a w := by kernel_rfl
theorem field5_1 (a b c d e : Value) (w : World) : (Instr.field 81 (recV a b c d e) 1).run Try.prog w = .ok b w := by kernel_rfl
theorem field5_2 (a b c d e : Value) (w : World) : (Instr.field 81 (recV a b c d e) 2).run Try.prog w = .ok c w := by kernel_rfl
theorem field5_3 (a b c d e : Value) (w : World) : (Instr.field 81 (recV a b c d e) 3).run Try.prog w = .ok d w := by kernel_rfl
theorem field5_4 (a b c d e : Value) (w : World) : (Instr.field 81 (recV a b c d e) 4).run Try.prog w = .ok e w := by kernel_rfl
theorem getV_rec (T : Tb) (id : Int) : getV T id = recV (.int .u8 (T.g T.st id)) (.int .i64 (T.g T.top id)) (.int .i64 (T.g T.num id)) (.int .i64 (T.g T.y id)) (.int .i64 (T.g T.old id)) := rfl
theorem zero_rec : (Value.agg #[.int .u8 0, .int .i64 0, .int .i64 0, .int .i64 0, .int .i64 0]) = recV (.int .u8 0) (.int .i64 0) (.int .i64 0) (.int .i64 0) (.int .i64 0) := rfl

/-- What get hands out, in a form that the walk leaves alone. -/
theorem get_is' (w : World) (t : Nat) (T : Tb) (F : Nat → Prop) (id : Int) (hi : I64 id) (h : Tab w t T F) : Calls Try.prog 41 #[ptrV t, .int .i64 id] w fun e w' => (e = .returned (recV (.int .u8 (T.g T.st id)) (.int .i64 (T.g T.top id)) (.int .i64 (T.g T.num id)) (.int .i64 (T.g T.y id)) (.int .i64 (T.g T.old id)))) ∧ Below w.heap.size w w' := tget_is w t T F id hi h
theorem get_nil' (w : World) (id : Int) : Calls Try.prog 41 #[.pointer none, .int .i64 id] w fun e w' => e = .returned (recV (.int .u8 0) (.int .i64 0) (.int .i64 0) (.int .i64 0) (.int .i64 0)) ∧ Below w.heap.size w w' := get_nil w id

set_option maxRecDepth 100000 in
theorem st_is (w : World) (t : Nat) (T : Tb) (F : Nat → Prop) (id : Int) (hi : I64 id) (h : Tab w t T F) : Calls Try.prog 39 #[ptrV t, .int .i64 id] w fun e w' => e = .returned (.int .u8 (T.g T.st id)) ∧ Below w.heap.size w w' := by
  have hg := get_is' w t T F id hi h
  unfold ptrV at hg ⊢
  clear h
  have hF := field5_0
  go_enter Try.func39, Try.ntmps39
  go_wp2_with fail
  refine hg.mono ?_
  rintro e w1 ⟨rfl, hb1⟩
  have HB := Lib.hid hb1
  clear hg hb1
  go_wp2_with fail
  go_ret
  exact ⟨rfl, HB.out⟩

set_option maxRecDepth 100000 in
theorem st_nil (w : World) (id : Int) : Calls Try.prog 39 #[.pointer none, .int .i64 id] w fun e w' => e = .returned (.int .u8 0) ∧ Below w.heap.size w w' := by
  have hg := get_nil' w id
  have hF := field5_0
  go_enter Try.func39, Try.ntmps39
  go_wp2_with fail
  refine hg.mono ?_
  rintro e w1 ⟨rfl, hb1⟩
  have HB := Lib.hid hb1
  clear hg hb1
  go_wp2_with fail
  go_ret
  exact ⟨rfl, HB.out⟩

set_option maxRecDepth 100000 in
theorem top_is (w : World) (t : Nat) (T : Tb) (F : Nat → Prop) (id : Int) (hi : I64 id) (h : Tab w t T F) : Calls Try.prog 26 #[ptrV t, .int .i64 id] w fun e w' => e = .returned (.int .i64 (T.g T.top id)) ∧ Below w.heap.size w w' := by
  have hg := get_is' w t T F id hi h
  unfold ptrV at hg ⊢
  clear h
  have hF := field5_1
  go_enter Try.func26, Try.ntmps26
  go_wp2_with fail
  refine hg.mono ?_
  rintro e w1 ⟨rfl, hb1⟩
  have HB := Lib.hid hb1
  clear hg hb1
  go_wp2_with fail
  go_ret
  exact ⟨rfl, HB.out⟩

set_option maxRecDepth 100000 in
theorem top_nil (w : World) (id : Int) : Calls Try.prog 26 #[.pointer none, .int .i64 id] w fun e w' => e = .returned (.int .i64 0) ∧ Below w.heap.size w w' := by
  have hg := get_nil' w id
  have hF := field5_1
  go_enter Try.func26, Try.ntmps26
  go_wp2_with fail
  refine hg.mono ?_
  rintro e w1 ⟨rfl, hb1⟩
  have HB := Lib.hid hb1
  clear hg hb1
  go_wp2_with fail
  go_ret
  exact ⟨rfl, HB.out⟩

/-- Whether it counts; its number. -/
def Tb.cnt (T : Tb) (id : Int) : Bool := decide (T.g T.st id = 1) || decide (T.g T.st id = 2)
def Tb.numI (T : Tb) (id : Int) : Int := if T.cnt id then T.g T.num (T.g T.top id) else 0

set_option maxRecDepth 100000 in
theorem counts_is (w : World) (t : Nat) (T : Tb) (F : Nat → Prop) (id : Int) (hi : I64 id) (h : Tab w t T F) (b : Bool) (hb : T.cnt id = b) : Calls Try.prog 28 #[ptrV t, .int .i64 id] w fun e w' => e = .returned (.bool b) ∧ Below w.heap.size w w' := by
  have hg := st_is w t T F id hi h
  unfold ptrV at hg ⊢
  unfold Tb.cnt at hb
  clear h
  obtain ⟨x, hx⟩ : ∃ x, T.g T.st id = x := ⟨_, rfl⟩
  rw [hx] at hg hb
  have HB0 := Lib.hid hb
  clear hb
  by_cases h1 : x = 1
  · subst h1
    go_enter Try.func28, Try.ntmps28
    go_wp2_with fail
    refine hg.mono ?_
    rintro e w1 ⟨rfl, hb1⟩
    have HB := Lib.hid hb1
    clear hg hb1
    go_wp2_with fail
    go_ret
    exact ⟨by rw [← HB0.out]; simp, HB.out⟩
  · have h1' : decide (x = 1) = false := decide_eq_false h1
    have h1'' : (x == 1) = false := by simpa using h1
    obtain ⟨d, hd⟩ : ∃ d, decide (x = 2) = d := ⟨_, rfl⟩
    have hd' : (x == 2) = d := by rw [← hd]; rfl
    rw [h1', hd, Bool.false_or] at HB0
    go_enter Try.func28, Try.ntmps28
    go_wp2_with fail
    refine hg.mono ?_
    rintro e w1 ⟨rfl, hb1⟩
    have HB := Lib.hid hb1
    clear hg hb1
    go_wp2_with fail
    go_ret
    exact ⟨by rw [← HB0.out]; rfl, HB.out⟩

set_option maxRecDepth 100000 in
theorem counts_nil (w : World) (id : Int) : Calls Try.prog 28 #[.pointer none, .int .i64 id] w fun e w' => e = .returned (.bool false) ∧ Below w.heap.size w w' := by
  have hg := st_nil w id
  go_enter Try.func28, Try.ntmps28
  go_wp2_with fail
  refine hg.mono ?_
  rintro e w1 ⟨rfl, hb1⟩
  have HB := Lib.hid hb1
  clear hg hb1
  go_wp2_with fail
  go_ret
  exact ⟨rfl, HB.out⟩

theorem g_i64 {T : Tb} (h : T.Ok) (hs : T.n ≤ 1000000) (id : Int) : I64 (T.g T.top id) := by
  by_cases hin : 1 ≤ id ∧ id ≤ T.n
  · rw [Tb.g_in hin]
    have := h.top_in id.toNat (by omega) (by omega)
    unfold I64
    omega
  · rw [Tb.g_out hin]; unfold I64; omega

set_option maxRecDepth 100000 in
theorem number_is (w : World) (t : Nat) (T : Tb) (F : Nat → Prop) (id : Int) (hi : I64 id) (hs : T.n ≤ 1000000) (h : Is w t T F) : Calls Try.prog 29 #[ptrV t, .int .i64 id] w fun e w' => e = .returned (.int .i64 (T.numI id)) ∧ Below w.heap.size w w' := by
  obtain ⟨b, hb⟩ : ∃ b, T.cnt id = b := ⟨_, rfl⟩
  have hc := counts_is w t T F id hi h.tab b hb
  have H := Lib.hid h
  have hF := field5_2
  unfold ptrV at hc ⊢
  unfold Tb.numI
  rw [hb]
  clear h hb
  cases b with
  | false =>
    go_enter Try.func29, Try.ntmps29
    go_wp2_with fail
    refine hc.mono ?_
    rintro e w1 ⟨rfl, hb1⟩
    have HB := Lib.hid hb1
    clear hc hb1
    go_wp2_with fail
    go_ret
    exact ⟨rfl, HB.out⟩
  | true =>
    go_enter Try.func29, Try.ntmps29
    go_wp2_with fail
    refine hc.mono ?_
    rintro e w1 ⟨rfl, hb1⟩
    have ht := top_is w1 t T F id hi (H.out.below hb1).tab
    have HB := Lib.hid hb1
    unfold ptrV at ht
    clear hc hb1
    go_wp2_with fail
    refine ht.mono ?_
    rintro e w2 ⟨rfl, hb2⟩
    have HB2 := Lib.hid (below_tr HB.out hb2)
    have hg := get_is' w2 t T F (T.g T.top id) (g_i64 H.out.ok hs id) (H.out.below HB2.out).tab
    unfold ptrV at hg
    clear ht hb2
    go_wp2_with fail
    refine hg.mono ?_
    rintro e w3 ⟨rfl, hb3⟩
    have HB3 := Lib.hid (below_tr HB2.out hb3)
    clear hg hb3
    go_wp2_with fail
    go_ret
    exact ⟨rfl, HB3.out⟩

set_option maxRecDepth 100000 in
theorem number_nil (w : World) (id : Int) : Calls Try.prog 29 #[.pointer none, .int .i64 id] w fun e w' => e = .returned (.int .i64 0) ∧ Below w.heap.size w w' := by
  have hc := counts_nil w id
  go_enter Try.func29, Try.ntmps29
  go_wp2_with fail
  refine hc.mono ?_
  rintro e w1 ⟨rfl, hb1⟩
  have HB := Lib.hid hb1
  clear hc hb1
  go_wp2_with fail
  go_ret
  exact ⟨rfl, HB.out⟩

set_option maxRecDepth 100000 in
theorem running_is (w : World) (t : Nat) (T : Tb) (F : Nat → Prop) (id : Int) (hi : I64 id) (h : Is w t T F) : Calls Try.prog 24 #[ptrV t, .int .i64 id] w fun e w' => e = .returned (.int .i64 (T.err id)) ∧ Below w.heap.size w w' := by
  have hg := st_is w t T F id hi h.tab
  have H := Lib.hid h
  have hok := h.ok
  unfold ptrV at hg ⊢
  clear h
  by_cases hin : 1 ≤ id ∧ id ≤ T.n
  · have h1 := hok.st1 id.toNat (by omega) (by omega)
    obtain ⟨x, hx⟩ : ∃ x, T.g T.st id = x := ⟨_, rfl⟩
    have hxx := hx
    rw [Tb.g_in hin] at hxx
    rw [hx] at hg
    have h0 : ¬ x = 0 := by omega
    obtain ⟨r, hr⟩ : ∃ r, T.err id = r := ⟨_, rfl⟩
    have hr2 : r = if x = 1 then 0 else 7 := by
      rw [← hr]
      unfold Tb.err
      rw [if_pos hin]
      by_cases hx1 : x = 1
      · rw [if_pos (by omega), if_pos hx1]
      · rw [if_neg (by omega), if_neg hx1]
    rw [hr]
    have HX := Lib.hid hx
    clear h1 hxx hx hr hok
    go_enter Try.func24, Try.ntmps24
    go_wp2_with fail
    refine hg.mono ?_
    rintro e w1 ⟨rfl, hb1⟩
    have hg2 := st_is w1 t T F id hi (H.out.below hb1).tab
    unfold ptrV at hg2
    rw [HX.out] at hg2
    have HB := Lib.hid hb1
    clear hg hb1
    go_wp2_with fail
    refine hg2.mono ?_
    rintro e w2 ⟨rfl, hb2⟩
    have HB2 := Lib.hid (below_tr HB.out hb2)
    clear hg2 hb2
    by_cases hx1 : x = 1
    · rw [if_pos hx1] at hr2
      subst hr2
      go_wp2_with fail
      go_ret
      exact ⟨rfl, HB2.out⟩
    · rw [if_neg hx1] at hr2
      subst hr2
      go_wp2_with fail
      go_ret
      exact ⟨rfl, HB2.out⟩
  · have hr : T.err id = 5 := by unfold Tb.err; rw [if_neg hin]
    rw [hr]
    rw [Tb.g_out hin] at hg
    clear hok hr
    go_enter Try.func24, Try.ntmps24
    go_wp2_with fail
    refine hg.mono ?_
    rintro e w1 ⟨rfl, hb1⟩
    have HB := Lib.hid hb1
    clear hg hb1
    go_wp2_with fail
    go_ret
    exact ⟨rfl, HB.out⟩

theorem running_nil (w : World) (id : Int) : Calls Try.prog 24 #[.pointer none, .int .i64 id] w fun e w' => e = .returned (.int .i64 2) ∧ Below w.heap.size w w' := by
  have hB := Below.refl w.heap.size w
  go_enter Try.func24, Try.ntmps24
  go_wp2_with fail
  go_ret
  exact ⟨rfl, hB⟩

/-- New: an empty table. -/
theorem tnew_is (w : World) : Calls Try.prog 8 #[] w fun e w' => ∃ t F, e = .returned (ptrV t) ∧ Is w' t Tb.new F ∧ (∀ k, F k → w.heap.size ≤ k) ∧ Below w.heap.size w w' := by
  have hl := Lit.new w 78 [.slice none 0 0, .int .i64 0]
  have hb := Below.allocs w (.cells #[.slice none 0 0, .int .i64 0] 78)
  have hz : (w.alloc (.cells #[.slice none 0 0, .int .i64 0] 78)).heap.size = w.heap.size + 1 := by simp
  have HI : Hid (Is (w.alloc (.cells #[.slice none 0 0, .int .i64 0] 78)) w.heap.size Tb.new (fun k => k = w.heap.size)) := Lib.hid ⟨Tb.new_ok, rfl, fun k hk => by omega, _, hl, RowF.nil _ _ _ _, fun k hk => by simp [Value.ownBlock] at hk⟩
  have HB := Lib.hid hb
  clear hl hb hz
  go_enter Try.func8, Try.ntmps8
  go_wp2_with fail
  go_ret
  exact ⟨w.heap.size, _, rfl, HI.out, fun k hk => Nat.le_of_eq hk.symm, HB.out⟩

end Go.Proofs.Ytbgnbaogclnpgaa
