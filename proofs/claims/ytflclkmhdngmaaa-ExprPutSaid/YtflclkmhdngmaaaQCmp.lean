/-
  How values stand to each other: Equal and Less (by relate and compare).
-/
import Derived.Test.YtflclkmhdngmaaaQKeep
namespace Go.Proofs.Ytflclkmhdngmaaa
open Go.RowKit

def ordI (a b : Int) : Int := if a < b then -1 else if b < a then 1 else 0
def ordS (a b : ByteArray) : Int := if Op.bytesLess a.toList b.toList = true then -1 else if (a.toList == b.toList) = true then 0 else 1

theorem field_n (z : Int) (w : World) : (Instr.field 23 (.agg #[.int .u8 2, .int .i64 z, .int .i64 0, .string ⟨#[]⟩]) 1).run Try.prog w = .ok (.int .i64 z) w := by kernel_rfl

theorem nan_i (a : Int) (w : World) : Calls Try.prog 106 #[.int .i64 a] w fun e w' => e = .returned (.bool false) ∧ w = w' := by
  go_enter Try.func106, Try.ntmps106
  go_wp2
  go_ret
  exact ⟨by simp, rfl⟩

theorem nan_s (a : ByteArray) (w : World) : Calls Try.prog 107 #[.string a] w fun e w' => e = .returned (.bool false) ∧ w = w' := by
  go_enter Try.func107, Try.ntmps107
  go_wp2
  go_ret
  exact ⟨by simp, rfl⟩

theorem cmp_i (a b : Int) (w : World) : Calls Try.prog 103 #[.int .i64 a, .int .i64 b] w fun e w' => e = .returned (.int .i64 (ordI a b)) ∧ w = w' := by
  by_cases h1 : a < b
  · have e : ordI a b = -1 := by simp [ordI, h1]
    rw [e]
    clear e
    go_enter Try.func103, Try.ntmps103
    go_wp2_with (first | (go_at_call 106; refine (nan_i _ _).mono ?_; rintro e w' ⟨rfl, rfl⟩))
    go_ret
    exact ⟨rfl, rfl⟩
  · by_cases h2 : b < a
    · have e : ordI a b = 1 := by simp [ordI, h1, h2]
      rw [e]
      clear e
      go_enter Try.func103, Try.ntmps103
      go_wp2_with (first | (go_at_call 106; refine (nan_i _ _).mono ?_; rintro e w' ⟨rfl, rfl⟩))
      go_ret
      exact ⟨rfl, rfl⟩
    · have e : ordI a b = 0 := by simp [ordI, h1, h2]
      rw [e]
      clear e
      go_enter Try.func103, Try.ntmps103
      go_wp2_with (first | (go_at_call 106; refine (nan_i _ _).mono ?_; rintro e w' ⟨rfl, rfl⟩))
      go_ret
      exact ⟨rfl, rfl⟩

theorem cmp_s (a b : ByteArray) (w : World) : Calls Try.prog 104 #[.string a, .string b] w fun e w' => e = .returned (.int .i64 (ordS a b)) ∧ w = w' := by
  cases h1 : Op.bytesLess a.toList b.toList
  · cases h2 : (a.toList == b.toList)
    · have e : ordS a b = 1 := by simp [ordS, h1, h2]
      rw [e]
      clear e
      go_enter Try.func104, Try.ntmps104
      go_wp2_with (first | (go_at_call 107; refine (nan_s _ _).mono ?_; rintro e w' ⟨rfl, rfl⟩))
      go_ret
      exact ⟨rfl, rfl⟩
    · have e : ordS a b = 0 := by simp [ordS, h1, h2]
      rw [e]
      clear e
      go_enter Try.func104, Try.ntmps104
      go_wp2_with (first | (go_at_call 107; refine (nan_s _ _).mono ?_; rintro e w' ⟨rfl, rfl⟩))
      go_ret
      exact ⟨rfl, rfl⟩
  · have e : ordS a b = -1 := by simp [ordS, h1]
    rw [e]
    clear e
    go_enter Try.func104, Try.ntmps104
    go_wp2_with (first | (go_at_call 107; refine (nan_s _ _).mono ?_; rintro e w' ⟨rfl, rfl⟩))
    go_ret
    exact ⟨rfl, rfl⟩

def cmpK (k n u : Int) (t : ByteArray) (n' u' : Int) (t' : ByteArray) : Int :=
  if k = 2 then ordI (ofN (yesB 2 n)) (ofN (yesB 2 n')) else if k = 3 then ordS t t' else if k = 4 ∧ n = n' then ordI u u' else ordI n n'

theorem boxesAB (w : World) (k n u : Int) (t : ByteArray) (k' n' u' : Int) (t' : ByteArray) : ∃ W : World, W = (w.alloc (.cells #[.int .u8 k, .int .i64 n, .int .i64 u, .string t] 23)).alloc (.cells #[.int .u8 k', .int .i64 n', .int .i64 u', .string t'] 23) ∧
    Boxed W w.heap.size k n u t ∧ Boxed W (w.heap.size + 1) k' n' u' t' ∧ Below w.heap.size w W ∧ W.heap.size = w.heap.size + 2 := by
  refine ⟨_, rfl, ?_, ?_, ((Below.refl _ _).alloc (Nat.le_refl _) _).alloc (by simp) _, by simp⟩
  · exact (Boxed.new w k n u t 23).below (Below.allocs _ _)
  · have := Boxed.new (w.alloc (.cells #[.int .u8 k, .int .i64 n, .int .i64 u, .string t] 23)) k' n' u' t' 23
    rw [show (w.alloc (.cells #[.int .u8 k, .int .i64 n, .int .i64 u, .string t] 23)).heap.size = w.heap.size + 1 by simp] at this
    exact this

set_option maxHeartbeats 2000000 in
theorem compare_bool (n u : Int) (t : ByteArray) (n' u' : Int) (t' : ByteArray) (y y' : Bool) (hy : yesB 2 n = y) (hz : yesB 2 n' = y') (w : World) :
    Calls Try.prog 95 #[.agg #[.int .u8 2, .int .i64 n, .int .i64 u, .string t], .agg #[.int .u8 2, .int .i64 n', .int .i64 u', .string t']] w fun e w' => e = .returned (.int .i64 (ordI (ofN y) (ofN y'))) ∧ Below w.heap.size w w' := by
  have HY := Lib.hid hy
  have HZ := Lib.hid hz
  clear hy hz
  obtain ⟨W, hW, A0, B0, hw, hs⟩ := boxesAB w 2 n u t 2 n' u' t'
  obtain ⟨g, hg⟩ : ∃ g, w.heap.size = g := ⟨_, rfl⟩
  rw [hg] at A0 B0 hs
  have HS := Lib.hid hs
  clear hs
  have A0' := A0
  have B0' := B0
  obtain ⟨a0, a1, a2, a3, a4⟩ := A0'
  obtain ⟨b0, b1, b2, b3, b4⟩ := B0'
  go_enter Try.func95, Try.ntmps95
  go_wp2_with fail
  rw [← hW]
  clear hW
  have hd := below_drew W
  refine wp_region_plan (fun w w' => Below w.heap.size w w') [.it (.agg #[.int .u8 2, .int .i64 n, .int .i64 u, .string t]), .it (.bool y), .it (.agg #[.int .u8 2, .int .i64 (ofN y), .int .i64 0, .string ⟨#[]⟩]), .it (.int .i64 (ofN y)), .it (.agg #[.int .u8 2, .int .i64 n', .int .i64 u', .string t']), .it (.bool y'), .it (.agg #[.int .u8 2, .int .i64 (ofN y'), .int .i64 0, .string ⟨#[]⟩]), .it (.int .i64 (ofN y')), .it (.int .i64 (ordI (ofN y) (ofN y'))), .it (.int .i64 (ordI (ofN y) (ofN y')))] (by kernel_rfl) (by kernel_rfl) (fun w => Below.refl _ _) (fun _ _ _ => below_tr) ?_
  refine seqP_value (fun w => Below.refl _ _) _ (by first | rfl | simp) (fun w' hw' hctx => ?_) ?_
  · obtain ⟨c0, c1, c2, c3, c4⟩ := A0.below (below_tr hd hw')
    go_simp
    try first | with_reducible rfl | simp
  simp only [Act.put, List.setIfInBounds_toArray, List.set_cons_zero, List.set_cons_succ]
  refine seqP_call 40 #[.agg #[.int .u8 2, .int .i64 n, .int .i64 u, .string t]] (.bool y) (by first | rfl | simp) (fun w' hw' hctx => ?_) (fun w' hw' hctx => yes_is 2 n u t y HY.out w') ?_
  · go_simp
  simp only [Act.put, List.setIfInBounds_toArray, List.set_cons_zero, List.set_cons_succ]
  refine seqP_call 75 #[.bool y] (.agg #[.int .u8 2, .int .i64 (ofN y), .int .i64 0, .string ⟨#[]⟩]) (by first | rfl | simp) (fun w' hw' hctx => ?_) (fun w' hw' hctx => of_is y w') ?_
  · go_simp
  simp only [Act.put, List.setIfInBounds_toArray, List.set_cons_zero, List.set_cons_succ]
  refine seqP_value (fun w => Below.refl _ _) _ (by first | rfl | simp) (fun w' hw' hctx => ?_) ?_
  · go_simp
    simp only [field_n, Result.andThen_ok]
  simp only [Act.put, List.setIfInBounds_toArray, List.set_cons_zero, List.set_cons_succ]
  refine seqP_value (fun w => Below.refl _ _) _ (by first | rfl | simp) (fun w' hw' hctx => ?_) ?_
  · obtain ⟨c0, c1, c2, c3, c4⟩ := B0.below (below_tr hd hw')
    go_simp
    try first | with_reducible rfl | simp
  simp only [Act.put, List.setIfInBounds_toArray, List.set_cons_zero, List.set_cons_succ]
  refine seqP_call 40 #[.agg #[.int .u8 2, .int .i64 n', .int .i64 u', .string t']] (.bool y') (by first | rfl | simp) (fun w' hw' hctx => ?_) (fun w' hw' hctx => yes_is 2 n' u' t' y' HZ.out w') ?_
  · go_simp
  simp only [Act.put, List.setIfInBounds_toArray, List.set_cons_zero, List.set_cons_succ]
  refine seqP_call 75 #[.bool y'] (.agg #[.int .u8 2, .int .i64 (ofN y'), .int .i64 0, .string ⟨#[]⟩]) (by first | rfl | simp) (fun w' hw' hctx => ?_) (fun w' hw' hctx => of_is y' w') ?_
  · go_simp
  simp only [Act.put, List.setIfInBounds_toArray, List.set_cons_zero, List.set_cons_succ]
  refine seqP_value (fun w => Below.refl _ _) _ (by first | rfl | simp) (fun w' hw' hctx => ?_) ?_
  · go_simp
    simp only [field_n, Result.andThen_ok]
  simp only [Act.put, List.setIfInBounds_toArray, List.set_cons_zero, List.set_cons_succ]
  refine seqP_call 103 #[.int .i64 (ofN y), .int .i64 (ofN y')] (.int .i64 (ordI (ofN y) (ofN y'))) (by first | rfl | simp) (fun w' hw' hctx => ?_) (fun w' hw' hctx => (cmp_i _ _ w').mono fun e w2 ⟨he, h2⟩ => ⟨he, h2 ▸ Below.refl _ _⟩) ?_
  · go_simp
  simp only [Act.put, List.setIfInBounds_toArray, List.set_cons_zero, List.set_cons_succ]
  refine seqP_value (fun w => Below.refl _ _) _ (by first | rfl | simp) (fun w' hw' hctx => ?_) ?_
  · go_simp
    try first | with_reducible rfl | simp
  simp only [Act.put, List.setIfInBounds_toArray, List.set_cons_zero, List.set_cons_succ]
  refine seqP_nil (fun w' hw' hctx => ?_)
  have hb : Below w.heap.size w w' := below_tr (below_tr hw hd) hw'
  clear hctx hw'
  go_wp2_with fail
  go_ret
  exact ⟨rfl, hb⟩

set_option maxHeartbeats 2000000 in
theorem compare_text (n u : Int) (t : ByteArray) (n' u' : Int) (t' : ByteArray) (w : World) :
    Calls Try.prog 95 #[.agg #[.int .u8 3, .int .i64 n, .int .i64 u, .string t], .agg #[.int .u8 3, .int .i64 n', .int .i64 u', .string t']] w fun e w' => e = .returned (.int .i64 (ordS t t')) ∧ Below w.heap.size w w' := by
  obtain ⟨W, hW, A0, B0, hw, hs⟩ := boxesAB w 3 n u t 3 n' u' t'
  obtain ⟨g, hg⟩ : ∃ g, w.heap.size = g := ⟨_, rfl⟩
  rw [hg] at A0 B0 hs
  have HS := Lib.hid hs
  clear hs
  have A0' := A0
  have B0' := B0
  obtain ⟨a0, a1, a2, a3, a4⟩ := A0'
  obtain ⟨b0, b1, b2, b3, b4⟩ := B0'
  go_enter Try.func95, Try.ntmps95
  go_wp2_with fail
  rw [← hW]
  clear hW
  refine (cmp_s t t' _).mono ?_
  rintro e w1 ⟨rfl, rfl⟩
  go_wp2_with fail
  go_ret
  exact ⟨rfl, hw⟩

set_option maxHeartbeats 2000000 in
theorem compare_span (n u : Int) (t : ByteArray) (u' : Int) (t' : ByteArray) (w : World) :
    Calls Try.prog 95 #[.agg #[.int .u8 4, .int .i64 n, .int .i64 u, .string t], .agg #[.int .u8 4, .int .i64 n, .int .i64 u', .string t']] w fun e w' => e = .returned (.int .i64 (ordI u u')) ∧ Below w.heap.size w w' := by
  obtain ⟨W, hW, A0, B0, hw, hs⟩ := boxesAB w 4 n u t 4 n u' t'
  obtain ⟨g, hg⟩ : ∃ g, w.heap.size = g := ⟨_, rfl⟩
  rw [hg] at A0 B0 hs
  have HS := Lib.hid hs
  clear hs
  have A0' := A0
  have B0' := B0
  obtain ⟨a0, a1, a2, a3, a4⟩ := A0'
  obtain ⟨b0, b1, b2, b3, b4⟩ := B0'
  go_enter Try.func95, Try.ntmps95
  go_wp2_with fail
  rw [← hW]
  clear hW
  refine (cmp_i u u' _).mono ?_
  rintro e w1 ⟨rfl, rfl⟩
  go_wp2_with fail
  go_ret
  exact ⟨rfl, hw⟩

set_option maxHeartbeats 2000000 in
theorem compare_span2 (n u : Int) (t : ByteArray) (n' u' : Int) (t' : ByteArray) (h : (n == n') = false) (w : World) :
    Calls Try.prog 95 #[.agg #[.int .u8 4, .int .i64 n, .int .i64 u, .string t], .agg #[.int .u8 4, .int .i64 n', .int .i64 u', .string t']] w fun e w' => e = .returned (.int .i64 (ordI n n')) ∧ Below w.heap.size w w' := by
  obtain ⟨W, hW, A0, B0, hw, hs⟩ := boxesAB w 4 n u t 4 n' u' t'
  obtain ⟨g, hg⟩ : ∃ g, w.heap.size = g := ⟨_, rfl⟩
  rw [hg] at A0 B0 hs
  have HS := Lib.hid hs
  clear hs
  have A0' := A0
  have B0' := B0
  obtain ⟨a0, a1, a2, a3, a4⟩ := A0'
  obtain ⟨b0, b1, b2, b3, b4⟩ := B0'
  go_enter Try.func95, Try.ntmps95
  go_wp2_with fail
  rw [← hW]
  clear hW
  refine (cmp_i n n' _).mono ?_
  rintro e w1 ⟨rfl, rfl⟩
  go_wp2_with fail
  go_ret
  exact ⟨rfl, hw⟩

set_option maxHeartbeats 2000000 in
theorem compare_else (k : Int) (n u : Int) (t : ByteArray) (n' u' : Int) (t' : ByteArray) (h2 : (k == 2) = false) (h3 : (k == 3) = false) (h4 : (k == 4) = false) (w : World) :
    Calls Try.prog 95 #[.agg #[.int .u8 k, .int .i64 n, .int .i64 u, .string t], .agg #[.int .u8 k, .int .i64 n', .int .i64 u', .string t']] w fun e w' => e = .returned (.int .i64 (ordI n n')) ∧ Below w.heap.size w w' := by
  obtain ⟨W, hW, A0, B0, hw, hs⟩ := boxesAB w k n u t k n' u' t'
  obtain ⟨g, hg⟩ : ∃ g, w.heap.size = g := ⟨_, rfl⟩
  rw [hg] at A0 B0 hs
  have HS := Lib.hid hs
  clear hs
  have A0' := A0
  have B0' := B0
  obtain ⟨a0, a1, a2, a3, a4⟩ := A0'
  obtain ⟨b0, b1, b2, b3, b4⟩ := B0'
  go_enter Try.func95, Try.ntmps95
  go_wp2_with fail
  rw [← hW]
  clear hW
  refine (cmp_i n n' _).mono ?_
  rintro e w1 ⟨rfl, rfl⟩
  go_wp2_with fail
  go_ret
  exact ⟨rfl, hw⟩

theorem compare_is (k n u : Int) (t : ByteArray) (n' u' : Int) (t' : ByteArray) (c : Int) (hc : cmpK k n u t n' u' t' = c) (w : World) :
    Calls Try.prog 95 #[.agg #[.int .u8 k, .int .i64 n, .int .i64 u, .string t], .agg #[.int .u8 k, .int .i64 n', .int .i64 u', .string t']] w fun e w' => e = .returned (.int .i64 c) ∧ Below w.heap.size w w' := by
  subst hc
  unfold cmpK
  by_cases h2 : k = 2
  · subst h2; rw [if_pos rfl]; exact compare_bool n u t n' u' t' _ _ rfl rfl w
  · rw [if_neg h2]
    by_cases h3 : k = 3
    · subst h3; rw [if_pos rfl]; exact compare_text n u t n' u' t' w
    · rw [if_neg h3]
      by_cases h4 : k = 4
      · subst h4
        by_cases hn : n = n'
        · subst hn; rw [if_pos ⟨rfl, rfl⟩]; exact compare_span n u t u' t' w
        · rw [if_neg (fun h => hn h.2)]; exact compare_span2 n u t n' u' t' (by simpa using hn) w
      · rw [if_neg (fun h => h4 h.1)]; exact compare_else k n u t n' u' t' (by simpa using h2) (by simpa using h3) (by simpa using h4) w

theorem equal_lit (c : Int) (b : Bool) (hb : (c == 0) = b) (w : World) :
    Calls Try.prog 81 #[.int .i64 c] w fun e w' => e = .returned (.bool b) ∧ Below w.heap.size w w' := by
  subst hb
  go_enter Try.func81, Try.ntmps81
  go_wp2
  go_ret
  exact ⟨rfl, Below.refl _ _⟩

set_option maxHeartbeats 2000000 in
theorem rel_equal_z (k n u : Int) (t : ByteArray) (k' n' u' : Int) (t' : ByteArray) (hz : nullB k = true) (w : World) :
    Calls Try.prog 80 #[.agg #[.int .u8 k, .int .i64 n, .int .i64 u, .string t], .agg #[.int .u8 k', .int .i64 n', .int .i64 u', .string t'], .func (.func 81) #[] #[]] w fun e w' => e = .returned (.tuple #[.agg #[.int .u8 0, .int .i64 0, .int .i64 0, .string ⟨#[]⟩], .int .i64 0]) ∧ Below w.heap.size w w' := by
  have Hhz := Lib.hid hz
  clear hz
  obtain ⟨W, hW, A0, B0, R0, SR0, hw, hs⟩ := boxes3 w k n u t k' n' u' t'
  obtain ⟨g, hg⟩ : ∃ g, w.heap.size = g := ⟨_, rfl⟩
  rw [hg] at A0 B0 R0 SR0 hs
  have hw0 := hw
  have HS := Lib.hid hs
  clear hs
  go_enter Try.func80, Try.ntmps80
  go_wp2_with fail
  rw [← hW]
  clear hW
  refine (null_is k n u t true Hhz.out _).mono ?_
  rintro e w1 ⟨rfl, hb1⟩
  have hw1 := below_tr hw0 hb1
  have A1 := A0.below hb1
  have B1 := B0.below hb1
  have R1 := R0.below hb1
  have SR1 := SR0.below hb1
  have A1' := A1
  obtain ⟨a0, a1, a2, a3, a4⟩ := A1'
  have B1' := B1
  obtain ⟨b0, b1, b2, b3, b4⟩ := B1'
  have R1' := R1
  obtain ⟨r0, r1, r2, r3, r4⟩ := R1'
  obtain ⟨s0, s1, s2, s3, s4⟩ := SR1
  go_wp2_with fail
  have hwz := below_put4 hw1 (by omega : w.heap.size ≤ g + 2) 0 0 0 ⟨#[]⟩
  obtain ⟨q0, q1, q2, q3, q4⟩ := boxed_put4 R1 0 0 0 ⟨#[]⟩
  exact bodyPost_ret (w := put4 w1 (g + 2) 0 0 0 ⟨#[]⟩) (v := .tuple #[.agg #[.int .u8 0, .int .i64 0, .int .i64 0, .string ⟨#[]⟩], .int .i64 0]) (by simp [results, Try.results80, go_sem, q0, q1, q2, q3]) rfl ⟨rfl, hwz⟩

set_option maxHeartbeats 2000000 in
theorem rel_equal_y (k n u : Int) (t : ByteArray) (k' n' u' : Int) (t' : ByteArray) (hz : nullB k = false) (hy : nullB k' = true) (w : World) :
    Calls Try.prog 80 #[.agg #[.int .u8 k, .int .i64 n, .int .i64 u, .string t], .agg #[.int .u8 k', .int .i64 n', .int .i64 u', .string t'], .func (.func 81) #[] #[]] w fun e w' => e = .returned (.tuple #[.agg #[.int .u8 0, .int .i64 0, .int .i64 0, .string ⟨#[]⟩], .int .i64 0]) ∧ Below w.heap.size w w' := by
  have Hhz := Lib.hid hz
  clear hz
  have Hhy := Lib.hid hy
  clear hy
  obtain ⟨W, hW, A0, B0, R0, SR0, hw, hs⟩ := boxes3 w k n u t k' n' u' t'
  obtain ⟨g, hg⟩ : ∃ g, w.heap.size = g := ⟨_, rfl⟩
  rw [hg] at A0 B0 R0 SR0 hs
  have hw0 := hw
  have HS := Lib.hid hs
  clear hs
  go_enter Try.func80, Try.ntmps80
  go_wp2_with fail
  rw [← hW]
  clear hW
  refine (null_is k n u t false Hhz.out _).mono ?_
  rintro e w1 ⟨rfl, hb1⟩
  have hw1 := below_tr hw0 hb1
  have A1 := A0.below hb1
  have B1 := B0.below hb1
  have R1 := R0.below hb1
  have SR1 := SR0.below hb1
  have A1' := A1
  obtain ⟨a0, a1, a2, a3, a4⟩ := A1'
  have B1' := B1
  obtain ⟨b0, b1, b2, b3, b4⟩ := B1'
  have R1' := R1
  obtain ⟨r0, r1, r2, r3, r4⟩ := R1'
  go_wp2_with fail
  refine (null_is k' n' u' t' true Hhy.out _).mono ?_
  rintro e w2 ⟨rfl, hb2⟩
  have hw2 := below_tr hw1 hb2
  have A2 := A1.below hb2
  have B2 := B1.below hb2
  have R2 := R1.below hb2
  have SR2 := SR1.below hb2
  clear a0 a1 a2 a3 a4 b0 b1 b2 b3 b4 r0 r1 r2 r3 r4
  have A2' := A2
  obtain ⟨a0, a1, a2, a3, a4⟩ := A2'
  have B2' := B2
  obtain ⟨b0, b1, b2, b3, b4⟩ := B2'
  have R2' := R2
  obtain ⟨r0, r1, r2, r3, r4⟩ := R2'
  obtain ⟨s0, s1, s2, s3, s4⟩ := SR2
  go_wp2_with fail
  have hwz := below_put4 hw2 (by omega : w.heap.size ≤ g + 2) 0 0 0 ⟨#[]⟩
  obtain ⟨q0, q1, q2, q3, q4⟩ := boxed_put4 R2 0 0 0 ⟨#[]⟩
  exact bodyPost_ret (w := put4 w2 (g + 2) 0 0 0 ⟨#[]⟩) (v := .tuple #[.agg #[.int .u8 0, .int .i64 0, .int .i64 0, .string ⟨#[]⟩], .int .i64 0]) (by simp [results, Try.results80, go_sem, q0, q1, q2, q3]) rfl ⟨rfl, hwz⟩

set_option maxHeartbeats 2000000 in
theorem rel_equal_ne (k n u : Int) (t : ByteArray) (k' n' u' : Int) (t' : ByteArray) (hz : nullB k = false) (hy : nullB k' = false) (hk : (k != k') = true) (w : World) :
    Calls Try.prog 80 #[.agg #[.int .u8 k, .int .i64 n, .int .i64 u, .string t], .agg #[.int .u8 k', .int .i64 n', .int .i64 u', .string t'], .func (.func 81) #[] #[]] w fun e w' => e = .returned (.tuple #[.agg #[.int .u8 0, .int .i64 0, .int .i64 0, .string ⟨#[]⟩], .int .i64 60]) ∧ Below w.heap.size w w' := by
  have Hhz := Lib.hid hz
  clear hz
  have Hhy := Lib.hid hy
  clear hy
  obtain ⟨W, hW, A0, B0, R0, SR0, hw, hs⟩ := boxes3 w k n u t k' n' u' t'
  obtain ⟨g, hg⟩ : ∃ g, w.heap.size = g := ⟨_, rfl⟩
  rw [hg] at A0 B0 R0 SR0 hs
  have hw0 := hw
  have HS := Lib.hid hs
  clear hs
  go_enter Try.func80, Try.ntmps80
  go_wp2_with fail
  rw [← hW]
  clear hW
  refine (null_is k n u t false Hhz.out _).mono ?_
  rintro e w1 ⟨rfl, hb1⟩
  have hw1 := below_tr hw0 hb1
  have A1 := A0.below hb1
  have B1 := B0.below hb1
  have R1 := R0.below hb1
  have SR1 := SR0.below hb1
  have A1' := A1
  obtain ⟨a0, a1, a2, a3, a4⟩ := A1'
  have B1' := B1
  obtain ⟨b0, b1, b2, b3, b4⟩ := B1'
  have R1' := R1
  obtain ⟨r0, r1, r2, r3, r4⟩ := R1'
  go_wp2_with fail
  refine (null_is k' n' u' t' false Hhy.out _).mono ?_
  rintro e w2 ⟨rfl, hb2⟩
  have hw2 := below_tr hw1 hb2
  have A2 := A1.below hb2
  have B2 := B1.below hb2
  have R2 := R1.below hb2
  have SR2 := SR1.below hb2
  clear a0 a1 a2 a3 a4 b0 b1 b2 b3 b4 r0 r1 r2 r3 r4
  have A2' := A2
  obtain ⟨a0, a1, a2, a3, a4⟩ := A2'
  have B2' := B2
  obtain ⟨b0, b1, b2, b3, b4⟩ := B2'
  have R2' := R2
  obtain ⟨r0, r1, r2, r3, r4⟩ := R2'
  obtain ⟨s0, s1, s2, s3, s4⟩ := SR2
  go_wp2_with fail
  have hwz := below_put4 hw2 (by omega : w.heap.size ≤ g + 2) 0 0 0 ⟨#[]⟩
  obtain ⟨q0, q1, q2, q3, q4⟩ := boxed_put4 R2 0 0 0 ⟨#[]⟩
  exact bodyPost_ret (w := put4 w2 (g + 2) 0 0 0 ⟨#[]⟩) (v := .tuple #[.agg #[.int .u8 0, .int .i64 0, .int .i64 0, .string ⟨#[]⟩], .int .i64 60]) (by simp [results, Try.results80, go_sem, q0, q1, q2, q3]) rfl ⟨rfl, hwz⟩

set_option maxHeartbeats 2000000 in
theorem rel_equal_eq (k n u : Int) (t : ByteArray) (n' u' : Int) (t' : ByteArray) (hz : nullB k = false) (c : Int) (hc : cmpK k n u t n' u' t' = c) (b : Bool) (hb : (c == 0) = b) (w : World) :
    Calls Try.prog 80 #[.agg #[.int .u8 k, .int .i64 n, .int .i64 u, .string t], .agg #[.int .u8 k, .int .i64 n', .int .i64 u', .string t'], .func (.func 81) #[] #[]] w fun e w' => e = .returned (.tuple #[.agg #[.int .u8 2, .int .i64 (ofN b), .int .i64 0, .string ⟨#[]⟩], .int .i64 0]) ∧ Below w.heap.size w w' := by
  have Hhz := Lib.hid hz
  clear hz
  have Hhc := Lib.hid hc
  clear hc
  have Hhb := Lib.hid hb
  clear hb
  obtain ⟨W, hW, A0, B0, R0, SR0, hw, hs⟩ := boxes3 w k n u t k n' u' t'
  obtain ⟨g, hg⟩ : ∃ g, w.heap.size = g := ⟨_, rfl⟩
  rw [hg] at A0 B0 R0 SR0 hs
  have hw0 := hw
  have HS := Lib.hid hs
  clear hs
  go_enter Try.func80, Try.ntmps80
  go_wp2_with fail
  rw [← hW]
  clear hW
  have hk : (k != k) = false := by simp
  refine (null_is k n u t false Hhz.out _).mono ?_
  rintro e w1 ⟨rfl, hb1⟩
  have hw1 := below_tr hw0 hb1
  have A1 := A0.below hb1
  have B1 := B0.below hb1
  have R1 := R0.below hb1
  have SR1 := SR0.below hb1
  have A1' := A1
  obtain ⟨a0, a1, a2, a3, a4⟩ := A1'
  have B1' := B1
  obtain ⟨b0, b1, b2, b3, b4⟩ := B1'
  have R1' := R1
  obtain ⟨r0, r1, r2, r3, r4⟩ := R1'
  go_wp2_with fail
  refine (null_is k n' u' t' false Hhz.out _).mono ?_
  rintro e w2 ⟨rfl, hb2⟩
  have hw2 := below_tr hw1 hb2
  have A2 := A1.below hb2
  have B2 := B1.below hb2
  have R2 := R1.below hb2
  have SR2 := SR1.below hb2
  clear a0 a1 a2 a3 a4 b0 b1 b2 b3 b4 r0 r1 r2 r3 r4
  have A2' := A2
  obtain ⟨a0, a1, a2, a3, a4⟩ := A2'
  have B2' := B2
  obtain ⟨b0, b1, b2, b3, b4⟩ := B2'
  have R2' := R2
  obtain ⟨r0, r1, r2, r3, r4⟩ := R2'
  go_wp2_with fail
  refine (compare_is k n u t n' u' t' c Hhc.out _).mono ?_
  rintro e w3 ⟨rfl, hb3⟩
  have hw3 := below_tr hw2 hb3
  have A3 := A2.below hb3
  have B3 := B2.below hb3
  have R3 := R2.below hb3
  have SR3 := SR2.below hb3
  clear a0 a1 a2 a3 a4 b0 b1 b2 b3 b4 r0 r1 r2 r3 r4
  have A3' := A3
  obtain ⟨a0, a1, a2, a3, a4⟩ := A3'
  have B3' := B3
  obtain ⟨b0, b1, b2, b3, b4⟩ := B3'
  have R3' := R3
  obtain ⟨r0, r1, r2, r3, r4⟩ := R3'
  go_wp2_with fail
  refine (equal_lit c b Hhb.out _).mono ?_
  rintro e w4 ⟨rfl, hb4⟩
  have hw4 := below_tr hw3 hb4
  have A4 := A3.below hb4
  have B4 := B3.below hb4
  have R4 := R3.below hb4
  have SR4 := SR3.below hb4
  clear a0 a1 a2 a3 a4 b0 b1 b2 b3 b4 r0 r1 r2 r3 r4
  have A4' := A4
  obtain ⟨a0, a1, a2, a3, a4⟩ := A4'
  have B4' := B4
  obtain ⟨b0, b1, b2, b3, b4⟩ := B4'
  have R4' := R4
  obtain ⟨r0, r1, r2, r3, r4⟩ := R4'
  go_wp2_with fail
  refine (of_is b _).mono ?_
  rintro e w5 ⟨rfl, hb5⟩
  have hw5 := below_tr hw4 hb5
  have A5 := A4.below hb5
  have B5 := B4.below hb5
  have R5 := R4.below hb5
  have SR5 := SR4.below hb5
  clear a0 a1 a2 a3 a4 b0 b1 b2 b3 b4 r0 r1 r2 r3 r4
  have A5' := A5
  obtain ⟨a0, a1, a2, a3, a4⟩ := A5'
  have B5' := B5
  obtain ⟨b0, b1, b2, b3, b4⟩ := B5'
  have R5' := R5
  obtain ⟨r0, r1, r2, r3, r4⟩ := R5'
  obtain ⟨s0, s1, s2, s3, s4⟩ := SR5
  go_wp2_with fail
  have hwz := below_put4 hw5 (by omega : w.heap.size ≤ g + 2) 2 (ofN b) 0 ⟨#[]⟩
  obtain ⟨q0, q1, q2, q3, q4⟩ := boxed_put4 R5 2 (ofN b) 0 ⟨#[]⟩
  exact bodyPost_ret (w := put4 w5 (g + 2) 2 (ofN b) 0 ⟨#[]⟩) (v := .tuple #[.agg #[.int .u8 2, .int .i64 (ofN b), .int .i64 0, .string ⟨#[]⟩], .int .i64 0]) (by simp [results, Try.results80, go_sem, q0, q1, q2, q3]) rfl ⟨rfl, hwz⟩

def equalR (k n u : Int) (t : ByteArray) (k' n' u' : Int) (t' : ByteArray) : Res :=
  cond (nullB k || nullB k') ⟨0, 0, 0⟩ (if k = k' then ⟨2, ofN (cmpK k n u t n' u' t' == 0), 0⟩ else ⟨0, 0, 60⟩)

theorem rel_equal_is (k n u : Int) (t : ByteArray) (k' n' u' : Int) (t' : ByteArray) (r : Res) (hr : equalR k n u t k' n' u' t' = r) (w : World) :
    Calls Try.prog 80 #[.agg #[.int .u8 k, .int .i64 n, .int .i64 u, .string t], .agg #[.int .u8 k', .int .i64 n', .int .i64 u', .string t'], .func (.func 81) #[] #[]] w fun e w' => e = .returned (.tuple #[.agg #[.int .u8 r.k, .int .i64 r.n, .int .i64 0, .string ⟨#[]⟩], .int .i64 r.e]) ∧ Below w.heap.size w w' := by
  subst hr
  unfold equalR
  cases hz : nullB k
  · cases hy : nullB k'
    · by_cases hk : k = k'
      · subst hk; rw [if_pos rfl]; exact rel_equal_eq k n u t n' u' t' hz _ rfl _ rfl w
      · rw [if_neg hk]; exact rel_equal_ne k n u t k' n' u' t' hz hy (by simpa using hk) w
    · exact rel_equal_y k n u t k' n' u' t' hz hy w
  · exact rel_equal_z k n u t k' n' u' t' hz w

set_option maxHeartbeats 1000000 in
theorem equal_is (k n u : Int) (t : ByteArray) (k' n' u' : Int) (t' : ByteArray) (r : Res) (hr : equalR k n u t k' n' u' t' = r) (w : World) :
    Calls Try.prog 61 #[.agg #[.int .u8 k, .int .i64 n, .int .i64 u, .string t], .agg #[.int .u8 k', .int .i64 n', .int .i64 u', .string t']] w fun e w' => e = .returned (.tuple #[.agg #[.int .u8 r.k, .int .i64 r.n, .int .i64 0, .string ⟨#[]⟩], .int .i64 r.e]) ∧ Below w.heap.size w w' := by
  have HR := Lib.hid hr
  clear hr
  obtain ⟨W, hW, A0, B0, R0, SR0, hw, hs⟩ := boxes3 w k n u t k' n' u' t'
  obtain ⟨g, hg⟩ : ∃ g, w.heap.size = g := ⟨_, rfl⟩
  rw [hg] at A0 B0 R0 SR0 hs
  have hw0 := hw
  have HS := Lib.hid hs
  clear hs
  go_enter Try.func61, Try.ntmps61
  go_wp2_with fail
  rw [← hW]
  clear hW
  refine (rel_equal_is k n u t k' n' u' t' r HR.out _).mono ?_
  rintro e w1 ⟨rfl, hb1⟩
  have hw1 := below_tr hw0 hb1
  have A1 := A0.below hb1
  have B1 := B0.below hb1
  have R1 := R0.below hb1
  have SR1 := SR0.below hb1
  have A1' := A1
  obtain ⟨a0, a1, a2, a3, a4⟩ := A1'
  have B1' := B1
  obtain ⟨b0, b1, b2, b3, b4⟩ := B1'
  have R1' := R1
  obtain ⟨r0, r1, r2, r3, r4⟩ := R1'
  obtain ⟨s0, s1, s2, s3, s4⟩ := SR1
  go_wp2_with fail
  have hwz := below_put4 hw1 (by omega : w.heap.size ≤ g + 2) r.k r.n 0 ⟨#[]⟩
  obtain ⟨q0, q1, q2, q3, q4⟩ := boxed_put4 R1 r.k r.n 0 ⟨#[]⟩
  exact bodyPost_ret (w := put4 w1 (g + 2) r.k r.n 0 ⟨#[]⟩) (v := .tuple #[.agg #[.int .u8 r.k, .int .i64 r.n, .int .i64 0, .string ⟨#[]⟩], .int .i64 r.e]) (by simp [results, Try.results61, go_sem, q0, q1, q2, q3]) rfl ⟨rfl, hwz⟩

theorem less_lit (c : Int) (b : Bool) (hb : decide (c < 0) = b) (w : World) :
    Calls Try.prog 82 #[.int .i64 c] w fun e w' => e = .returned (.bool b) ∧ Below w.heap.size w w' := by
  subst hb
  go_enter Try.func82, Try.ntmps82
  go_wp2
  go_ret
  exact ⟨rfl, Below.refl _ _⟩

set_option maxHeartbeats 2000000 in
theorem rel_less_z (k n u : Int) (t : ByteArray) (k' n' u' : Int) (t' : ByteArray) (hz : nullB k = true) (w : World) :
    Calls Try.prog 80 #[.agg #[.int .u8 k, .int .i64 n, .int .i64 u, .string t], .agg #[.int .u8 k', .int .i64 n', .int .i64 u', .string t'], .func (.func 82) #[] #[]] w fun e w' => e = .returned (.tuple #[.agg #[.int .u8 0, .int .i64 0, .int .i64 0, .string ⟨#[]⟩], .int .i64 0]) ∧ Below w.heap.size w w' := by
  have Hhz := Lib.hid hz
  clear hz
  obtain ⟨W, hW, A0, B0, R0, SR0, hw, hs⟩ := boxes3 w k n u t k' n' u' t'
  obtain ⟨g, hg⟩ : ∃ g, w.heap.size = g := ⟨_, rfl⟩
  rw [hg] at A0 B0 R0 SR0 hs
  have hw0 := hw
  have HS := Lib.hid hs
  clear hs
  go_enter Try.func80, Try.ntmps80
  go_wp2_with fail
  rw [← hW]
  clear hW
  refine (null_is k n u t true Hhz.out _).mono ?_
  rintro e w1 ⟨rfl, hb1⟩
  have hw1 := below_tr hw0 hb1
  have A1 := A0.below hb1
  have B1 := B0.below hb1
  have R1 := R0.below hb1
  have SR1 := SR0.below hb1
  have A1' := A1
  obtain ⟨a0, a1, a2, a3, a4⟩ := A1'
  have B1' := B1
  obtain ⟨b0, b1, b2, b3, b4⟩ := B1'
  have R1' := R1
  obtain ⟨r0, r1, r2, r3, r4⟩ := R1'
  obtain ⟨s0, s1, s2, s3, s4⟩ := SR1
  go_wp2_with fail
  have hwz := below_put4 hw1 (by omega : w.heap.size ≤ g + 2) 0 0 0 ⟨#[]⟩
  obtain ⟨q0, q1, q2, q3, q4⟩ := boxed_put4 R1 0 0 0 ⟨#[]⟩
  exact bodyPost_ret (w := put4 w1 (g + 2) 0 0 0 ⟨#[]⟩) (v := .tuple #[.agg #[.int .u8 0, .int .i64 0, .int .i64 0, .string ⟨#[]⟩], .int .i64 0]) (by simp [results, Try.results80, go_sem, q0, q1, q2, q3]) rfl ⟨rfl, hwz⟩

set_option maxHeartbeats 2000000 in
theorem rel_less_y (k n u : Int) (t : ByteArray) (k' n' u' : Int) (t' : ByteArray) (hz : nullB k = false) (hy : nullB k' = true) (w : World) :
    Calls Try.prog 80 #[.agg #[.int .u8 k, .int .i64 n, .int .i64 u, .string t], .agg #[.int .u8 k', .int .i64 n', .int .i64 u', .string t'], .func (.func 82) #[] #[]] w fun e w' => e = .returned (.tuple #[.agg #[.int .u8 0, .int .i64 0, .int .i64 0, .string ⟨#[]⟩], .int .i64 0]) ∧ Below w.heap.size w w' := by
  have Hhz := Lib.hid hz
  clear hz
  have Hhy := Lib.hid hy
  clear hy
  obtain ⟨W, hW, A0, B0, R0, SR0, hw, hs⟩ := boxes3 w k n u t k' n' u' t'
  obtain ⟨g, hg⟩ : ∃ g, w.heap.size = g := ⟨_, rfl⟩
  rw [hg] at A0 B0 R0 SR0 hs
  have hw0 := hw
  have HS := Lib.hid hs
  clear hs
  go_enter Try.func80, Try.ntmps80
  go_wp2_with fail
  rw [← hW]
  clear hW
  refine (null_is k n u t false Hhz.out _).mono ?_
  rintro e w1 ⟨rfl, hb1⟩
  have hw1 := below_tr hw0 hb1
  have A1 := A0.below hb1
  have B1 := B0.below hb1
  have R1 := R0.below hb1
  have SR1 := SR0.below hb1
  have A1' := A1
  obtain ⟨a0, a1, a2, a3, a4⟩ := A1'
  have B1' := B1
  obtain ⟨b0, b1, b2, b3, b4⟩ := B1'
  have R1' := R1
  obtain ⟨r0, r1, r2, r3, r4⟩ := R1'
  go_wp2_with fail
  refine (null_is k' n' u' t' true Hhy.out _).mono ?_
  rintro e w2 ⟨rfl, hb2⟩
  have hw2 := below_tr hw1 hb2
  have A2 := A1.below hb2
  have B2 := B1.below hb2
  have R2 := R1.below hb2
  have SR2 := SR1.below hb2
  clear a0 a1 a2 a3 a4 b0 b1 b2 b3 b4 r0 r1 r2 r3 r4
  have A2' := A2
  obtain ⟨a0, a1, a2, a3, a4⟩ := A2'
  have B2' := B2
  obtain ⟨b0, b1, b2, b3, b4⟩ := B2'
  have R2' := R2
  obtain ⟨r0, r1, r2, r3, r4⟩ := R2'
  obtain ⟨s0, s1, s2, s3, s4⟩ := SR2
  go_wp2_with fail
  have hwz := below_put4 hw2 (by omega : w.heap.size ≤ g + 2) 0 0 0 ⟨#[]⟩
  obtain ⟨q0, q1, q2, q3, q4⟩ := boxed_put4 R2 0 0 0 ⟨#[]⟩
  exact bodyPost_ret (w := put4 w2 (g + 2) 0 0 0 ⟨#[]⟩) (v := .tuple #[.agg #[.int .u8 0, .int .i64 0, .int .i64 0, .string ⟨#[]⟩], .int .i64 0]) (by simp [results, Try.results80, go_sem, q0, q1, q2, q3]) rfl ⟨rfl, hwz⟩

set_option maxHeartbeats 2000000 in
theorem rel_less_ne (k n u : Int) (t : ByteArray) (k' n' u' : Int) (t' : ByteArray) (hz : nullB k = false) (hy : nullB k' = false) (hk : (k != k') = true) (w : World) :
    Calls Try.prog 80 #[.agg #[.int .u8 k, .int .i64 n, .int .i64 u, .string t], .agg #[.int .u8 k', .int .i64 n', .int .i64 u', .string t'], .func (.func 82) #[] #[]] w fun e w' => e = .returned (.tuple #[.agg #[.int .u8 0, .int .i64 0, .int .i64 0, .string ⟨#[]⟩], .int .i64 60]) ∧ Below w.heap.size w w' := by
  have Hhz := Lib.hid hz
  clear hz
  have Hhy := Lib.hid hy
  clear hy
  obtain ⟨W, hW, A0, B0, R0, SR0, hw, hs⟩ := boxes3 w k n u t k' n' u' t'
  obtain ⟨g, hg⟩ : ∃ g, w.heap.size = g := ⟨_, rfl⟩
  rw [hg] at A0 B0 R0 SR0 hs
  have hw0 := hw
  have HS := Lib.hid hs
  clear hs
  go_enter Try.func80, Try.ntmps80
  go_wp2_with fail
  rw [← hW]
  clear hW
  refine (null_is k n u t false Hhz.out _).mono ?_
  rintro e w1 ⟨rfl, hb1⟩
  have hw1 := below_tr hw0 hb1
  have A1 := A0.below hb1
  have B1 := B0.below hb1
  have R1 := R0.below hb1
  have SR1 := SR0.below hb1
  have A1' := A1
  obtain ⟨a0, a1, a2, a3, a4⟩ := A1'
  have B1' := B1
  obtain ⟨b0, b1, b2, b3, b4⟩ := B1'
  have R1' := R1
  obtain ⟨r0, r1, r2, r3, r4⟩ := R1'
  go_wp2_with fail
  refine (null_is k' n' u' t' false Hhy.out _).mono ?_
  rintro e w2 ⟨rfl, hb2⟩
  have hw2 := below_tr hw1 hb2
  have A2 := A1.below hb2
  have B2 := B1.below hb2
  have R2 := R1.below hb2
  have SR2 := SR1.below hb2
  clear a0 a1 a2 a3 a4 b0 b1 b2 b3 b4 r0 r1 r2 r3 r4
  have A2' := A2
  obtain ⟨a0, a1, a2, a3, a4⟩ := A2'
  have B2' := B2
  obtain ⟨b0, b1, b2, b3, b4⟩ := B2'
  have R2' := R2
  obtain ⟨r0, r1, r2, r3, r4⟩ := R2'
  obtain ⟨s0, s1, s2, s3, s4⟩ := SR2
  go_wp2_with fail
  have hwz := below_put4 hw2 (by omega : w.heap.size ≤ g + 2) 0 0 0 ⟨#[]⟩
  obtain ⟨q0, q1, q2, q3, q4⟩ := boxed_put4 R2 0 0 0 ⟨#[]⟩
  exact bodyPost_ret (w := put4 w2 (g + 2) 0 0 0 ⟨#[]⟩) (v := .tuple #[.agg #[.int .u8 0, .int .i64 0, .int .i64 0, .string ⟨#[]⟩], .int .i64 60]) (by simp [results, Try.results80, go_sem, q0, q1, q2, q3]) rfl ⟨rfl, hwz⟩

set_option maxHeartbeats 2000000 in
theorem rel_less_eq (k n u : Int) (t : ByteArray) (n' u' : Int) (t' : ByteArray) (hz : nullB k = false) (c : Int) (hc : cmpK k n u t n' u' t' = c) (b : Bool) (hb : decide (c < 0) = b) (w : World) :
    Calls Try.prog 80 #[.agg #[.int .u8 k, .int .i64 n, .int .i64 u, .string t], .agg #[.int .u8 k, .int .i64 n', .int .i64 u', .string t'], .func (.func 82) #[] #[]] w fun e w' => e = .returned (.tuple #[.agg #[.int .u8 2, .int .i64 (ofN b), .int .i64 0, .string ⟨#[]⟩], .int .i64 0]) ∧ Below w.heap.size w w' := by
  have Hhz := Lib.hid hz
  clear hz
  have Hhc := Lib.hid hc
  clear hc
  have Hhb := Lib.hid hb
  clear hb
  obtain ⟨W, hW, A0, B0, R0, SR0, hw, hs⟩ := boxes3 w k n u t k n' u' t'
  obtain ⟨g, hg⟩ : ∃ g, w.heap.size = g := ⟨_, rfl⟩
  rw [hg] at A0 B0 R0 SR0 hs
  have hw0 := hw
  have HS := Lib.hid hs
  clear hs
  go_enter Try.func80, Try.ntmps80
  go_wp2_with fail
  rw [← hW]
  clear hW
  have hk : (k != k) = false := by simp
  refine (null_is k n u t false Hhz.out _).mono ?_
  rintro e w1 ⟨rfl, hb1⟩
  have hw1 := below_tr hw0 hb1
  have A1 := A0.below hb1
  have B1 := B0.below hb1
  have R1 := R0.below hb1
  have SR1 := SR0.below hb1
  have A1' := A1
  obtain ⟨a0, a1, a2, a3, a4⟩ := A1'
  have B1' := B1
  obtain ⟨b0, b1, b2, b3, b4⟩ := B1'
  have R1' := R1
  obtain ⟨r0, r1, r2, r3, r4⟩ := R1'
  go_wp2_with fail
  refine (null_is k n' u' t' false Hhz.out _).mono ?_
  rintro e w2 ⟨rfl, hb2⟩
  have hw2 := below_tr hw1 hb2
  have A2 := A1.below hb2
  have B2 := B1.below hb2
  have R2 := R1.below hb2
  have SR2 := SR1.below hb2
  clear a0 a1 a2 a3 a4 b0 b1 b2 b3 b4 r0 r1 r2 r3 r4
  have A2' := A2
  obtain ⟨a0, a1, a2, a3, a4⟩ := A2'
  have B2' := B2
  obtain ⟨b0, b1, b2, b3, b4⟩ := B2'
  have R2' := R2
  obtain ⟨r0, r1, r2, r3, r4⟩ := R2'
  go_wp2_with fail
  refine (compare_is k n u t n' u' t' c Hhc.out _).mono ?_
  rintro e w3 ⟨rfl, hb3⟩
  have hw3 := below_tr hw2 hb3
  have A3 := A2.below hb3
  have B3 := B2.below hb3
  have R3 := R2.below hb3
  have SR3 := SR2.below hb3
  clear a0 a1 a2 a3 a4 b0 b1 b2 b3 b4 r0 r1 r2 r3 r4
  have A3' := A3
  obtain ⟨a0, a1, a2, a3, a4⟩ := A3'
  have B3' := B3
  obtain ⟨b0, b1, b2, b3, b4⟩ := B3'
  have R3' := R3
  obtain ⟨r0, r1, r2, r3, r4⟩ := R3'
  go_wp2_with fail
  refine (less_lit c b Hhb.out _).mono ?_
  rintro e w4 ⟨rfl, hb4⟩
  have hw4 := below_tr hw3 hb4
  have A4 := A3.below hb4
  have B4 := B3.below hb4
  have R4 := R3.below hb4
  have SR4 := SR3.below hb4
  clear a0 a1 a2 a3 a4 b0 b1 b2 b3 b4 r0 r1 r2 r3 r4
  have A4' := A4
  obtain ⟨a0, a1, a2, a3, a4⟩ := A4'
  have B4' := B4
  obtain ⟨b0, b1, b2, b3, b4⟩ := B4'
  have R4' := R4
  obtain ⟨r0, r1, r2, r3, r4⟩ := R4'
  go_wp2_with fail
  refine (of_is b _).mono ?_
  rintro e w5 ⟨rfl, hb5⟩
  have hw5 := below_tr hw4 hb5
  have A5 := A4.below hb5
  have B5 := B4.below hb5
  have R5 := R4.below hb5
  have SR5 := SR4.below hb5
  clear a0 a1 a2 a3 a4 b0 b1 b2 b3 b4 r0 r1 r2 r3 r4
  have A5' := A5
  obtain ⟨a0, a1, a2, a3, a4⟩ := A5'
  have B5' := B5
  obtain ⟨b0, b1, b2, b3, b4⟩ := B5'
  have R5' := R5
  obtain ⟨r0, r1, r2, r3, r4⟩ := R5'
  obtain ⟨s0, s1, s2, s3, s4⟩ := SR5
  go_wp2_with fail
  have hwz := below_put4 hw5 (by omega : w.heap.size ≤ g + 2) 2 (ofN b) 0 ⟨#[]⟩
  obtain ⟨q0, q1, q2, q3, q4⟩ := boxed_put4 R5 2 (ofN b) 0 ⟨#[]⟩
  exact bodyPost_ret (w := put4 w5 (g + 2) 2 (ofN b) 0 ⟨#[]⟩) (v := .tuple #[.agg #[.int .u8 2, .int .i64 (ofN b), .int .i64 0, .string ⟨#[]⟩], .int .i64 0]) (by simp [results, Try.results80, go_sem, q0, q1, q2, q3]) rfl ⟨rfl, hwz⟩

def lessR (k n u : Int) (t : ByteArray) (k' n' u' : Int) (t' : ByteArray) : Res :=
  cond (nullB k || nullB k') ⟨0, 0, 0⟩ (if k = k' then ⟨2, ofN (decide (cmpK k n u t n' u' t' < 0)), 0⟩ else ⟨0, 0, 60⟩)

theorem rel_less_is (k n u : Int) (t : ByteArray) (k' n' u' : Int) (t' : ByteArray) (r : Res) (hr : lessR k n u t k' n' u' t' = r) (w : World) :
    Calls Try.prog 80 #[.agg #[.int .u8 k, .int .i64 n, .int .i64 u, .string t], .agg #[.int .u8 k', .int .i64 n', .int .i64 u', .string t'], .func (.func 82) #[] #[]] w fun e w' => e = .returned (.tuple #[.agg #[.int .u8 r.k, .int .i64 r.n, .int .i64 0, .string ⟨#[]⟩], .int .i64 r.e]) ∧ Below w.heap.size w w' := by
  subst hr
  unfold lessR
  cases hz : nullB k
  · cases hy : nullB k'
    · by_cases hk : k = k'
      · subst hk; rw [if_pos rfl]; exact rel_less_eq k n u t n' u' t' hz _ rfl _ rfl w
      · rw [if_neg hk]; exact rel_less_ne k n u t k' n' u' t' hz hy (by simpa using hk) w
    · exact rel_less_y k n u t k' n' u' t' hz hy w
  · exact rel_less_z k n u t k' n' u' t' hz w

set_option maxHeartbeats 1000000 in
theorem less_is (k n u : Int) (t : ByteArray) (k' n' u' : Int) (t' : ByteArray) (r : Res) (hr : lessR k n u t k' n' u' t' = r) (w : World) :
    Calls Try.prog 62 #[.agg #[.int .u8 k, .int .i64 n, .int .i64 u, .string t], .agg #[.int .u8 k', .int .i64 n', .int .i64 u', .string t']] w fun e w' => e = .returned (.tuple #[.agg #[.int .u8 r.k, .int .i64 r.n, .int .i64 0, .string ⟨#[]⟩], .int .i64 r.e]) ∧ Below w.heap.size w w' := by
  have HR := Lib.hid hr
  clear hr
  obtain ⟨W, hW, A0, B0, R0, SR0, hw, hs⟩ := boxes3 w k n u t k' n' u' t'
  obtain ⟨g, hg⟩ : ∃ g, w.heap.size = g := ⟨_, rfl⟩
  rw [hg] at A0 B0 R0 SR0 hs
  have hw0 := hw
  have HS := Lib.hid hs
  clear hs
  go_enter Try.func62, Try.ntmps62
  go_wp2_with fail
  rw [← hW]
  clear hW
  refine (rel_less_is k n u t k' n' u' t' r HR.out _).mono ?_
  rintro e w1 ⟨rfl, hb1⟩
  have hw1 := below_tr hw0 hb1
  have A1 := A0.below hb1
  have B1 := B0.below hb1
  have R1 := R0.below hb1
  have SR1 := SR0.below hb1
  have A1' := A1
  obtain ⟨a0, a1, a2, a3, a4⟩ := A1'
  have B1' := B1
  obtain ⟨b0, b1, b2, b3, b4⟩ := B1'
  have R1' := R1
  obtain ⟨r0, r1, r2, r3, r4⟩ := R1'
  obtain ⟨s0, s1, s2, s3, s4⟩ := SR1
  go_wp2_with fail
  have hwz := below_put4 hw1 (by omega : w.heap.size ≤ g + 2) r.k r.n 0 ⟨#[]⟩
  obtain ⟨q0, q1, q2, q3, q4⟩ := boxed_put4 R1 r.k r.n 0 ⟨#[]⟩
  exact bodyPost_ret (w := put4 w1 (g + 2) r.k r.n 0 ⟨#[]⟩) (v := .tuple #[.agg #[.int .u8 r.k, .int .i64 r.n, .int .i64 0, .string ⟨#[]⟩], .int .i64 r.e]) (by simp [results, Try.results62, go_sem, q0, q1, q2, q3]) rfl ⟨rfl, hwz⟩

end Go.Proofs.Ytflclkmhdngmaaa
