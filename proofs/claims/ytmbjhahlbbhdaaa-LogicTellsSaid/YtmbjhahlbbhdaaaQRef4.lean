/-
  The document's own Mul answers what package logic's does.
-/
import Derived.Test.YtmbjhahlbbhdaaaQRef3
namespace Go.Proofs.Ytmbjhahlbbhdaaa
open Go.RowKit

theorem max_quo {y : Int} (hy : 0 < y) : wrap64 ((9223372036854775807 : Int).tdiv y) = 9223372036854775807 / y := by
  have e : (9223372036854775807 : Int).tdiv y = 9223372036854775807 / y := Int.tdiv_eq_ediv_of_nonneg (by omega)
  rw [e]
  refine wrap_in ?_
  have h1 : 0 ≤ (9223372036854775807 : Int) / y := Int.ediv_nonneg (by omega) (by omega)
  have h2 : (9223372036854775807 : Int) / y ≤ 9223372036854775807 := Int.ediv_le_self _ (by omega)
  unfold I64
  omega

theorem min_quo {y : Int} (hy : 0 < y) : wrap64 (-(Int.tdiv 9223372036854775808 y)) = -(9223372036854775808 / y) := by
  have e : Int.tdiv 9223372036854775808 y = 9223372036854775808 / y := Int.tdiv_eq_ediv_of_nonneg (by omega)
  rw [e]
  refine wrap_in ?_
  have h1 : 0 ≤ (9223372036854775808 : Int) / y := Int.ediv_nonneg (by omega) (by omega)
  have h2 : (9223372036854775808 : Int) / y ≤ 9223372036854775808 := Int.ediv_le_self _ (by omega)
  unfold I64
  omega

theorem beyond_pp {x y : Int} (hx : 0 < x) (hy : 0 < y) : decide (wrap64 ((9223372036854775807 : Int).tdiv y) < x) = !inR (x * y) := by
  rw [max_quo hy, Bool.eq_iff_iff, decide_eq_true_iff, Bool.not_eq_true', ← Bool.not_eq_true, inR_iff, Int.ediv_lt_iff_lt_mul hy]
  have := Int.mul_pos hx hy
  unfold I64
  omega

theorem beyond_pn {x y : Int} (hx : 0 < x) (hy : y < 0) : decide (y < wrap64 (-(Int.tdiv 9223372036854775808 x))) = !inR (x * y) := by
  rw [min_quo hx, Bool.eq_iff_iff, decide_eq_true_iff, Bool.not_eq_true', ← Bool.not_eq_true, inR_iff]
  have h := Int.ediv_lt_iff_lt_mul (a := 9223372036854775808) (b := -y) hx
  have e : -y * x = -(x * y) := by rw [Int.neg_mul, Int.mul_comm]
  rw [e] at h
  have := Int.mul_neg_of_pos_of_neg hx hy
  unfold I64
  omega

set_option maxHeartbeats 4000000 in
theorem rmul_e (k n u : Int) (t : ByteArray) (k' n' u' : Int) (t' : ByteArray) (hz : bothZ k k' = false) (he : bothE k k' = 60) (w : World) :
    Calls Try.prog 31 #[.agg #[.int .u8 k, .int .i64 n, .int .i64 u, .string t], .agg #[.int .u8 k', .int .i64 n', .int .i64 u', .string t']] w fun e w' => e = .returned (.tuple #[.agg #[.int .u8 0, .int .i64 0, .int .i64 0, .string ⟨#[]⟩], .int .i64 60]) ∧ Below w.heap.size w w' := by
  have Hhz := Lib.hid hz
  clear hz
  have Hhe := Lib.hid he
  clear he
  have hw0 := Below.refl w.heap.size w
  go_enter Try.func31, Try.ntmps31
  go_wp2_with fail
  have hn0 := Below.allocs w (.cells #[.int .u8 k, .int .i64 n, .int .i64 u, .string t] 23)
  have An := Boxed.new w k n u t 23
  have hw1 := below_tr hw0 hn0
  have A1 := An
  clear An hn0
  have hn1 := Below.allocs (w.alloc (.cells #[.int .u8 k, .int .i64 n, .int .i64 u, .string t] 23)) (.cells #[.int .u8 k', .int .i64 n', .int .i64 u', .string t'] 23)
  have Bn := Boxed.new (w.alloc (.cells #[.int .u8 k, .int .i64 n, .int .i64 u, .string t] 23)) k' n' u' t' 23
  rw [show (w.alloc (.cells #[.int .u8 k, .int .i64 n, .int .i64 u, .string t] 23)).heap.size = w.heap.size + 1 by simp] at Bn
  have A2 := A1.below hn1
  have hw2 := below_tr hw1 hn1
  clear A1
  have B2 := Bn
  clear Bn hn1
  have hn2 := Below.allocs ((w.alloc (.cells #[.int .u8 k, .int .i64 n, .int .i64 u, .string t] 23)).alloc (.cells #[.int .u8 k', .int .i64 n', .int .i64 u', .string t'] 23)) (.cells #[.int .u8 0, .int .i64 0, .int .i64 0, .string ⟨#[]⟩] 23)
  have Rn := Boxed.new ((w.alloc (.cells #[.int .u8 k, .int .i64 n, .int .i64 u, .string t] 23)).alloc (.cells #[.int .u8 k', .int .i64 n', .int .i64 u', .string t'] 23)) 0 0 0 ⟨#[]⟩ 23
  have SRn := Soft.new ((w.alloc (.cells #[.int .u8 k, .int .i64 n, .int .i64 u, .string t] 23)).alloc (.cells #[.int .u8 k', .int .i64 n', .int .i64 u', .string t'] 23)) 0 0 0 ⟨#[]⟩ 23
  rw [show ((w.alloc (.cells #[.int .u8 k, .int .i64 n, .int .i64 u, .string t] 23)).alloc (.cells #[.int .u8 k', .int .i64 n', .int .i64 u', .string t'] 23)).heap.size = w.heap.size + 1 + 1 by simp] at Rn SRn
  have A3 := A2.below hn2
  have B3 := B2.below hn2
  have hw3 := below_tr hw2 hn2
  clear A2 B2
  have R3 := Rn
  clear Rn hn2
  have SR3 := SRn
  clear SRn
  refine (both_is k n u t k' n' u' t' false 60 Hhz.out Hhe.out _).mono ?_
  rintro e v1 ⟨rfl, hv1⟩
  have A4 := A3.below hv1
  have B4 := B3.below hv1
  have R4 := R3.below hv1
  have SR4 := SR3.below hv1
  have hw4 := below_tr hw3 hv1
  clear A3 B3 R3 SR3
  clear hv1
  have a' := A4
  obtain ⟨a0, a1, a2, a3, a4⟩ := a'
  have b' := B4
  obtain ⟨b0, b1, b2, b3, b4⟩ := b'
  have r' := R4
  obtain ⟨r0, r1, r2, r3, r4⟩ := r'
  have sr' := SR4
  obtain ⟨s0, s1, s2, s3, s4⟩ := sr'
  go_wp2_with fail
  have hwz := below_put4 hw4 (by omega : w.heap.size ≤ w.heap.size + 1 + 1) 0 0 0 ⟨#[]⟩
  obtain ⟨q0, q1, q2, q3, q4⟩ := boxed_put4 R4 0 0 0 ⟨#[]⟩
  exact bodyPost_ret (w := put4 v1 (w.heap.size + 1 + 1) 0 0 0 ⟨#[]⟩) (v := .tuple #[.agg #[.int .u8 0, .int .i64 0, .int .i64 0, .string ⟨#[]⟩], .int .i64 60]) (by simp [results, Try.results31, go_sem, q0, q1, q2, q3]) rfl ⟨rfl, hwz⟩

set_option maxHeartbeats 4000000 in
theorem rmul_z (k n u : Int) (t : ByteArray) (k' n' u' : Int) (t' : ByteArray) (hz : bothZ k k' = true) (he : bothE k k' = 0) (w : World) :
    Calls Try.prog 31 #[.agg #[.int .u8 k, .int .i64 n, .int .i64 u, .string t], .agg #[.int .u8 k', .int .i64 n', .int .i64 u', .string t']] w fun e w' => e = .returned (.tuple #[.agg #[.int .u8 0, .int .i64 0, .int .i64 0, .string ⟨#[]⟩], .int .i64 0]) ∧ Below w.heap.size w w' := by
  have Hhz := Lib.hid hz
  clear hz
  have Hhe := Lib.hid he
  clear he
  have hw0 := Below.refl w.heap.size w
  go_enter Try.func31, Try.ntmps31
  go_wp2_with fail
  have hn0 := Below.allocs w (.cells #[.int .u8 k, .int .i64 n, .int .i64 u, .string t] 23)
  have An := Boxed.new w k n u t 23
  have hw1 := below_tr hw0 hn0
  have A1 := An
  clear An hn0
  have hn1 := Below.allocs (w.alloc (.cells #[.int .u8 k, .int .i64 n, .int .i64 u, .string t] 23)) (.cells #[.int .u8 k', .int .i64 n', .int .i64 u', .string t'] 23)
  have Bn := Boxed.new (w.alloc (.cells #[.int .u8 k, .int .i64 n, .int .i64 u, .string t] 23)) k' n' u' t' 23
  rw [show (w.alloc (.cells #[.int .u8 k, .int .i64 n, .int .i64 u, .string t] 23)).heap.size = w.heap.size + 1 by simp] at Bn
  have A2 := A1.below hn1
  have hw2 := below_tr hw1 hn1
  clear A1
  have B2 := Bn
  clear Bn hn1
  have hn2 := Below.allocs ((w.alloc (.cells #[.int .u8 k, .int .i64 n, .int .i64 u, .string t] 23)).alloc (.cells #[.int .u8 k', .int .i64 n', .int .i64 u', .string t'] 23)) (.cells #[.int .u8 0, .int .i64 0, .int .i64 0, .string ⟨#[]⟩] 23)
  have Rn := Boxed.new ((w.alloc (.cells #[.int .u8 k, .int .i64 n, .int .i64 u, .string t] 23)).alloc (.cells #[.int .u8 k', .int .i64 n', .int .i64 u', .string t'] 23)) 0 0 0 ⟨#[]⟩ 23
  have SRn := Soft.new ((w.alloc (.cells #[.int .u8 k, .int .i64 n, .int .i64 u, .string t] 23)).alloc (.cells #[.int .u8 k', .int .i64 n', .int .i64 u', .string t'] 23)) 0 0 0 ⟨#[]⟩ 23
  rw [show ((w.alloc (.cells #[.int .u8 k, .int .i64 n, .int .i64 u, .string t] 23)).alloc (.cells #[.int .u8 k', .int .i64 n', .int .i64 u', .string t'] 23)).heap.size = w.heap.size + 1 + 1 by simp] at Rn SRn
  have A3 := A2.below hn2
  have B3 := B2.below hn2
  have hw3 := below_tr hw2 hn2
  clear A2 B2
  have R3 := Rn
  clear Rn hn2
  have SR3 := SRn
  clear SRn
  refine (both_is k n u t k' n' u' t' true 0 Hhz.out Hhe.out _).mono ?_
  rintro e v1 ⟨rfl, hv1⟩
  have A4 := A3.below hv1
  have B4 := B3.below hv1
  have R4 := R3.below hv1
  have SR4 := SR3.below hv1
  have hw4 := below_tr hw3 hv1
  clear A3 B3 R3 SR3
  clear hv1
  have a' := A4
  obtain ⟨a0, a1, a2, a3, a4⟩ := a'
  have b' := B4
  obtain ⟨b0, b1, b2, b3, b4⟩ := b'
  have r' := R4
  obtain ⟨r0, r1, r2, r3, r4⟩ := r'
  have sr' := SR4
  obtain ⟨s0, s1, s2, s3, s4⟩ := sr'
  go_wp2_with fail
  have hwz := below_put4 hw4 (by omega : w.heap.size ≤ w.heap.size + 1 + 1) 0 0 0 ⟨#[]⟩
  obtain ⟨q0, q1, q2, q3, q4⟩ := boxed_put4 R4 0 0 0 ⟨#[]⟩
  exact bodyPost_ret (w := put4 v1 (w.heap.size + 1 + 1) 0 0 0 ⟨#[]⟩) (v := .tuple #[.agg #[.int .u8 0, .int .i64 0, .int .i64 0, .string ⟨#[]⟩], .int .i64 0]) (by simp [results, Try.results31, go_sem, q0, q1, q2, q3]) rfl ⟨rfl, hwz⟩

set_option maxHeartbeats 4000000 in
theorem rmul_x0 (k n u : Int) (t : ByteArray) (k' n' u' : Int) (t' : ByteArray) (hz : bothZ k k' = false) (he : bothE k k' = 0) (x0 : (n == 0) = true) (w : World) :
    Calls Try.prog 31 #[.agg #[.int .u8 k, .int .i64 n, .int .i64 u, .string t], .agg #[.int .u8 k', .int .i64 n', .int .i64 u', .string t']] w fun e w' => e = .returned (.tuple #[.agg #[.int .u8 1, .int .i64 0, .int .i64 0, .string ⟨#[]⟩], .int .i64 0]) ∧ Below w.heap.size w w' := by
  have Hhz := Lib.hid hz
  clear hz
  have Hhe := Lib.hid he
  clear he
  have hw0 := Below.refl w.heap.size w
  go_enter Try.func31, Try.ntmps31
  go_wp2_with fail
  have hn0 := Below.allocs w (.cells #[.int .u8 k, .int .i64 n, .int .i64 u, .string t] 23)
  have An := Boxed.new w k n u t 23
  have hw1 := below_tr hw0 hn0
  have A1 := An
  clear An hn0
  have hn1 := Below.allocs (w.alloc (.cells #[.int .u8 k, .int .i64 n, .int .i64 u, .string t] 23)) (.cells #[.int .u8 k', .int .i64 n', .int .i64 u', .string t'] 23)
  have Bn := Boxed.new (w.alloc (.cells #[.int .u8 k, .int .i64 n, .int .i64 u, .string t] 23)) k' n' u' t' 23
  rw [show (w.alloc (.cells #[.int .u8 k, .int .i64 n, .int .i64 u, .string t] 23)).heap.size = w.heap.size + 1 by simp] at Bn
  have A2 := A1.below hn1
  have hw2 := below_tr hw1 hn1
  clear A1
  have B2 := Bn
  clear Bn hn1
  have hn2 := Below.allocs ((w.alloc (.cells #[.int .u8 k, .int .i64 n, .int .i64 u, .string t] 23)).alloc (.cells #[.int .u8 k', .int .i64 n', .int .i64 u', .string t'] 23)) (.cells #[.int .u8 0, .int .i64 0, .int .i64 0, .string ⟨#[]⟩] 23)
  have Rn := Boxed.new ((w.alloc (.cells #[.int .u8 k, .int .i64 n, .int .i64 u, .string t] 23)).alloc (.cells #[.int .u8 k', .int .i64 n', .int .i64 u', .string t'] 23)) 0 0 0 ⟨#[]⟩ 23
  have SRn := Soft.new ((w.alloc (.cells #[.int .u8 k, .int .i64 n, .int .i64 u, .string t] 23)).alloc (.cells #[.int .u8 k', .int .i64 n', .int .i64 u', .string t'] 23)) 0 0 0 ⟨#[]⟩ 23
  rw [show ((w.alloc (.cells #[.int .u8 k, .int .i64 n, .int .i64 u, .string t] 23)).alloc (.cells #[.int .u8 k', .int .i64 n', .int .i64 u', .string t'] 23)).heap.size = w.heap.size + 1 + 1 by simp] at Rn SRn
  have A3 := A2.below hn2
  have B3 := B2.below hn2
  have hw3 := below_tr hw2 hn2
  clear A2 B2
  have R3 := Rn
  clear Rn hn2
  have SR3 := SRn
  clear SRn
  refine (both_is k n u t k' n' u' t' false 0 Hhz.out Hhe.out _).mono ?_
  rintro e v1 ⟨rfl, hv1⟩
  have A4 := A3.below hv1
  have B4 := B3.below hv1
  have R4 := R3.below hv1
  have SR4 := SR3.below hv1
  have hw4 := below_tr hw3 hv1
  clear A3 B3 R3 SR3
  clear hv1
  have a' := A4
  obtain ⟨a0, a1, a2, a3, a4⟩ := a'
  have b' := B4
  obtain ⟨b0, b1, b2, b3, b4⟩ := b'
  have r' := R4
  obtain ⟨r0, r1, r2, r3, r4⟩ := r'
  go_wp2_with fail
  clear a0 a1 a2 a3 a4 b0 b1 b2 b3 b4 r0 r1 r2 r3 r4
  have hd := below_drew v1
  refine wp_region_plan (fun w w' => Below w.heap.size w w') [.it (.pointer (some ⟨w.heap.size, 1, none⟩)), .it (.int .i64 n), .it (.pointer (some ⟨w.heap.size + 1, 1, none⟩)), .it (.int .i64 n'), .it (.int .i64 n), .it (.int .i64 n')] (by kernel_rfl) (by kernel_rfl) (fun w => Below.refl _ _) (fun _ _ _ => below_tr) ?_
  refine seqP_value (fun w => Below.refl _ _) _ (by first | rfl | simp) (fun w' hw' hctx => ?_) ?_
  · go_simp
    try first | with_reducible rfl | simp
  simp only [Act.put, List.setIfInBounds_toArray, List.set_cons_zero, List.set_cons_succ]
  refine seqP_value (fun w => Below.refl _ _) _ (by first | rfl | simp) (fun w' hw' hctx => ?_) ?_
  · obtain ⟨c0, c1, c2, c3, c4⟩ := A4.below (below_tr hd hw')
    go_simp
    try first | with_reducible rfl | simp
  simp only [Act.put, List.setIfInBounds_toArray, List.set_cons_zero, List.set_cons_succ]
  refine seqP_value (fun w => Below.refl _ _) _ (by first | rfl | simp) (fun w' hw' hctx => ?_) ?_
  · go_simp
    try first | with_reducible rfl | simp
  simp only [Act.put, List.setIfInBounds_toArray, List.set_cons_zero, List.set_cons_succ]
  refine seqP_value (fun w => Below.refl _ _) _ (by first | rfl | simp) (fun w' hw' hctx => ?_) ?_
  · obtain ⟨c0, c1, c2, c3, c4⟩ := B4.below (below_tr hd hw')
    go_simp
    try first | with_reducible rfl | simp
  simp only [Act.put, List.setIfInBounds_toArray, List.set_cons_zero, List.set_cons_succ]
  refine seqP_value (fun w => Below.refl _ _) _ (by first | rfl | simp) (fun w' hw' hctx => ?_) ?_
  · go_simp
    try first | with_reducible rfl | simp
  simp only [Act.put, List.setIfInBounds_toArray, List.set_cons_zero, List.set_cons_succ]
  refine seqP_value (fun w => Below.refl _ _) _ (by first | rfl | simp) (fun w' hw' hctx => ?_) ?_
  · go_simp
    try first | with_reducible rfl | simp
  simp only [Act.put, List.setIfInBounds_toArray, List.set_cons_zero, List.set_cons_succ]
  refine seqP_nil (fun v2 hR hctx => ?_)
  have hv2 := below_tr hd hR
  clear hctx hR hd
  have A5 := A4.below hv2
  have B5 := B4.below hv2
  have R5 := R4.below hv2
  have SR5 := SR4.below hv2
  have hw5 := below_tr hw4 hv2
  clear A4 B4 R4 SR4
  clear hv2
  go_wp2_with fail
  refine (rint_is 0 _).mono ?_
  rintro e v3 ⟨rfl, hv3⟩
  have A6 := A5.below hv3
  have B6 := B5.below hv3
  have R6 := R5.below hv3
  have SR6 := SR5.below hv3
  have hw6 := below_tr hw5 hv3
  clear A5 B5 R5 SR5
  clear hv3
  have r' := R6
  obtain ⟨r0, r1, r2, r3, r4⟩ := r'
  have sr' := SR6
  obtain ⟨s0, s1, s2, s3, s4⟩ := sr'
  go_wp2_with fail
  have hwz := below_put4 hw6 (by omega : w.heap.size ≤ w.heap.size + 1 + 1) 1 0 0 ⟨#[]⟩
  obtain ⟨q0, q1, q2, q3, q4⟩ := boxed_put4 R6 1 0 0 ⟨#[]⟩
  exact bodyPost_ret (w := put4 v3 (w.heap.size + 1 + 1) 1 0 0 ⟨#[]⟩) (v := .tuple #[.agg #[.int .u8 1, .int .i64 0, .int .i64 0, .string ⟨#[]⟩], .int .i64 0]) (by simp [results, Try.results31, go_sem, q0, q1, q2, q3]) rfl ⟨rfl, hwz⟩

set_option maxHeartbeats 4000000 in
theorem rmul_y0 (k n u : Int) (t : ByteArray) (k' n' u' : Int) (t' : ByteArray) (hz : bothZ k k' = false) (he : bothE k k' = 0) (x0 : (n == 0) = false) (y0 : (n' == 0) = true) (w : World) :
    Calls Try.prog 31 #[.agg #[.int .u8 k, .int .i64 n, .int .i64 u, .string t], .agg #[.int .u8 k', .int .i64 n', .int .i64 u', .string t']] w fun e w' => e = .returned (.tuple #[.agg #[.int .u8 1, .int .i64 0, .int .i64 0, .string ⟨#[]⟩], .int .i64 0]) ∧ Below w.heap.size w w' := by
  have Hhz := Lib.hid hz
  clear hz
  have Hhe := Lib.hid he
  clear he
  have hw0 := Below.refl w.heap.size w
  go_enter Try.func31, Try.ntmps31
  go_wp2_with fail
  have hn0 := Below.allocs w (.cells #[.int .u8 k, .int .i64 n, .int .i64 u, .string t] 23)
  have An := Boxed.new w k n u t 23
  have hw1 := below_tr hw0 hn0
  have A1 := An
  clear An hn0
  have hn1 := Below.allocs (w.alloc (.cells #[.int .u8 k, .int .i64 n, .int .i64 u, .string t] 23)) (.cells #[.int .u8 k', .int .i64 n', .int .i64 u', .string t'] 23)
  have Bn := Boxed.new (w.alloc (.cells #[.int .u8 k, .int .i64 n, .int .i64 u, .string t] 23)) k' n' u' t' 23
  rw [show (w.alloc (.cells #[.int .u8 k, .int .i64 n, .int .i64 u, .string t] 23)).heap.size = w.heap.size + 1 by simp] at Bn
  have A2 := A1.below hn1
  have hw2 := below_tr hw1 hn1
  clear A1
  have B2 := Bn
  clear Bn hn1
  have hn2 := Below.allocs ((w.alloc (.cells #[.int .u8 k, .int .i64 n, .int .i64 u, .string t] 23)).alloc (.cells #[.int .u8 k', .int .i64 n', .int .i64 u', .string t'] 23)) (.cells #[.int .u8 0, .int .i64 0, .int .i64 0, .string ⟨#[]⟩] 23)
  have Rn := Boxed.new ((w.alloc (.cells #[.int .u8 k, .int .i64 n, .int .i64 u, .string t] 23)).alloc (.cells #[.int .u8 k', .int .i64 n', .int .i64 u', .string t'] 23)) 0 0 0 ⟨#[]⟩ 23
  have SRn := Soft.new ((w.alloc (.cells #[.int .u8 k, .int .i64 n, .int .i64 u, .string t] 23)).alloc (.cells #[.int .u8 k', .int .i64 n', .int .i64 u', .string t'] 23)) 0 0 0 ⟨#[]⟩ 23
  rw [show ((w.alloc (.cells #[.int .u8 k, .int .i64 n, .int .i64 u, .string t] 23)).alloc (.cells #[.int .u8 k', .int .i64 n', .int .i64 u', .string t'] 23)).heap.size = w.heap.size + 1 + 1 by simp] at Rn SRn
  have A3 := A2.below hn2
  have B3 := B2.below hn2
  have hw3 := below_tr hw2 hn2
  clear A2 B2
  have R3 := Rn
  clear Rn hn2
  have SR3 := SRn
  clear SRn
  refine (both_is k n u t k' n' u' t' false 0 Hhz.out Hhe.out _).mono ?_
  rintro e v1 ⟨rfl, hv1⟩
  have A4 := A3.below hv1
  have B4 := B3.below hv1
  have R4 := R3.below hv1
  have SR4 := SR3.below hv1
  have hw4 := below_tr hw3 hv1
  clear A3 B3 R3 SR3
  clear hv1
  have a' := A4
  obtain ⟨a0, a1, a2, a3, a4⟩ := a'
  have b' := B4
  obtain ⟨b0, b1, b2, b3, b4⟩ := b'
  have r' := R4
  obtain ⟨r0, r1, r2, r3, r4⟩ := r'
  go_wp2_with fail
  clear a0 a1 a2 a3 a4 b0 b1 b2 b3 b4 r0 r1 r2 r3 r4
  have hd := below_drew v1
  refine wp_region_plan (fun w w' => Below w.heap.size w w') [.it (.pointer (some ⟨w.heap.size, 1, none⟩)), .it (.int .i64 n), .it (.pointer (some ⟨w.heap.size + 1, 1, none⟩)), .it (.int .i64 n'), .it (.int .i64 n), .it (.int .i64 n')] (by kernel_rfl) (by kernel_rfl) (fun w => Below.refl _ _) (fun _ _ _ => below_tr) ?_
  refine seqP_value (fun w => Below.refl _ _) _ (by first | rfl | simp) (fun w' hw' hctx => ?_) ?_
  · go_simp
    try first | with_reducible rfl | simp
  simp only [Act.put, List.setIfInBounds_toArray, List.set_cons_zero, List.set_cons_succ]
  refine seqP_value (fun w => Below.refl _ _) _ (by first | rfl | simp) (fun w' hw' hctx => ?_) ?_
  · obtain ⟨c0, c1, c2, c3, c4⟩ := A4.below (below_tr hd hw')
    go_simp
    try first | with_reducible rfl | simp
  simp only [Act.put, List.setIfInBounds_toArray, List.set_cons_zero, List.set_cons_succ]
  refine seqP_value (fun w => Below.refl _ _) _ (by first | rfl | simp) (fun w' hw' hctx => ?_) ?_
  · go_simp
    try first | with_reducible rfl | simp
  simp only [Act.put, List.setIfInBounds_toArray, List.set_cons_zero, List.set_cons_succ]
  refine seqP_value (fun w => Below.refl _ _) _ (by first | rfl | simp) (fun w' hw' hctx => ?_) ?_
  · obtain ⟨c0, c1, c2, c3, c4⟩ := B4.below (below_tr hd hw')
    go_simp
    try first | with_reducible rfl | simp
  simp only [Act.put, List.setIfInBounds_toArray, List.set_cons_zero, List.set_cons_succ]
  refine seqP_value (fun w => Below.refl _ _) _ (by first | rfl | simp) (fun w' hw' hctx => ?_) ?_
  · go_simp
    try first | with_reducible rfl | simp
  simp only [Act.put, List.setIfInBounds_toArray, List.set_cons_zero, List.set_cons_succ]
  refine seqP_value (fun w => Below.refl _ _) _ (by first | rfl | simp) (fun w' hw' hctx => ?_) ?_
  · go_simp
    try first | with_reducible rfl | simp
  simp only [Act.put, List.setIfInBounds_toArray, List.set_cons_zero, List.set_cons_succ]
  refine seqP_nil (fun v2 hR hctx => ?_)
  have hv2 := below_tr hd hR
  clear hctx hR hd
  have A5 := A4.below hv2
  have B5 := B4.below hv2
  have R5 := R4.below hv2
  have SR5 := SR4.below hv2
  have hw5 := below_tr hw4 hv2
  clear A4 B4 R4 SR4
  clear hv2
  go_wp2_with fail
  refine (rint_is 0 _).mono ?_
  rintro e v3 ⟨rfl, hv3⟩
  have A6 := A5.below hv3
  have B6 := B5.below hv3
  have R6 := R5.below hv3
  have SR6 := SR5.below hv3
  have hw6 := below_tr hw5 hv3
  clear A5 B5 R5 SR5
  clear hv3
  have r' := R6
  obtain ⟨r0, r1, r2, r3, r4⟩ := r'
  have sr' := SR6
  obtain ⟨s0, s1, s2, s3, s4⟩ := sr'
  go_wp2_with fail
  have hwz := below_put4 hw6 (by omega : w.heap.size ≤ w.heap.size + 1 + 1) 1 0 0 ⟨#[]⟩
  obtain ⟨q0, q1, q2, q3, q4⟩ := boxed_put4 R6 1 0 0 ⟨#[]⟩
  exact bodyPost_ret (w := put4 v3 (w.heap.size + 1 + 1) 1 0 0 ⟨#[]⟩) (v := .tuple #[.agg #[.int .u8 1, .int .i64 0, .int .i64 0, .string ⟨#[]⟩], .int .i64 0]) (by simp [results, Try.results31, go_sem, q0, q1, q2, q3]) rfl ⟨rfl, hwz⟩

set_option maxHeartbeats 4000000 in
theorem rmul_ppo (k n u : Int) (t : ByteArray) (k' n' u' : Int) (t' : ByteArray) (hz : bothZ k k' = false) (he : bothE k k' = 0) (x0 : (n == 0) = false) (y0 : (n' == 0) = false) (y1 : ¬ n' = 0) (sx : decide (0 < n) = true) (sy : decide (0 < n') = true) (b : decide (wrap64 ((9223372036854775807 : Int).tdiv n') < n) = true) (w : World) :
    Calls Try.prog 31 #[.agg #[.int .u8 k, .int .i64 n, .int .i64 u, .string t], .agg #[.int .u8 k', .int .i64 n', .int .i64 u', .string t']] w fun e w' => e = .returned (.tuple #[.agg #[.int .u8 0, .int .i64 0, .int .i64 0, .string ⟨#[]⟩], .int .i64 61]) ∧ Below w.heap.size w w' := by
  have Hhz := Lib.hid hz
  clear hz
  have Hhe := Lib.hid he
  clear he
  have hw0 := Below.refl w.heap.size w
  go_enter Try.func31, Try.ntmps31
  go_wp2_with fail
  have hn0 := Below.allocs w (.cells #[.int .u8 k, .int .i64 n, .int .i64 u, .string t] 23)
  have An := Boxed.new w k n u t 23
  have hw1 := below_tr hw0 hn0
  have A1 := An
  clear An hn0
  have hn1 := Below.allocs (w.alloc (.cells #[.int .u8 k, .int .i64 n, .int .i64 u, .string t] 23)) (.cells #[.int .u8 k', .int .i64 n', .int .i64 u', .string t'] 23)
  have Bn := Boxed.new (w.alloc (.cells #[.int .u8 k, .int .i64 n, .int .i64 u, .string t] 23)) k' n' u' t' 23
  rw [show (w.alloc (.cells #[.int .u8 k, .int .i64 n, .int .i64 u, .string t] 23)).heap.size = w.heap.size + 1 by simp] at Bn
  have A2 := A1.below hn1
  have hw2 := below_tr hw1 hn1
  clear A1
  have B2 := Bn
  clear Bn hn1
  have hn2 := Below.allocs ((w.alloc (.cells #[.int .u8 k, .int .i64 n, .int .i64 u, .string t] 23)).alloc (.cells #[.int .u8 k', .int .i64 n', .int .i64 u', .string t'] 23)) (.cells #[.int .u8 0, .int .i64 0, .int .i64 0, .string ⟨#[]⟩] 23)
  have Rn := Boxed.new ((w.alloc (.cells #[.int .u8 k, .int .i64 n, .int .i64 u, .string t] 23)).alloc (.cells #[.int .u8 k', .int .i64 n', .int .i64 u', .string t'] 23)) 0 0 0 ⟨#[]⟩ 23
  have SRn := Soft.new ((w.alloc (.cells #[.int .u8 k, .int .i64 n, .int .i64 u, .string t] 23)).alloc (.cells #[.int .u8 k', .int .i64 n', .int .i64 u', .string t'] 23)) 0 0 0 ⟨#[]⟩ 23
  rw [show ((w.alloc (.cells #[.int .u8 k, .int .i64 n, .int .i64 u, .string t] 23)).alloc (.cells #[.int .u8 k', .int .i64 n', .int .i64 u', .string t'] 23)).heap.size = w.heap.size + 1 + 1 by simp] at Rn SRn
  have A3 := A2.below hn2
  have B3 := B2.below hn2
  have hw3 := below_tr hw2 hn2
  clear A2 B2
  have R3 := Rn
  clear Rn hn2
  have SR3 := SRn
  clear SRn
  refine (both_is k n u t k' n' u' t' false 0 Hhz.out Hhe.out _).mono ?_
  rintro e v1 ⟨rfl, hv1⟩
  have A4 := A3.below hv1
  have B4 := B3.below hv1
  have R4 := R3.below hv1
  have SR4 := SR3.below hv1
  have hw4 := below_tr hw3 hv1
  clear A3 B3 R3 SR3
  clear hv1
  have a' := A4
  obtain ⟨a0, a1, a2, a3, a4⟩ := a'
  have b' := B4
  obtain ⟨b0, b1, b2, b3, b4⟩ := b'
  have r' := R4
  obtain ⟨r0, r1, r2, r3, r4⟩ := r'
  go_wp2_with fail
  clear a0 a1 a2 a3 a4 b0 b1 b2 b3 b4 r0 r1 r2 r3 r4
  have hd := below_drew v1
  refine wp_region_plan (fun w w' => Below w.heap.size w w') [.it (.pointer (some ⟨w.heap.size, 1, none⟩)), .it (.int .i64 n), .it (.pointer (some ⟨w.heap.size + 1, 1, none⟩)), .it (.int .i64 n'), .it (.int .i64 n), .it (.int .i64 n')] (by kernel_rfl) (by kernel_rfl) (fun w => Below.refl _ _) (fun _ _ _ => below_tr) ?_
  refine seqP_value (fun w => Below.refl _ _) _ (by first | rfl | simp) (fun w' hw' hctx => ?_) ?_
  · go_simp
    try first | with_reducible rfl | simp
  simp only [Act.put, List.setIfInBounds_toArray, List.set_cons_zero, List.set_cons_succ]
  refine seqP_value (fun w => Below.refl _ _) _ (by first | rfl | simp) (fun w' hw' hctx => ?_) ?_
  · obtain ⟨c0, c1, c2, c3, c4⟩ := A4.below (below_tr hd hw')
    go_simp
    try first | with_reducible rfl | simp
  simp only [Act.put, List.setIfInBounds_toArray, List.set_cons_zero, List.set_cons_succ]
  refine seqP_value (fun w => Below.refl _ _) _ (by first | rfl | simp) (fun w' hw' hctx => ?_) ?_
  · go_simp
    try first | with_reducible rfl | simp
  simp only [Act.put, List.setIfInBounds_toArray, List.set_cons_zero, List.set_cons_succ]
  refine seqP_value (fun w => Below.refl _ _) _ (by first | rfl | simp) (fun w' hw' hctx => ?_) ?_
  · obtain ⟨c0, c1, c2, c3, c4⟩ := B4.below (below_tr hd hw')
    go_simp
    try first | with_reducible rfl | simp
  simp only [Act.put, List.setIfInBounds_toArray, List.set_cons_zero, List.set_cons_succ]
  refine seqP_value (fun w => Below.refl _ _) _ (by first | rfl | simp) (fun w' hw' hctx => ?_) ?_
  · go_simp
    try first | with_reducible rfl | simp
  simp only [Act.put, List.setIfInBounds_toArray, List.set_cons_zero, List.set_cons_succ]
  refine seqP_value (fun w => Below.refl _ _) _ (by first | rfl | simp) (fun w' hw' hctx => ?_) ?_
  · go_simp
    try first | with_reducible rfl | simp
  simp only [Act.put, List.setIfInBounds_toArray, List.set_cons_zero, List.set_cons_succ]
  refine seqP_nil (fun v2 hR hctx => ?_)
  have hv2 := below_tr hd hR
  clear hctx hR hd
  have A5 := A4.below hv2
  have B5 := B4.below hv2
  have R5 := R4.below hv2
  have SR5 := SR4.below hv2
  have hw5 := below_tr hw4 hv2
  clear A4 B4 R4 SR4
  clear hv2
  have r' := R5
  obtain ⟨r0, r1, r2, r3, r4⟩ := r'
  have sr' := SR5
  obtain ⟨s0, s1, s2, s3, s4⟩ := sr'
  go_wp2_with fail
  have hwz := below_put4 hw5 (by omega : w.heap.size ≤ w.heap.size + 1 + 1) 0 0 0 ⟨#[]⟩
  obtain ⟨q0, q1, q2, q3, q4⟩ := boxed_put4 R5 0 0 0 ⟨#[]⟩
  exact bodyPost_ret (w := put4 v2 (w.heap.size + 1 + 1) 0 0 0 ⟨#[]⟩) (v := .tuple #[.agg #[.int .u8 0, .int .i64 0, .int .i64 0, .string ⟨#[]⟩], .int .i64 61]) (by simp [results, Try.results31, go_sem, q0, q1, q2, q3]) rfl ⟨rfl, hwz⟩

set_option maxHeartbeats 4000000 in
theorem rmul_ppi (k n u : Int) (t : ByteArray) (k' n' u' : Int) (t' : ByteArray) (hz : bothZ k k' = false) (he : bothE k k' = 0) (x0 : (n == 0) = false) (y0 : (n' == 0) = false) (y1 : ¬ n' = 0) (sx : decide (0 < n) = true) (sy : decide (0 < n') = true) (b : decide (wrap64 ((9223372036854775807 : Int).tdiv n') < n) = false) (p : Int) (hp : wrap64 (n * n') = p) (w : World) :
    Calls Try.prog 31 #[.agg #[.int .u8 k, .int .i64 n, .int .i64 u, .string t], .agg #[.int .u8 k', .int .i64 n', .int .i64 u', .string t']] w fun e w' => e = .returned (.tuple #[.agg #[.int .u8 1, .int .i64 p, .int .i64 0, .string ⟨#[]⟩], .int .i64 0]) ∧ Below w.heap.size w w' := by
  have Hhz := Lib.hid hz
  clear hz
  have Hhe := Lib.hid he
  clear he
  have hw0 := Below.refl w.heap.size w
  go_enter Try.func31, Try.ntmps31
  go_wp2_with fail
  have hn0 := Below.allocs w (.cells #[.int .u8 k, .int .i64 n, .int .i64 u, .string t] 23)
  have An := Boxed.new w k n u t 23
  have hw1 := below_tr hw0 hn0
  have A1 := An
  clear An hn0
  have hn1 := Below.allocs (w.alloc (.cells #[.int .u8 k, .int .i64 n, .int .i64 u, .string t] 23)) (.cells #[.int .u8 k', .int .i64 n', .int .i64 u', .string t'] 23)
  have Bn := Boxed.new (w.alloc (.cells #[.int .u8 k, .int .i64 n, .int .i64 u, .string t] 23)) k' n' u' t' 23
  rw [show (w.alloc (.cells #[.int .u8 k, .int .i64 n, .int .i64 u, .string t] 23)).heap.size = w.heap.size + 1 by simp] at Bn
  have A2 := A1.below hn1
  have hw2 := below_tr hw1 hn1
  clear A1
  have B2 := Bn
  clear Bn hn1
  have hn2 := Below.allocs ((w.alloc (.cells #[.int .u8 k, .int .i64 n, .int .i64 u, .string t] 23)).alloc (.cells #[.int .u8 k', .int .i64 n', .int .i64 u', .string t'] 23)) (.cells #[.int .u8 0, .int .i64 0, .int .i64 0, .string ⟨#[]⟩] 23)
  have Rn := Boxed.new ((w.alloc (.cells #[.int .u8 k, .int .i64 n, .int .i64 u, .string t] 23)).alloc (.cells #[.int .u8 k', .int .i64 n', .int .i64 u', .string t'] 23)) 0 0 0 ⟨#[]⟩ 23
  have SRn := Soft.new ((w.alloc (.cells #[.int .u8 k, .int .i64 n, .int .i64 u, .string t] 23)).alloc (.cells #[.int .u8 k', .int .i64 n', .int .i64 u', .string t'] 23)) 0 0 0 ⟨#[]⟩ 23
  rw [show ((w.alloc (.cells #[.int .u8 k, .int .i64 n, .int .i64 u, .string t] 23)).alloc (.cells #[.int .u8 k', .int .i64 n', .int .i64 u', .string t'] 23)).heap.size = w.heap.size + 1 + 1 by simp] at Rn SRn
  have A3 := A2.below hn2
  have B3 := B2.below hn2
  have hw3 := below_tr hw2 hn2
  clear A2 B2
  have R3 := Rn
  clear Rn hn2
  have SR3 := SRn
  clear SRn
  refine (both_is k n u t k' n' u' t' false 0 Hhz.out Hhe.out _).mono ?_
  rintro e v1 ⟨rfl, hv1⟩
  have A4 := A3.below hv1
  have B4 := B3.below hv1
  have R4 := R3.below hv1
  have SR4 := SR3.below hv1
  have hw4 := below_tr hw3 hv1
  clear A3 B3 R3 SR3
  clear hv1
  have a' := A4
  obtain ⟨a0, a1, a2, a3, a4⟩ := a'
  have b' := B4
  obtain ⟨b0, b1, b2, b3, b4⟩ := b'
  have r' := R4
  obtain ⟨r0, r1, r2, r3, r4⟩ := r'
  go_wp2_with fail
  clear a0 a1 a2 a3 a4 b0 b1 b2 b3 b4 r0 r1 r2 r3 r4
  have hd := below_drew v1
  refine wp_region_plan (fun w w' => Below w.heap.size w w') [.it (.pointer (some ⟨w.heap.size, 1, none⟩)), .it (.int .i64 n), .it (.pointer (some ⟨w.heap.size + 1, 1, none⟩)), .it (.int .i64 n'), .it (.int .i64 n), .it (.int .i64 n')] (by kernel_rfl) (by kernel_rfl) (fun w => Below.refl _ _) (fun _ _ _ => below_tr) ?_
  refine seqP_value (fun w => Below.refl _ _) _ (by first | rfl | simp) (fun w' hw' hctx => ?_) ?_
  · go_simp
    try first | with_reducible rfl | simp
  simp only [Act.put, List.setIfInBounds_toArray, List.set_cons_zero, List.set_cons_succ]
  refine seqP_value (fun w => Below.refl _ _) _ (by first | rfl | simp) (fun w' hw' hctx => ?_) ?_
  · obtain ⟨c0, c1, c2, c3, c4⟩ := A4.below (below_tr hd hw')
    go_simp
    try first | with_reducible rfl | simp
  simp only [Act.put, List.setIfInBounds_toArray, List.set_cons_zero, List.set_cons_succ]
  refine seqP_value (fun w => Below.refl _ _) _ (by first | rfl | simp) (fun w' hw' hctx => ?_) ?_
  · go_simp
    try first | with_reducible rfl | simp
  simp only [Act.put, List.setIfInBounds_toArray, List.set_cons_zero, List.set_cons_succ]
  refine seqP_value (fun w => Below.refl _ _) _ (by first | rfl | simp) (fun w' hw' hctx => ?_) ?_
  · obtain ⟨c0, c1, c2, c3, c4⟩ := B4.below (below_tr hd hw')
    go_simp
    try first | with_reducible rfl | simp
  simp only [Act.put, List.setIfInBounds_toArray, List.set_cons_zero, List.set_cons_succ]
  refine seqP_value (fun w => Below.refl _ _) _ (by first | rfl | simp) (fun w' hw' hctx => ?_) ?_
  · go_simp
    try first | with_reducible rfl | simp
  simp only [Act.put, List.setIfInBounds_toArray, List.set_cons_zero, List.set_cons_succ]
  refine seqP_value (fun w => Below.refl _ _) _ (by first | rfl | simp) (fun w' hw' hctx => ?_) ?_
  · go_simp
    try first | with_reducible rfl | simp
  simp only [Act.put, List.setIfInBounds_toArray, List.set_cons_zero, List.set_cons_succ]
  refine seqP_nil (fun v2 hR hctx => ?_)
  have hv2 := below_tr hd hR
  clear hctx hR hd
  have A5 := A4.below hv2
  have B5 := B4.below hv2
  have R5 := R4.below hv2
  have SR5 := SR4.below hv2
  have hw5 := below_tr hw4 hv2
  clear A4 B4 R4 SR4
  clear hv2
  go_wp2_with fail
  refine (rint_is p _).mono ?_
  rintro e v3 ⟨rfl, hv3⟩
  have A6 := A5.below hv3
  have B6 := B5.below hv3
  have R6 := R5.below hv3
  have SR6 := SR5.below hv3
  have hw6 := below_tr hw5 hv3
  clear A5 B5 R5 SR5
  clear hv3
  have r' := R6
  obtain ⟨r0, r1, r2, r3, r4⟩ := r'
  have sr' := SR6
  obtain ⟨s0, s1, s2, s3, s4⟩ := sr'
  go_wp2_with fail
  have hwz := below_put4 hw6 (by omega : w.heap.size ≤ w.heap.size + 1 + 1) 1 p 0 ⟨#[]⟩
  obtain ⟨q0, q1, q2, q3, q4⟩ := boxed_put4 R6 1 p 0 ⟨#[]⟩
  exact bodyPost_ret (w := put4 v3 (w.heap.size + 1 + 1) 1 p 0 ⟨#[]⟩) (v := .tuple #[.agg #[.int .u8 1, .int .i64 p, .int .i64 0, .string ⟨#[]⟩], .int .i64 0]) (by simp [results, Try.results31, go_sem, q0, q1, q2, q3]) rfl ⟨rfl, hwz⟩

set_option maxHeartbeats 4000000 in
theorem rmul_nn1 (k n u : Int) (t : ByteArray) (k' n' u' : Int) (t' : ByteArray) (hz : bothZ k k' = false) (he : bothE k k' = 0) (x0 : (n == 0) = false) (y0 : (n' == 0) = false) (sx : decide (0 < n) = false) (tx : decide (n < 0) = true) (ty : decide (n' < 0) = true) (m1 : (n == -9223372036854775808) = true) (w : World) :
    Calls Try.prog 31 #[.agg #[.int .u8 k, .int .i64 n, .int .i64 u, .string t], .agg #[.int .u8 k', .int .i64 n', .int .i64 u', .string t']] w fun e w' => e = .returned (.tuple #[.agg #[.int .u8 0, .int .i64 0, .int .i64 0, .string ⟨#[]⟩], .int .i64 61]) ∧ Below w.heap.size w w' := by
  have Hhz := Lib.hid hz
  clear hz
  have Hhe := Lib.hid he
  clear he
  have hw0 := Below.refl w.heap.size w
  go_enter Try.func31, Try.ntmps31
  go_wp2_with fail
  have hn0 := Below.allocs w (.cells #[.int .u8 k, .int .i64 n, .int .i64 u, .string t] 23)
  have An := Boxed.new w k n u t 23
  have hw1 := below_tr hw0 hn0
  have A1 := An
  clear An hn0
  have hn1 := Below.allocs (w.alloc (.cells #[.int .u8 k, .int .i64 n, .int .i64 u, .string t] 23)) (.cells #[.int .u8 k', .int .i64 n', .int .i64 u', .string t'] 23)
  have Bn := Boxed.new (w.alloc (.cells #[.int .u8 k, .int .i64 n, .int .i64 u, .string t] 23)) k' n' u' t' 23
  rw [show (w.alloc (.cells #[.int .u8 k, .int .i64 n, .int .i64 u, .string t] 23)).heap.size = w.heap.size + 1 by simp] at Bn
  have A2 := A1.below hn1
  have hw2 := below_tr hw1 hn1
  clear A1
  have B2 := Bn
  clear Bn hn1
  have hn2 := Below.allocs ((w.alloc (.cells #[.int .u8 k, .int .i64 n, .int .i64 u, .string t] 23)).alloc (.cells #[.int .u8 k', .int .i64 n', .int .i64 u', .string t'] 23)) (.cells #[.int .u8 0, .int .i64 0, .int .i64 0, .string ⟨#[]⟩] 23)
  have Rn := Boxed.new ((w.alloc (.cells #[.int .u8 k, .int .i64 n, .int .i64 u, .string t] 23)).alloc (.cells #[.int .u8 k', .int .i64 n', .int .i64 u', .string t'] 23)) 0 0 0 ⟨#[]⟩ 23
  have SRn := Soft.new ((w.alloc (.cells #[.int .u8 k, .int .i64 n, .int .i64 u, .string t] 23)).alloc (.cells #[.int .u8 k', .int .i64 n', .int .i64 u', .string t'] 23)) 0 0 0 ⟨#[]⟩ 23
  rw [show ((w.alloc (.cells #[.int .u8 k, .int .i64 n, .int .i64 u, .string t] 23)).alloc (.cells #[.int .u8 k', .int .i64 n', .int .i64 u', .string t'] 23)).heap.size = w.heap.size + 1 + 1 by simp] at Rn SRn
  have A3 := A2.below hn2
  have B3 := B2.below hn2
  have hw3 := below_tr hw2 hn2
  clear A2 B2
  have R3 := Rn
  clear Rn hn2
  have SR3 := SRn
  clear SRn
  refine (both_is k n u t k' n' u' t' false 0 Hhz.out Hhe.out _).mono ?_
  rintro e v1 ⟨rfl, hv1⟩
  have A4 := A3.below hv1
  have B4 := B3.below hv1
  have R4 := R3.below hv1
  have SR4 := SR3.below hv1
  have hw4 := below_tr hw3 hv1
  clear A3 B3 R3 SR3
  clear hv1
  have a' := A4
  obtain ⟨a0, a1, a2, a3, a4⟩ := a'
  have b' := B4
  obtain ⟨b0, b1, b2, b3, b4⟩ := b'
  have r' := R4
  obtain ⟨r0, r1, r2, r3, r4⟩ := r'
  go_wp2_with fail
  clear a0 a1 a2 a3 a4 b0 b1 b2 b3 b4 r0 r1 r2 r3 r4
  have hd := below_drew v1
  refine wp_region_plan (fun w w' => Below w.heap.size w w') [.it (.pointer (some ⟨w.heap.size, 1, none⟩)), .it (.int .i64 n), .it (.pointer (some ⟨w.heap.size + 1, 1, none⟩)), .it (.int .i64 n'), .it (.int .i64 n), .it (.int .i64 n')] (by kernel_rfl) (by kernel_rfl) (fun w => Below.refl _ _) (fun _ _ _ => below_tr) ?_
  refine seqP_value (fun w => Below.refl _ _) _ (by first | rfl | simp) (fun w' hw' hctx => ?_) ?_
  · go_simp
    try first | with_reducible rfl | simp
  simp only [Act.put, List.setIfInBounds_toArray, List.set_cons_zero, List.set_cons_succ]
  refine seqP_value (fun w => Below.refl _ _) _ (by first | rfl | simp) (fun w' hw' hctx => ?_) ?_
  · obtain ⟨c0, c1, c2, c3, c4⟩ := A4.below (below_tr hd hw')
    go_simp
    try first | with_reducible rfl | simp
  simp only [Act.put, List.setIfInBounds_toArray, List.set_cons_zero, List.set_cons_succ]
  refine seqP_value (fun w => Below.refl _ _) _ (by first | rfl | simp) (fun w' hw' hctx => ?_) ?_
  · go_simp
    try first | with_reducible rfl | simp
  simp only [Act.put, List.setIfInBounds_toArray, List.set_cons_zero, List.set_cons_succ]
  refine seqP_value (fun w => Below.refl _ _) _ (by first | rfl | simp) (fun w' hw' hctx => ?_) ?_
  · obtain ⟨c0, c1, c2, c3, c4⟩ := B4.below (below_tr hd hw')
    go_simp
    try first | with_reducible rfl | simp
  simp only [Act.put, List.setIfInBounds_toArray, List.set_cons_zero, List.set_cons_succ]
  refine seqP_value (fun w => Below.refl _ _) _ (by first | rfl | simp) (fun w' hw' hctx => ?_) ?_
  · go_simp
    try first | with_reducible rfl | simp
  simp only [Act.put, List.setIfInBounds_toArray, List.set_cons_zero, List.set_cons_succ]
  refine seqP_value (fun w => Below.refl _ _) _ (by first | rfl | simp) (fun w' hw' hctx => ?_) ?_
  · go_simp
    try first | with_reducible rfl | simp
  simp only [Act.put, List.setIfInBounds_toArray, List.set_cons_zero, List.set_cons_succ]
  refine seqP_nil (fun v2 hR hctx => ?_)
  have hv2 := below_tr hd hR
  clear hctx hR hd
  have A5 := A4.below hv2
  have B5 := B4.below hv2
  have R5 := R4.below hv2
  have SR5 := SR4.below hv2
  have hw5 := below_tr hw4 hv2
  clear A4 B4 R4 SR4
  clear hv2
  have r' := R5
  obtain ⟨r0, r1, r2, r3, r4⟩ := r'
  have sr' := SR5
  obtain ⟨s0, s1, s2, s3, s4⟩ := sr'
  go_wp2_with fail
  have hwz := below_put4 hw5 (by omega : w.heap.size ≤ w.heap.size + 1 + 1) 0 0 0 ⟨#[]⟩
  obtain ⟨q0, q1, q2, q3, q4⟩ := boxed_put4 R5 0 0 0 ⟨#[]⟩
  exact bodyPost_ret (w := put4 v2 (w.heap.size + 1 + 1) 0 0 0 ⟨#[]⟩) (v := .tuple #[.agg #[.int .u8 0, .int .i64 0, .int .i64 0, .string ⟨#[]⟩], .int .i64 61]) (by simp [results, Try.results31, go_sem, q0, q1, q2, q3]) rfl ⟨rfl, hwz⟩

set_option maxHeartbeats 4000000 in
theorem rmul_nn2 (k n u : Int) (t : ByteArray) (k' n' u' : Int) (t' : ByteArray) (hz : bothZ k k' = false) (he : bothE k k' = 0) (x0 : (n == 0) = false) (y0 : (n' == 0) = false) (sx : decide (0 < n) = false) (tx : decide (n < 0) = true) (ty : decide (n' < 0) = true) (m1 : (n == -9223372036854775808) = false) (m2 : (n' == -9223372036854775808) = true) (w : World) :
    Calls Try.prog 31 #[.agg #[.int .u8 k, .int .i64 n, .int .i64 u, .string t], .agg #[.int .u8 k', .int .i64 n', .int .i64 u', .string t']] w fun e w' => e = .returned (.tuple #[.agg #[.int .u8 0, .int .i64 0, .int .i64 0, .string ⟨#[]⟩], .int .i64 61]) ∧ Below w.heap.size w w' := by
  have Hhz := Lib.hid hz
  clear hz
  have Hhe := Lib.hid he
  clear he
  have hw0 := Below.refl w.heap.size w
  go_enter Try.func31, Try.ntmps31
  go_wp2_with fail
  have hn0 := Below.allocs w (.cells #[.int .u8 k, .int .i64 n, .int .i64 u, .string t] 23)
  have An := Boxed.new w k n u t 23
  have hw1 := below_tr hw0 hn0
  have A1 := An
  clear An hn0
  have hn1 := Below.allocs (w.alloc (.cells #[.int .u8 k, .int .i64 n, .int .i64 u, .string t] 23)) (.cells #[.int .u8 k', .int .i64 n', .int .i64 u', .string t'] 23)
  have Bn := Boxed.new (w.alloc (.cells #[.int .u8 k, .int .i64 n, .int .i64 u, .string t] 23)) k' n' u' t' 23
  rw [show (w.alloc (.cells #[.int .u8 k, .int .i64 n, .int .i64 u, .string t] 23)).heap.size = w.heap.size + 1 by simp] at Bn
  have A2 := A1.below hn1
  have hw2 := below_tr hw1 hn1
  clear A1
  have B2 := Bn
  clear Bn hn1
  have hn2 := Below.allocs ((w.alloc (.cells #[.int .u8 k, .int .i64 n, .int .i64 u, .string t] 23)).alloc (.cells #[.int .u8 k', .int .i64 n', .int .i64 u', .string t'] 23)) (.cells #[.int .u8 0, .int .i64 0, .int .i64 0, .string ⟨#[]⟩] 23)
  have Rn := Boxed.new ((w.alloc (.cells #[.int .u8 k, .int .i64 n, .int .i64 u, .string t] 23)).alloc (.cells #[.int .u8 k', .int .i64 n', .int .i64 u', .string t'] 23)) 0 0 0 ⟨#[]⟩ 23
  have SRn := Soft.new ((w.alloc (.cells #[.int .u8 k, .int .i64 n, .int .i64 u, .string t] 23)).alloc (.cells #[.int .u8 k', .int .i64 n', .int .i64 u', .string t'] 23)) 0 0 0 ⟨#[]⟩ 23
  rw [show ((w.alloc (.cells #[.int .u8 k, .int .i64 n, .int .i64 u, .string t] 23)).alloc (.cells #[.int .u8 k', .int .i64 n', .int .i64 u', .string t'] 23)).heap.size = w.heap.size + 1 + 1 by simp] at Rn SRn
  have A3 := A2.below hn2
  have B3 := B2.below hn2
  have hw3 := below_tr hw2 hn2
  clear A2 B2
  have R3 := Rn
  clear Rn hn2
  have SR3 := SRn
  clear SRn
  refine (both_is k n u t k' n' u' t' false 0 Hhz.out Hhe.out _).mono ?_
  rintro e v1 ⟨rfl, hv1⟩
  have A4 := A3.below hv1
  have B4 := B3.below hv1
  have R4 := R3.below hv1
  have SR4 := SR3.below hv1
  have hw4 := below_tr hw3 hv1
  clear A3 B3 R3 SR3
  clear hv1
  have a' := A4
  obtain ⟨a0, a1, a2, a3, a4⟩ := a'
  have b' := B4
  obtain ⟨b0, b1, b2, b3, b4⟩ := b'
  have r' := R4
  obtain ⟨r0, r1, r2, r3, r4⟩ := r'
  go_wp2_with fail
  clear a0 a1 a2 a3 a4 b0 b1 b2 b3 b4 r0 r1 r2 r3 r4
  have hd := below_drew v1
  refine wp_region_plan (fun w w' => Below w.heap.size w w') [.it (.pointer (some ⟨w.heap.size, 1, none⟩)), .it (.int .i64 n), .it (.pointer (some ⟨w.heap.size + 1, 1, none⟩)), .it (.int .i64 n'), .it (.int .i64 n), .it (.int .i64 n')] (by kernel_rfl) (by kernel_rfl) (fun w => Below.refl _ _) (fun _ _ _ => below_tr) ?_
  refine seqP_value (fun w => Below.refl _ _) _ (by first | rfl | simp) (fun w' hw' hctx => ?_) ?_
  · go_simp
    try first | with_reducible rfl | simp
  simp only [Act.put, List.setIfInBounds_toArray, List.set_cons_zero, List.set_cons_succ]
  refine seqP_value (fun w => Below.refl _ _) _ (by first | rfl | simp) (fun w' hw' hctx => ?_) ?_
  · obtain ⟨c0, c1, c2, c3, c4⟩ := A4.below (below_tr hd hw')
    go_simp
    try first | with_reducible rfl | simp
  simp only [Act.put, List.setIfInBounds_toArray, List.set_cons_zero, List.set_cons_succ]
  refine seqP_value (fun w => Below.refl _ _) _ (by first | rfl | simp) (fun w' hw' hctx => ?_) ?_
  · go_simp
    try first | with_reducible rfl | simp
  simp only [Act.put, List.setIfInBounds_toArray, List.set_cons_zero, List.set_cons_succ]
  refine seqP_value (fun w => Below.refl _ _) _ (by first | rfl | simp) (fun w' hw' hctx => ?_) ?_
  · obtain ⟨c0, c1, c2, c3, c4⟩ := B4.below (below_tr hd hw')
    go_simp
    try first | with_reducible rfl | simp
  simp only [Act.put, List.setIfInBounds_toArray, List.set_cons_zero, List.set_cons_succ]
  refine seqP_value (fun w => Below.refl _ _) _ (by first | rfl | simp) (fun w' hw' hctx => ?_) ?_
  · go_simp
    try first | with_reducible rfl | simp
  simp only [Act.put, List.setIfInBounds_toArray, List.set_cons_zero, List.set_cons_succ]
  refine seqP_value (fun w => Below.refl _ _) _ (by first | rfl | simp) (fun w' hw' hctx => ?_) ?_
  · go_simp
    try first | with_reducible rfl | simp
  simp only [Act.put, List.setIfInBounds_toArray, List.set_cons_zero, List.set_cons_succ]
  refine seqP_nil (fun v2 hR hctx => ?_)
  have hv2 := below_tr hd hR
  clear hctx hR hd
  have A5 := A4.below hv2
  have B5 := B4.below hv2
  have R5 := R4.below hv2
  have SR5 := SR4.below hv2
  have hw5 := below_tr hw4 hv2
  clear A4 B4 R4 SR4
  clear hv2
  have r' := R5
  obtain ⟨r0, r1, r2, r3, r4⟩ := r'
  have sr' := SR5
  obtain ⟨s0, s1, s2, s3, s4⟩ := sr'
  go_wp2_with fail
  have hwz := below_put4 hw5 (by omega : w.heap.size ≤ w.heap.size + 1 + 1) 0 0 0 ⟨#[]⟩
  obtain ⟨q0, q1, q2, q3, q4⟩ := boxed_put4 R5 0 0 0 ⟨#[]⟩
  exact bodyPost_ret (w := put4 v2 (w.heap.size + 1 + 1) 0 0 0 ⟨#[]⟩) (v := .tuple #[.agg #[.int .u8 0, .int .i64 0, .int .i64 0, .string ⟨#[]⟩], .int .i64 61]) (by simp [results, Try.results31, go_sem, q0, q1, q2, q3]) rfl ⟨rfl, hwz⟩

set_option maxHeartbeats 4000000 in
theorem rmul_nno (k n u : Int) (t : ByteArray) (k' n' u' : Int) (t' : ByteArray) (hz : bothZ k k' = false) (he : bothE k k' = 0) (x0 : (n == 0) = false) (y0 : (n' == 0) = false) (sx : decide (0 < n) = false) (tx : decide (n < 0) = true) (ty : decide (n' < 0) = true) (m1 : (n == -9223372036854775808) = false) (m2 : (n' == -9223372036854775808) = false) (xn : Int) (g1 : wrap64 (-n) = xn) (yn : Int) (g2 : wrap64 (-n') = yn) (g3 : ¬ yn = 0) (b : decide (wrap64 ((9223372036854775807 : Int).tdiv yn) < xn) = true) (w : World) :
    Calls Try.prog 31 #[.agg #[.int .u8 k, .int .i64 n, .int .i64 u, .string t], .agg #[.int .u8 k', .int .i64 n', .int .i64 u', .string t']] w fun e w' => e = .returned (.tuple #[.agg #[.int .u8 0, .int .i64 0, .int .i64 0, .string ⟨#[]⟩], .int .i64 61]) ∧ Below w.heap.size w w' := by
  have Hhz := Lib.hid hz
  clear hz
  have Hhe := Lib.hid he
  clear he
  have hw0 := Below.refl w.heap.size w
  go_enter Try.func31, Try.ntmps31
  go_wp2_with fail
  have hn0 := Below.allocs w (.cells #[.int .u8 k, .int .i64 n, .int .i64 u, .string t] 23)
  have An := Boxed.new w k n u t 23
  have hw1 := below_tr hw0 hn0
  have A1 := An
  clear An hn0
  have hn1 := Below.allocs (w.alloc (.cells #[.int .u8 k, .int .i64 n, .int .i64 u, .string t] 23)) (.cells #[.int .u8 k', .int .i64 n', .int .i64 u', .string t'] 23)
  have Bn := Boxed.new (w.alloc (.cells #[.int .u8 k, .int .i64 n, .int .i64 u, .string t] 23)) k' n' u' t' 23
  rw [show (w.alloc (.cells #[.int .u8 k, .int .i64 n, .int .i64 u, .string t] 23)).heap.size = w.heap.size + 1 by simp] at Bn
  have A2 := A1.below hn1
  have hw2 := below_tr hw1 hn1
  clear A1
  have B2 := Bn
  clear Bn hn1
  have hn2 := Below.allocs ((w.alloc (.cells #[.int .u8 k, .int .i64 n, .int .i64 u, .string t] 23)).alloc (.cells #[.int .u8 k', .int .i64 n', .int .i64 u', .string t'] 23)) (.cells #[.int .u8 0, .int .i64 0, .int .i64 0, .string ⟨#[]⟩] 23)
  have Rn := Boxed.new ((w.alloc (.cells #[.int .u8 k, .int .i64 n, .int .i64 u, .string t] 23)).alloc (.cells #[.int .u8 k', .int .i64 n', .int .i64 u', .string t'] 23)) 0 0 0 ⟨#[]⟩ 23
  have SRn := Soft.new ((w.alloc (.cells #[.int .u8 k, .int .i64 n, .int .i64 u, .string t] 23)).alloc (.cells #[.int .u8 k', .int .i64 n', .int .i64 u', .string t'] 23)) 0 0 0 ⟨#[]⟩ 23
  rw [show ((w.alloc (.cells #[.int .u8 k, .int .i64 n, .int .i64 u, .string t] 23)).alloc (.cells #[.int .u8 k', .int .i64 n', .int .i64 u', .string t'] 23)).heap.size = w.heap.size + 1 + 1 by simp] at Rn SRn
  have A3 := A2.below hn2
  have B3 := B2.below hn2
  have hw3 := below_tr hw2 hn2
  clear A2 B2
  have R3 := Rn
  clear Rn hn2
  have SR3 := SRn
  clear SRn
  refine (both_is k n u t k' n' u' t' false 0 Hhz.out Hhe.out _).mono ?_
  rintro e v1 ⟨rfl, hv1⟩
  have A4 := A3.below hv1
  have B4 := B3.below hv1
  have R4 := R3.below hv1
  have SR4 := SR3.below hv1
  have hw4 := below_tr hw3 hv1
  clear A3 B3 R3 SR3
  clear hv1
  have a' := A4
  obtain ⟨a0, a1, a2, a3, a4⟩ := a'
  have b' := B4
  obtain ⟨b0, b1, b2, b3, b4⟩ := b'
  have r' := R4
  obtain ⟨r0, r1, r2, r3, r4⟩ := r'
  go_wp2_with fail
  clear a0 a1 a2 a3 a4 b0 b1 b2 b3 b4 r0 r1 r2 r3 r4
  have hd := below_drew v1
  refine wp_region_plan (fun w w' => Below w.heap.size w w') [.it (.pointer (some ⟨w.heap.size, 1, none⟩)), .it (.int .i64 n), .it (.pointer (some ⟨w.heap.size + 1, 1, none⟩)), .it (.int .i64 n'), .it (.int .i64 n), .it (.int .i64 n')] (by kernel_rfl) (by kernel_rfl) (fun w => Below.refl _ _) (fun _ _ _ => below_tr) ?_
  refine seqP_value (fun w => Below.refl _ _) _ (by first | rfl | simp) (fun w' hw' hctx => ?_) ?_
  · go_simp
    try first | with_reducible rfl | simp
  simp only [Act.put, List.setIfInBounds_toArray, List.set_cons_zero, List.set_cons_succ]
  refine seqP_value (fun w => Below.refl _ _) _ (by first | rfl | simp) (fun w' hw' hctx => ?_) ?_
  · obtain ⟨c0, c1, c2, c3, c4⟩ := A4.below (below_tr hd hw')
    go_simp
    try first | with_reducible rfl | simp
  simp only [Act.put, List.setIfInBounds_toArray, List.set_cons_zero, List.set_cons_succ]
  refine seqP_value (fun w => Below.refl _ _) _ (by first | rfl | simp) (fun w' hw' hctx => ?_) ?_
  · go_simp
    try first | with_reducible rfl | simp
  simp only [Act.put, List.setIfInBounds_toArray, List.set_cons_zero, List.set_cons_succ]
  refine seqP_value (fun w => Below.refl _ _) _ (by first | rfl | simp) (fun w' hw' hctx => ?_) ?_
  · obtain ⟨c0, c1, c2, c3, c4⟩ := B4.below (below_tr hd hw')
    go_simp
    try first | with_reducible rfl | simp
  simp only [Act.put, List.setIfInBounds_toArray, List.set_cons_zero, List.set_cons_succ]
  refine seqP_value (fun w => Below.refl _ _) _ (by first | rfl | simp) (fun w' hw' hctx => ?_) ?_
  · go_simp
    try first | with_reducible rfl | simp
  simp only [Act.put, List.setIfInBounds_toArray, List.set_cons_zero, List.set_cons_succ]
  refine seqP_value (fun w => Below.refl _ _) _ (by first | rfl | simp) (fun w' hw' hctx => ?_) ?_
  · go_simp
    try first | with_reducible rfl | simp
  simp only [Act.put, List.setIfInBounds_toArray, List.set_cons_zero, List.set_cons_succ]
  refine seqP_nil (fun v2 hR hctx => ?_)
  have hv2 := below_tr hd hR
  clear hctx hR hd
  have A5 := A4.below hv2
  have B5 := B4.below hv2
  have R5 := R4.below hv2
  have SR5 := SR4.below hv2
  have hw5 := below_tr hw4 hv2
  clear A4 B4 R4 SR4
  clear hv2
  have r' := R5
  obtain ⟨r0, r1, r2, r3, r4⟩ := r'
  have sr' := SR5
  obtain ⟨s0, s1, s2, s3, s4⟩ := sr'
  go_wp2_with fail
  have hwz := below_put4 hw5 (by omega : w.heap.size ≤ w.heap.size + 1 + 1) 0 0 0 ⟨#[]⟩
  obtain ⟨q0, q1, q2, q3, q4⟩ := boxed_put4 R5 0 0 0 ⟨#[]⟩
  exact bodyPost_ret (w := put4 v2 (w.heap.size + 1 + 1) 0 0 0 ⟨#[]⟩) (v := .tuple #[.agg #[.int .u8 0, .int .i64 0, .int .i64 0, .string ⟨#[]⟩], .int .i64 61]) (by simp [results, Try.results31, go_sem, q0, q1, q2, q3]) rfl ⟨rfl, hwz⟩

set_option maxHeartbeats 4000000 in
theorem rmul_nni (k n u : Int) (t : ByteArray) (k' n' u' : Int) (t' : ByteArray) (hz : bothZ k k' = false) (he : bothE k k' = 0) (x0 : (n == 0) = false) (y0 : (n' == 0) = false) (sx : decide (0 < n) = false) (tx : decide (n < 0) = true) (ty : decide (n' < 0) = true) (m1 : (n == -9223372036854775808) = false) (m2 : (n' == -9223372036854775808) = false) (xn : Int) (g1 : wrap64 (-n) = xn) (yn : Int) (g2 : wrap64 (-n') = yn) (g3 : ¬ yn = 0) (b : decide (wrap64 ((9223372036854775807 : Int).tdiv yn) < xn) = false) (p : Int) (hp : wrap64 (n * n') = p) (w : World) :
    Calls Try.prog 31 #[.agg #[.int .u8 k, .int .i64 n, .int .i64 u, .string t], .agg #[.int .u8 k', .int .i64 n', .int .i64 u', .string t']] w fun e w' => e = .returned (.tuple #[.agg #[.int .u8 1, .int .i64 p, .int .i64 0, .string ⟨#[]⟩], .int .i64 0]) ∧ Below w.heap.size w w' := by
  have Hhz := Lib.hid hz
  clear hz
  have Hhe := Lib.hid he
  clear he
  have hw0 := Below.refl w.heap.size w
  go_enter Try.func31, Try.ntmps31
  go_wp2_with fail
  have hn0 := Below.allocs w (.cells #[.int .u8 k, .int .i64 n, .int .i64 u, .string t] 23)
  have An := Boxed.new w k n u t 23
  have hw1 := below_tr hw0 hn0
  have A1 := An
  clear An hn0
  have hn1 := Below.allocs (w.alloc (.cells #[.int .u8 k, .int .i64 n, .int .i64 u, .string t] 23)) (.cells #[.int .u8 k', .int .i64 n', .int .i64 u', .string t'] 23)
  have Bn := Boxed.new (w.alloc (.cells #[.int .u8 k, .int .i64 n, .int .i64 u, .string t] 23)) k' n' u' t' 23
  rw [show (w.alloc (.cells #[.int .u8 k, .int .i64 n, .int .i64 u, .string t] 23)).heap.size = w.heap.size + 1 by simp] at Bn
  have A2 := A1.below hn1
  have hw2 := below_tr hw1 hn1
  clear A1
  have B2 := Bn
  clear Bn hn1
  have hn2 := Below.allocs ((w.alloc (.cells #[.int .u8 k, .int .i64 n, .int .i64 u, .string t] 23)).alloc (.cells #[.int .u8 k', .int .i64 n', .int .i64 u', .string t'] 23)) (.cells #[.int .u8 0, .int .i64 0, .int .i64 0, .string ⟨#[]⟩] 23)
  have Rn := Boxed.new ((w.alloc (.cells #[.int .u8 k, .int .i64 n, .int .i64 u, .string t] 23)).alloc (.cells #[.int .u8 k', .int .i64 n', .int .i64 u', .string t'] 23)) 0 0 0 ⟨#[]⟩ 23
  have SRn := Soft.new ((w.alloc (.cells #[.int .u8 k, .int .i64 n, .int .i64 u, .string t] 23)).alloc (.cells #[.int .u8 k', .int .i64 n', .int .i64 u', .string t'] 23)) 0 0 0 ⟨#[]⟩ 23
  rw [show ((w.alloc (.cells #[.int .u8 k, .int .i64 n, .int .i64 u, .string t] 23)).alloc (.cells #[.int .u8 k', .int .i64 n', .int .i64 u', .string t'] 23)).heap.size = w.heap.size + 1 + 1 by simp] at Rn SRn
  have A3 := A2.below hn2
  have B3 := B2.below hn2
  have hw3 := below_tr hw2 hn2
  clear A2 B2
  have R3 := Rn
  clear Rn hn2
  have SR3 := SRn
  clear SRn
  refine (both_is k n u t k' n' u' t' false 0 Hhz.out Hhe.out _).mono ?_
  rintro e v1 ⟨rfl, hv1⟩
  have A4 := A3.below hv1
  have B4 := B3.below hv1
  have R4 := R3.below hv1
  have SR4 := SR3.below hv1
  have hw4 := below_tr hw3 hv1
  clear A3 B3 R3 SR3
  clear hv1
  have a' := A4
  obtain ⟨a0, a1, a2, a3, a4⟩ := a'
  have b' := B4
  obtain ⟨b0, b1, b2, b3, b4⟩ := b'
  have r' := R4
  obtain ⟨r0, r1, r2, r3, r4⟩ := r'
  go_wp2_with fail
  clear a0 a1 a2 a3 a4 b0 b1 b2 b3 b4 r0 r1 r2 r3 r4
  have hd := below_drew v1
  refine wp_region_plan (fun w w' => Below w.heap.size w w') [.it (.pointer (some ⟨w.heap.size, 1, none⟩)), .it (.int .i64 n), .it (.pointer (some ⟨w.heap.size + 1, 1, none⟩)), .it (.int .i64 n'), .it (.int .i64 n), .it (.int .i64 n')] (by kernel_rfl) (by kernel_rfl) (fun w => Below.refl _ _) (fun _ _ _ => below_tr) ?_
  refine seqP_value (fun w => Below.refl _ _) _ (by first | rfl | simp) (fun w' hw' hctx => ?_) ?_
  · go_simp
    try first | with_reducible rfl | simp
  simp only [Act.put, List.setIfInBounds_toArray, List.set_cons_zero, List.set_cons_succ]
  refine seqP_value (fun w => Below.refl _ _) _ (by first | rfl | simp) (fun w' hw' hctx => ?_) ?_
  · obtain ⟨c0, c1, c2, c3, c4⟩ := A4.below (below_tr hd hw')
    go_simp
    try first | with_reducible rfl | simp
  simp only [Act.put, List.setIfInBounds_toArray, List.set_cons_zero, List.set_cons_succ]
  refine seqP_value (fun w => Below.refl _ _) _ (by first | rfl | simp) (fun w' hw' hctx => ?_) ?_
  · go_simp
    try first | with_reducible rfl | simp
  simp only [Act.put, List.setIfInBounds_toArray, List.set_cons_zero, List.set_cons_succ]
  refine seqP_value (fun w => Below.refl _ _) _ (by first | rfl | simp) (fun w' hw' hctx => ?_) ?_
  · obtain ⟨c0, c1, c2, c3, c4⟩ := B4.below (below_tr hd hw')
    go_simp
    try first | with_reducible rfl | simp
  simp only [Act.put, List.setIfInBounds_toArray, List.set_cons_zero, List.set_cons_succ]
  refine seqP_value (fun w => Below.refl _ _) _ (by first | rfl | simp) (fun w' hw' hctx => ?_) ?_
  · go_simp
    try first | with_reducible rfl | simp
  simp only [Act.put, List.setIfInBounds_toArray, List.set_cons_zero, List.set_cons_succ]
  refine seqP_value (fun w => Below.refl _ _) _ (by first | rfl | simp) (fun w' hw' hctx => ?_) ?_
  · go_simp
    try first | with_reducible rfl | simp
  simp only [Act.put, List.setIfInBounds_toArray, List.set_cons_zero, List.set_cons_succ]
  refine seqP_nil (fun v2 hR hctx => ?_)
  have hv2 := below_tr hd hR
  clear hctx hR hd
  have A5 := A4.below hv2
  have B5 := B4.below hv2
  have R5 := R4.below hv2
  have SR5 := SR4.below hv2
  have hw5 := below_tr hw4 hv2
  clear A4 B4 R4 SR4
  clear hv2
  go_wp2_with fail
  refine (rint_is p _).mono ?_
  rintro e v3 ⟨rfl, hv3⟩
  have A6 := A5.below hv3
  have B6 := B5.below hv3
  have R6 := R5.below hv3
  have SR6 := SR5.below hv3
  have hw6 := below_tr hw5 hv3
  clear A5 B5 R5 SR5
  clear hv3
  have r' := R6
  obtain ⟨r0, r1, r2, r3, r4⟩ := r'
  have sr' := SR6
  obtain ⟨s0, s1, s2, s3, s4⟩ := sr'
  go_wp2_with fail
  have hwz := below_put4 hw6 (by omega : w.heap.size ≤ w.heap.size + 1 + 1) 1 p 0 ⟨#[]⟩
  obtain ⟨q0, q1, q2, q3, q4⟩ := boxed_put4 R6 1 p 0 ⟨#[]⟩
  exact bodyPost_ret (w := put4 v3 (w.heap.size + 1 + 1) 1 p 0 ⟨#[]⟩) (v := .tuple #[.agg #[.int .u8 1, .int .i64 p, .int .i64 0, .string ⟨#[]⟩], .int .i64 0]) (by simp [results, Try.results31, go_sem, q0, q1, q2, q3]) rfl ⟨rfl, hwz⟩

set_option maxHeartbeats 4000000 in
theorem rmul_pno (k n u : Int) (t : ByteArray) (k' n' u' : Int) (t' : ByteArray) (hz : bothZ k k' = false) (he : bothE k k' = 0) (x0 : (n == 0) = false) (y0 : (n' == 0) = false) (x1 : ¬ n = 0) (sx : decide (0 < n) = true) (sy : decide (0 < n') = false) (tx : decide (n < 0) = false) (b : decide (n' < wrap64 (-(Int.tdiv 9223372036854775808 n))) = true) (w : World) :
    Calls Try.prog 31 #[.agg #[.int .u8 k, .int .i64 n, .int .i64 u, .string t], .agg #[.int .u8 k', .int .i64 n', .int .i64 u', .string t']] w fun e w' => e = .returned (.tuple #[.agg #[.int .u8 0, .int .i64 0, .int .i64 0, .string ⟨#[]⟩], .int .i64 61]) ∧ Below w.heap.size w w' := by
  have Hhz := Lib.hid hz
  clear hz
  have Hhe := Lib.hid he
  clear he
  have hw0 := Below.refl w.heap.size w
  go_enter Try.func31, Try.ntmps31
  go_wp2_with fail
  have hn0 := Below.allocs w (.cells #[.int .u8 k, .int .i64 n, .int .i64 u, .string t] 23)
  have An := Boxed.new w k n u t 23
  have hw1 := below_tr hw0 hn0
  have A1 := An
  clear An hn0
  have hn1 := Below.allocs (w.alloc (.cells #[.int .u8 k, .int .i64 n, .int .i64 u, .string t] 23)) (.cells #[.int .u8 k', .int .i64 n', .int .i64 u', .string t'] 23)
  have Bn := Boxed.new (w.alloc (.cells #[.int .u8 k, .int .i64 n, .int .i64 u, .string t] 23)) k' n' u' t' 23
  rw [show (w.alloc (.cells #[.int .u8 k, .int .i64 n, .int .i64 u, .string t] 23)).heap.size = w.heap.size + 1 by simp] at Bn
  have A2 := A1.below hn1
  have hw2 := below_tr hw1 hn1
  clear A1
  have B2 := Bn
  clear Bn hn1
  have hn2 := Below.allocs ((w.alloc (.cells #[.int .u8 k, .int .i64 n, .int .i64 u, .string t] 23)).alloc (.cells #[.int .u8 k', .int .i64 n', .int .i64 u', .string t'] 23)) (.cells #[.int .u8 0, .int .i64 0, .int .i64 0, .string ⟨#[]⟩] 23)
  have Rn := Boxed.new ((w.alloc (.cells #[.int .u8 k, .int .i64 n, .int .i64 u, .string t] 23)).alloc (.cells #[.int .u8 k', .int .i64 n', .int .i64 u', .string t'] 23)) 0 0 0 ⟨#[]⟩ 23
  have SRn := Soft.new ((w.alloc (.cells #[.int .u8 k, .int .i64 n, .int .i64 u, .string t] 23)).alloc (.cells #[.int .u8 k', .int .i64 n', .int .i64 u', .string t'] 23)) 0 0 0 ⟨#[]⟩ 23
  rw [show ((w.alloc (.cells #[.int .u8 k, .int .i64 n, .int .i64 u, .string t] 23)).alloc (.cells #[.int .u8 k', .int .i64 n', .int .i64 u', .string t'] 23)).heap.size = w.heap.size + 1 + 1 by simp] at Rn SRn
  have A3 := A2.below hn2
  have B3 := B2.below hn2
  have hw3 := below_tr hw2 hn2
  clear A2 B2
  have R3 := Rn
  clear Rn hn2
  have SR3 := SRn
  clear SRn
  refine (both_is k n u t k' n' u' t' false 0 Hhz.out Hhe.out _).mono ?_
  rintro e v1 ⟨rfl, hv1⟩
  have A4 := A3.below hv1
  have B4 := B3.below hv1
  have R4 := R3.below hv1
  have SR4 := SR3.below hv1
  have hw4 := below_tr hw3 hv1
  clear A3 B3 R3 SR3
  clear hv1
  have a' := A4
  obtain ⟨a0, a1, a2, a3, a4⟩ := a'
  have b' := B4
  obtain ⟨b0, b1, b2, b3, b4⟩ := b'
  have r' := R4
  obtain ⟨r0, r1, r2, r3, r4⟩ := r'
  go_wp2_with fail
  clear a0 a1 a2 a3 a4 b0 b1 b2 b3 b4 r0 r1 r2 r3 r4
  have hd := below_drew v1
  refine wp_region_plan (fun w w' => Below w.heap.size w w') [.it (.pointer (some ⟨w.heap.size, 1, none⟩)), .it (.int .i64 n), .it (.pointer (some ⟨w.heap.size + 1, 1, none⟩)), .it (.int .i64 n'), .it (.int .i64 n), .it (.int .i64 n')] (by kernel_rfl) (by kernel_rfl) (fun w => Below.refl _ _) (fun _ _ _ => below_tr) ?_
  refine seqP_value (fun w => Below.refl _ _) _ (by first | rfl | simp) (fun w' hw' hctx => ?_) ?_
  · go_simp
    try first | with_reducible rfl | simp
  simp only [Act.put, List.setIfInBounds_toArray, List.set_cons_zero, List.set_cons_succ]
  refine seqP_value (fun w => Below.refl _ _) _ (by first | rfl | simp) (fun w' hw' hctx => ?_) ?_
  · obtain ⟨c0, c1, c2, c3, c4⟩ := A4.below (below_tr hd hw')
    go_simp
    try first | with_reducible rfl | simp
  simp only [Act.put, List.setIfInBounds_toArray, List.set_cons_zero, List.set_cons_succ]
  refine seqP_value (fun w => Below.refl _ _) _ (by first | rfl | simp) (fun w' hw' hctx => ?_) ?_
  · go_simp
    try first | with_reducible rfl | simp
  simp only [Act.put, List.setIfInBounds_toArray, List.set_cons_zero, List.set_cons_succ]
  refine seqP_value (fun w => Below.refl _ _) _ (by first | rfl | simp) (fun w' hw' hctx => ?_) ?_
  · obtain ⟨c0, c1, c2, c3, c4⟩ := B4.below (below_tr hd hw')
    go_simp
    try first | with_reducible rfl | simp
  simp only [Act.put, List.setIfInBounds_toArray, List.set_cons_zero, List.set_cons_succ]
  refine seqP_value (fun w => Below.refl _ _) _ (by first | rfl | simp) (fun w' hw' hctx => ?_) ?_
  · go_simp
    try first | with_reducible rfl | simp
  simp only [Act.put, List.setIfInBounds_toArray, List.set_cons_zero, List.set_cons_succ]
  refine seqP_value (fun w => Below.refl _ _) _ (by first | rfl | simp) (fun w' hw' hctx => ?_) ?_
  · go_simp
    try first | with_reducible rfl | simp
  simp only [Act.put, List.setIfInBounds_toArray, List.set_cons_zero, List.set_cons_succ]
  refine seqP_nil (fun v2 hR hctx => ?_)
  have hv2 := below_tr hd hR
  clear hctx hR hd
  have A5 := A4.below hv2
  have B5 := B4.below hv2
  have R5 := R4.below hv2
  have SR5 := SR4.below hv2
  have hw5 := below_tr hw4 hv2
  clear A4 B4 R4 SR4
  clear hv2
  have r' := R5
  obtain ⟨r0, r1, r2, r3, r4⟩ := r'
  have sr' := SR5
  obtain ⟨s0, s1, s2, s3, s4⟩ := sr'
  go_wp2_with fail
  have hwz := below_put4 hw5 (by omega : w.heap.size ≤ w.heap.size + 1 + 1) 0 0 0 ⟨#[]⟩
  obtain ⟨q0, q1, q2, q3, q4⟩ := boxed_put4 R5 0 0 0 ⟨#[]⟩
  exact bodyPost_ret (w := put4 v2 (w.heap.size + 1 + 1) 0 0 0 ⟨#[]⟩) (v := .tuple #[.agg #[.int .u8 0, .int .i64 0, .int .i64 0, .string ⟨#[]⟩], .int .i64 61]) (by simp [results, Try.results31, go_sem, q0, q1, q2, q3]) rfl ⟨rfl, hwz⟩

set_option maxHeartbeats 4000000 in
theorem rmul_pni (k n u : Int) (t : ByteArray) (k' n' u' : Int) (t' : ByteArray) (hz : bothZ k k' = false) (he : bothE k k' = 0) (x0 : (n == 0) = false) (y0 : (n' == 0) = false) (x1 : ¬ n = 0) (sx : decide (0 < n) = true) (sy : decide (0 < n') = false) (tx : decide (n < 0) = false) (b : decide (n' < wrap64 (-(Int.tdiv 9223372036854775808 n))) = false) (p : Int) (hp : wrap64 (n * n') = p) (w : World) :
    Calls Try.prog 31 #[.agg #[.int .u8 k, .int .i64 n, .int .i64 u, .string t], .agg #[.int .u8 k', .int .i64 n', .int .i64 u', .string t']] w fun e w' => e = .returned (.tuple #[.agg #[.int .u8 1, .int .i64 p, .int .i64 0, .string ⟨#[]⟩], .int .i64 0]) ∧ Below w.heap.size w w' := by
  have Hhz := Lib.hid hz
  clear hz
  have Hhe := Lib.hid he
  clear he
  have hw0 := Below.refl w.heap.size w
  go_enter Try.func31, Try.ntmps31
  go_wp2_with fail
  have hn0 := Below.allocs w (.cells #[.int .u8 k, .int .i64 n, .int .i64 u, .string t] 23)
  have An := Boxed.new w k n u t 23
  have hw1 := below_tr hw0 hn0
  have A1 := An
  clear An hn0
  have hn1 := Below.allocs (w.alloc (.cells #[.int .u8 k, .int .i64 n, .int .i64 u, .string t] 23)) (.cells #[.int .u8 k', .int .i64 n', .int .i64 u', .string t'] 23)
  have Bn := Boxed.new (w.alloc (.cells #[.int .u8 k, .int .i64 n, .int .i64 u, .string t] 23)) k' n' u' t' 23
  rw [show (w.alloc (.cells #[.int .u8 k, .int .i64 n, .int .i64 u, .string t] 23)).heap.size = w.heap.size + 1 by simp] at Bn
  have A2 := A1.below hn1
  have hw2 := below_tr hw1 hn1
  clear A1
  have B2 := Bn
  clear Bn hn1
  have hn2 := Below.allocs ((w.alloc (.cells #[.int .u8 k, .int .i64 n, .int .i64 u, .string t] 23)).alloc (.cells #[.int .u8 k', .int .i64 n', .int .i64 u', .string t'] 23)) (.cells #[.int .u8 0, .int .i64 0, .int .i64 0, .string ⟨#[]⟩] 23)
  have Rn := Boxed.new ((w.alloc (.cells #[.int .u8 k, .int .i64 n, .int .i64 u, .string t] 23)).alloc (.cells #[.int .u8 k', .int .i64 n', .int .i64 u', .string t'] 23)) 0 0 0 ⟨#[]⟩ 23
  have SRn := Soft.new ((w.alloc (.cells #[.int .u8 k, .int .i64 n, .int .i64 u, .string t] 23)).alloc (.cells #[.int .u8 k', .int .i64 n', .int .i64 u', .string t'] 23)) 0 0 0 ⟨#[]⟩ 23
  rw [show ((w.alloc (.cells #[.int .u8 k, .int .i64 n, .int .i64 u, .string t] 23)).alloc (.cells #[.int .u8 k', .int .i64 n', .int .i64 u', .string t'] 23)).heap.size = w.heap.size + 1 + 1 by simp] at Rn SRn
  have A3 := A2.below hn2
  have B3 := B2.below hn2
  have hw3 := below_tr hw2 hn2
  clear A2 B2
  have R3 := Rn
  clear Rn hn2
  have SR3 := SRn
  clear SRn
  refine (both_is k n u t k' n' u' t' false 0 Hhz.out Hhe.out _).mono ?_
  rintro e v1 ⟨rfl, hv1⟩
  have A4 := A3.below hv1
  have B4 := B3.below hv1
  have R4 := R3.below hv1
  have SR4 := SR3.below hv1
  have hw4 := below_tr hw3 hv1
  clear A3 B3 R3 SR3
  clear hv1
  have a' := A4
  obtain ⟨a0, a1, a2, a3, a4⟩ := a'
  have b' := B4
  obtain ⟨b0, b1, b2, b3, b4⟩ := b'
  have r' := R4
  obtain ⟨r0, r1, r2, r3, r4⟩ := r'
  go_wp2_with fail
  clear a0 a1 a2 a3 a4 b0 b1 b2 b3 b4 r0 r1 r2 r3 r4
  have hd := below_drew v1
  refine wp_region_plan (fun w w' => Below w.heap.size w w') [.it (.pointer (some ⟨w.heap.size, 1, none⟩)), .it (.int .i64 n), .it (.pointer (some ⟨w.heap.size + 1, 1, none⟩)), .it (.int .i64 n'), .it (.int .i64 n), .it (.int .i64 n')] (by kernel_rfl) (by kernel_rfl) (fun w => Below.refl _ _) (fun _ _ _ => below_tr) ?_
  refine seqP_value (fun w => Below.refl _ _) _ (by first | rfl | simp) (fun w' hw' hctx => ?_) ?_
  · go_simp
    try first | with_reducible rfl | simp
  simp only [Act.put, List.setIfInBounds_toArray, List.set_cons_zero, List.set_cons_succ]
  refine seqP_value (fun w => Below.refl _ _) _ (by first | rfl | simp) (fun w' hw' hctx => ?_) ?_
  · obtain ⟨c0, c1, c2, c3, c4⟩ := A4.below (below_tr hd hw')
    go_simp
    try first | with_reducible rfl | simp
  simp only [Act.put, List.setIfInBounds_toArray, List.set_cons_zero, List.set_cons_succ]
  refine seqP_value (fun w => Below.refl _ _) _ (by first | rfl | simp) (fun w' hw' hctx => ?_) ?_
  · go_simp
    try first | with_reducible rfl | simp
  simp only [Act.put, List.setIfInBounds_toArray, List.set_cons_zero, List.set_cons_succ]
  refine seqP_value (fun w => Below.refl _ _) _ (by first | rfl | simp) (fun w' hw' hctx => ?_) ?_
  · obtain ⟨c0, c1, c2, c3, c4⟩ := B4.below (below_tr hd hw')
    go_simp
    try first | with_reducible rfl | simp
  simp only [Act.put, List.setIfInBounds_toArray, List.set_cons_zero, List.set_cons_succ]
  refine seqP_value (fun w => Below.refl _ _) _ (by first | rfl | simp) (fun w' hw' hctx => ?_) ?_
  · go_simp
    try first | with_reducible rfl | simp
  simp only [Act.put, List.setIfInBounds_toArray, List.set_cons_zero, List.set_cons_succ]
  refine seqP_value (fun w => Below.refl _ _) _ (by first | rfl | simp) (fun w' hw' hctx => ?_) ?_
  · go_simp
    try first | with_reducible rfl | simp
  simp only [Act.put, List.setIfInBounds_toArray, List.set_cons_zero, List.set_cons_succ]
  refine seqP_nil (fun v2 hR hctx => ?_)
  have hv2 := below_tr hd hR
  clear hctx hR hd
  have A5 := A4.below hv2
  have B5 := B4.below hv2
  have R5 := R4.below hv2
  have SR5 := SR4.below hv2
  have hw5 := below_tr hw4 hv2
  clear A4 B4 R4 SR4
  clear hv2
  go_wp2_with fail
  refine (rint_is p _).mono ?_
  rintro e v3 ⟨rfl, hv3⟩
  have A6 := A5.below hv3
  have B6 := B5.below hv3
  have R6 := R5.below hv3
  have SR6 := SR5.below hv3
  have hw6 := below_tr hw5 hv3
  clear A5 B5 R5 SR5
  clear hv3
  have r' := R6
  obtain ⟨r0, r1, r2, r3, r4⟩ := r'
  have sr' := SR6
  obtain ⟨s0, s1, s2, s3, s4⟩ := sr'
  go_wp2_with fail
  have hwz := below_put4 hw6 (by omega : w.heap.size ≤ w.heap.size + 1 + 1) 1 p 0 ⟨#[]⟩
  obtain ⟨q0, q1, q2, q3, q4⟩ := boxed_put4 R6 1 p 0 ⟨#[]⟩
  exact bodyPost_ret (w := put4 v3 (w.heap.size + 1 + 1) 1 p 0 ⟨#[]⟩) (v := .tuple #[.agg #[.int .u8 1, .int .i64 p, .int .i64 0, .string ⟨#[]⟩], .int .i64 0]) (by simp [results, Try.results31, go_sem, q0, q1, q2, q3]) rfl ⟨rfl, hwz⟩

set_option maxHeartbeats 4000000 in
theorem rmul_npo (k n u : Int) (t : ByteArray) (k' n' u' : Int) (t' : ByteArray) (hz : bothZ k k' = false) (he : bothE k k' = 0) (x0 : (n == 0) = false) (y0 : (n' == 0) = false) (y1 : ¬ n' = 0) (sx : decide (0 < n) = false) (tx : decide (n < 0) = true) (ty : decide (n' < 0) = false) (b : decide (n < wrap64 (-(Int.tdiv 9223372036854775808 n'))) = true) (w : World) :
    Calls Try.prog 31 #[.agg #[.int .u8 k, .int .i64 n, .int .i64 u, .string t], .agg #[.int .u8 k', .int .i64 n', .int .i64 u', .string t']] w fun e w' => e = .returned (.tuple #[.agg #[.int .u8 0, .int .i64 0, .int .i64 0, .string ⟨#[]⟩], .int .i64 61]) ∧ Below w.heap.size w w' := by
  have Hhz := Lib.hid hz
  clear hz
  have Hhe := Lib.hid he
  clear he
  have hw0 := Below.refl w.heap.size w
  go_enter Try.func31, Try.ntmps31
  go_wp2_with fail
  have hn0 := Below.allocs w (.cells #[.int .u8 k, .int .i64 n, .int .i64 u, .string t] 23)
  have An := Boxed.new w k n u t 23
  have hw1 := below_tr hw0 hn0
  have A1 := An
  clear An hn0
  have hn1 := Below.allocs (w.alloc (.cells #[.int .u8 k, .int .i64 n, .int .i64 u, .string t] 23)) (.cells #[.int .u8 k', .int .i64 n', .int .i64 u', .string t'] 23)
  have Bn := Boxed.new (w.alloc (.cells #[.int .u8 k, .int .i64 n, .int .i64 u, .string t] 23)) k' n' u' t' 23
  rw [show (w.alloc (.cells #[.int .u8 k, .int .i64 n, .int .i64 u, .string t] 23)).heap.size = w.heap.size + 1 by simp] at Bn
  have A2 := A1.below hn1
  have hw2 := below_tr hw1 hn1
  clear A1
  have B2 := Bn
  clear Bn hn1
  have hn2 := Below.allocs ((w.alloc (.cells #[.int .u8 k, .int .i64 n, .int .i64 u, .string t] 23)).alloc (.cells #[.int .u8 k', .int .i64 n', .int .i64 u', .string t'] 23)) (.cells #[.int .u8 0, .int .i64 0, .int .i64 0, .string ⟨#[]⟩] 23)
  have Rn := Boxed.new ((w.alloc (.cells #[.int .u8 k, .int .i64 n, .int .i64 u, .string t] 23)).alloc (.cells #[.int .u8 k', .int .i64 n', .int .i64 u', .string t'] 23)) 0 0 0 ⟨#[]⟩ 23
  have SRn := Soft.new ((w.alloc (.cells #[.int .u8 k, .int .i64 n, .int .i64 u, .string t] 23)).alloc (.cells #[.int .u8 k', .int .i64 n', .int .i64 u', .string t'] 23)) 0 0 0 ⟨#[]⟩ 23
  rw [show ((w.alloc (.cells #[.int .u8 k, .int .i64 n, .int .i64 u, .string t] 23)).alloc (.cells #[.int .u8 k', .int .i64 n', .int .i64 u', .string t'] 23)).heap.size = w.heap.size + 1 + 1 by simp] at Rn SRn
  have A3 := A2.below hn2
  have B3 := B2.below hn2
  have hw3 := below_tr hw2 hn2
  clear A2 B2
  have R3 := Rn
  clear Rn hn2
  have SR3 := SRn
  clear SRn
  refine (both_is k n u t k' n' u' t' false 0 Hhz.out Hhe.out _).mono ?_
  rintro e v1 ⟨rfl, hv1⟩
  have A4 := A3.below hv1
  have B4 := B3.below hv1
  have R4 := R3.below hv1
  have SR4 := SR3.below hv1
  have hw4 := below_tr hw3 hv1
  clear A3 B3 R3 SR3
  clear hv1
  have a' := A4
  obtain ⟨a0, a1, a2, a3, a4⟩ := a'
  have b' := B4
  obtain ⟨b0, b1, b2, b3, b4⟩ := b'
  have r' := R4
  obtain ⟨r0, r1, r2, r3, r4⟩ := r'
  go_wp2_with fail
  clear a0 a1 a2 a3 a4 b0 b1 b2 b3 b4 r0 r1 r2 r3 r4
  have hd := below_drew v1
  refine wp_region_plan (fun w w' => Below w.heap.size w w') [.it (.pointer (some ⟨w.heap.size, 1, none⟩)), .it (.int .i64 n), .it (.pointer (some ⟨w.heap.size + 1, 1, none⟩)), .it (.int .i64 n'), .it (.int .i64 n), .it (.int .i64 n')] (by kernel_rfl) (by kernel_rfl) (fun w => Below.refl _ _) (fun _ _ _ => below_tr) ?_
  refine seqP_value (fun w => Below.refl _ _) _ (by first | rfl | simp) (fun w' hw' hctx => ?_) ?_
  · go_simp
    try first | with_reducible rfl | simp
  simp only [Act.put, List.setIfInBounds_toArray, List.set_cons_zero, List.set_cons_succ]
  refine seqP_value (fun w => Below.refl _ _) _ (by first | rfl | simp) (fun w' hw' hctx => ?_) ?_
  · obtain ⟨c0, c1, c2, c3, c4⟩ := A4.below (below_tr hd hw')
    go_simp
    try first | with_reducible rfl | simp
  simp only [Act.put, List.setIfInBounds_toArray, List.set_cons_zero, List.set_cons_succ]
  refine seqP_value (fun w => Below.refl _ _) _ (by first | rfl | simp) (fun w' hw' hctx => ?_) ?_
  · go_simp
    try first | with_reducible rfl | simp
  simp only [Act.put, List.setIfInBounds_toArray, List.set_cons_zero, List.set_cons_succ]
  refine seqP_value (fun w => Below.refl _ _) _ (by first | rfl | simp) (fun w' hw' hctx => ?_) ?_
  · obtain ⟨c0, c1, c2, c3, c4⟩ := B4.below (below_tr hd hw')
    go_simp
    try first | with_reducible rfl | simp
  simp only [Act.put, List.setIfInBounds_toArray, List.set_cons_zero, List.set_cons_succ]
  refine seqP_value (fun w => Below.refl _ _) _ (by first | rfl | simp) (fun w' hw' hctx => ?_) ?_
  · go_simp
    try first | with_reducible rfl | simp
  simp only [Act.put, List.setIfInBounds_toArray, List.set_cons_zero, List.set_cons_succ]
  refine seqP_value (fun w => Below.refl _ _) _ (by first | rfl | simp) (fun w' hw' hctx => ?_) ?_
  · go_simp
    try first | with_reducible rfl | simp
  simp only [Act.put, List.setIfInBounds_toArray, List.set_cons_zero, List.set_cons_succ]
  refine seqP_nil (fun v2 hR hctx => ?_)
  have hv2 := below_tr hd hR
  clear hctx hR hd
  have A5 := A4.below hv2
  have B5 := B4.below hv2
  have R5 := R4.below hv2
  have SR5 := SR4.below hv2
  have hw5 := below_tr hw4 hv2
  clear A4 B4 R4 SR4
  clear hv2
  have r' := R5
  obtain ⟨r0, r1, r2, r3, r4⟩ := r'
  have sr' := SR5
  obtain ⟨s0, s1, s2, s3, s4⟩ := sr'
  go_wp2_with fail
  have hwz := below_put4 hw5 (by omega : w.heap.size ≤ w.heap.size + 1 + 1) 0 0 0 ⟨#[]⟩
  obtain ⟨q0, q1, q2, q3, q4⟩ := boxed_put4 R5 0 0 0 ⟨#[]⟩
  exact bodyPost_ret (w := put4 v2 (w.heap.size + 1 + 1) 0 0 0 ⟨#[]⟩) (v := .tuple #[.agg #[.int .u8 0, .int .i64 0, .int .i64 0, .string ⟨#[]⟩], .int .i64 61]) (by simp [results, Try.results31, go_sem, q0, q1, q2, q3]) rfl ⟨rfl, hwz⟩

set_option maxHeartbeats 4000000 in
theorem rmul_npi (k n u : Int) (t : ByteArray) (k' n' u' : Int) (t' : ByteArray) (hz : bothZ k k' = false) (he : bothE k k' = 0) (x0 : (n == 0) = false) (y0 : (n' == 0) = false) (y1 : ¬ n' = 0) (sx : decide (0 < n) = false) (tx : decide (n < 0) = true) (ty : decide (n' < 0) = false) (b : decide (n < wrap64 (-(Int.tdiv 9223372036854775808 n'))) = false) (p : Int) (hp : wrap64 (n * n') = p) (w : World) :
    Calls Try.prog 31 #[.agg #[.int .u8 k, .int .i64 n, .int .i64 u, .string t], .agg #[.int .u8 k', .int .i64 n', .int .i64 u', .string t']] w fun e w' => e = .returned (.tuple #[.agg #[.int .u8 1, .int .i64 p, .int .i64 0, .string ⟨#[]⟩], .int .i64 0]) ∧ Below w.heap.size w w' := by
  have Hhz := Lib.hid hz
  clear hz
  have Hhe := Lib.hid he
  clear he
  have hw0 := Below.refl w.heap.size w
  go_enter Try.func31, Try.ntmps31
  go_wp2_with fail
  have hn0 := Below.allocs w (.cells #[.int .u8 k, .int .i64 n, .int .i64 u, .string t] 23)
  have An := Boxed.new w k n u t 23
  have hw1 := below_tr hw0 hn0
  have A1 := An
  clear An hn0
  have hn1 := Below.allocs (w.alloc (.cells #[.int .u8 k, .int .i64 n, .int .i64 u, .string t] 23)) (.cells #[.int .u8 k', .int .i64 n', .int .i64 u', .string t'] 23)
  have Bn := Boxed.new (w.alloc (.cells #[.int .u8 k, .int .i64 n, .int .i64 u, .string t] 23)) k' n' u' t' 23
  rw [show (w.alloc (.cells #[.int .u8 k, .int .i64 n, .int .i64 u, .string t] 23)).heap.size = w.heap.size + 1 by simp] at Bn
  have A2 := A1.below hn1
  have hw2 := below_tr hw1 hn1
  clear A1
  have B2 := Bn
  clear Bn hn1
  have hn2 := Below.allocs ((w.alloc (.cells #[.int .u8 k, .int .i64 n, .int .i64 u, .string t] 23)).alloc (.cells #[.int .u8 k', .int .i64 n', .int .i64 u', .string t'] 23)) (.cells #[.int .u8 0, .int .i64 0, .int .i64 0, .string ⟨#[]⟩] 23)
  have Rn := Boxed.new ((w.alloc (.cells #[.int .u8 k, .int .i64 n, .int .i64 u, .string t] 23)).alloc (.cells #[.int .u8 k', .int .i64 n', .int .i64 u', .string t'] 23)) 0 0 0 ⟨#[]⟩ 23
  have SRn := Soft.new ((w.alloc (.cells #[.int .u8 k, .int .i64 n, .int .i64 u, .string t] 23)).alloc (.cells #[.int .u8 k', .int .i64 n', .int .i64 u', .string t'] 23)) 0 0 0 ⟨#[]⟩ 23
  rw [show ((w.alloc (.cells #[.int .u8 k, .int .i64 n, .int .i64 u, .string t] 23)).alloc (.cells #[.int .u8 k', .int .i64 n', .int .i64 u', .string t'] 23)).heap.size = w.heap.size + 1 + 1 by simp] at Rn SRn
  have A3 := A2.below hn2
  have B3 := B2.below hn2
  have hw3 := below_tr hw2 hn2
  clear A2 B2
  have R3 := Rn
  clear Rn hn2
  have SR3 := SRn
  clear SRn
  refine (both_is k n u t k' n' u' t' false 0 Hhz.out Hhe.out _).mono ?_
  rintro e v1 ⟨rfl, hv1⟩
  have A4 := A3.below hv1
  have B4 := B3.below hv1
  have R4 := R3.below hv1
  have SR4 := SR3.below hv1
  have hw4 := below_tr hw3 hv1
  clear A3 B3 R3 SR3
  clear hv1
  have a' := A4
  obtain ⟨a0, a1, a2, a3, a4⟩ := a'
  have b' := B4
  obtain ⟨b0, b1, b2, b3, b4⟩ := b'
  have r' := R4
  obtain ⟨r0, r1, r2, r3, r4⟩ := r'
  go_wp2_with fail
  clear a0 a1 a2 a3 a4 b0 b1 b2 b3 b4 r0 r1 r2 r3 r4
  have hd := below_drew v1
  refine wp_region_plan (fun w w' => Below w.heap.size w w') [.it (.pointer (some ⟨w.heap.size, 1, none⟩)), .it (.int .i64 n), .it (.pointer (some ⟨w.heap.size + 1, 1, none⟩)), .it (.int .i64 n'), .it (.int .i64 n), .it (.int .i64 n')] (by kernel_rfl) (by kernel_rfl) (fun w => Below.refl _ _) (fun _ _ _ => below_tr) ?_
  refine seqP_value (fun w => Below.refl _ _) _ (by first | rfl | simp) (fun w' hw' hctx => ?_) ?_
  · go_simp
    try first | with_reducible rfl | simp
  simp only [Act.put, List.setIfInBounds_toArray, List.set_cons_zero, List.set_cons_succ]
  refine seqP_value (fun w => Below.refl _ _) _ (by first | rfl | simp) (fun w' hw' hctx => ?_) ?_
  · obtain ⟨c0, c1, c2, c3, c4⟩ := A4.below (below_tr hd hw')
    go_simp
    try first | with_reducible rfl | simp
  simp only [Act.put, List.setIfInBounds_toArray, List.set_cons_zero, List.set_cons_succ]
  refine seqP_value (fun w => Below.refl _ _) _ (by first | rfl | simp) (fun w' hw' hctx => ?_) ?_
  · go_simp
    try first | with_reducible rfl | simp
  simp only [Act.put, List.setIfInBounds_toArray, List.set_cons_zero, List.set_cons_succ]
  refine seqP_value (fun w => Below.refl _ _) _ (by first | rfl | simp) (fun w' hw' hctx => ?_) ?_
  · obtain ⟨c0, c1, c2, c3, c4⟩ := B4.below (below_tr hd hw')
    go_simp
    try first | with_reducible rfl | simp
  simp only [Act.put, List.setIfInBounds_toArray, List.set_cons_zero, List.set_cons_succ]
  refine seqP_value (fun w => Below.refl _ _) _ (by first | rfl | simp) (fun w' hw' hctx => ?_) ?_
  · go_simp
    try first | with_reducible rfl | simp
  simp only [Act.put, List.setIfInBounds_toArray, List.set_cons_zero, List.set_cons_succ]
  refine seqP_value (fun w => Below.refl _ _) _ (by first | rfl | simp) (fun w' hw' hctx => ?_) ?_
  · go_simp
    try first | with_reducible rfl | simp
  simp only [Act.put, List.setIfInBounds_toArray, List.set_cons_zero, List.set_cons_succ]
  refine seqP_nil (fun v2 hR hctx => ?_)
  have hv2 := below_tr hd hR
  clear hctx hR hd
  have A5 := A4.below hv2
  have B5 := B4.below hv2
  have R5 := R4.below hv2
  have SR5 := SR4.below hv2
  have hw5 := below_tr hw4 hv2
  clear A4 B4 R4 SR4
  clear hv2
  go_wp2_with fail
  refine (rint_is p _).mono ?_
  rintro e v3 ⟨rfl, hv3⟩
  have A6 := A5.below hv3
  have B6 := B5.below hv3
  have R6 := R5.below hv3
  have SR6 := SR5.below hv3
  have hw6 := below_tr hw5 hv3
  clear A5 B5 R5 SR5
  clear hv3
  have r' := R6
  obtain ⟨r0, r1, r2, r3, r4⟩ := r'
  have sr' := SR6
  obtain ⟨s0, s1, s2, s3, s4⟩ := sr'
  go_wp2_with fail
  have hwz := below_put4 hw6 (by omega : w.heap.size ≤ w.heap.size + 1 + 1) 1 p 0 ⟨#[]⟩
  obtain ⟨q0, q1, q2, q3, q4⟩ := boxed_put4 R6 1 p 0 ⟨#[]⟩
  exact bodyPost_ret (w := put4 v3 (w.heap.size + 1 + 1) 1 p 0 ⟨#[]⟩) (v := .tuple #[.agg #[.int .u8 1, .int .i64 p, .int .i64 0, .string ⟨#[]⟩], .int .i64 0]) (by simp [results, Try.results31, go_sem, q0, q1, q2, q3]) rfl ⟨rfl, hwz⟩

theorem rmul_is (k n u : Int) (t : ByteArray) (k' n' u' : Int) (t' : ByteArray) (r : Res) (hr : calcR k k' (n * n') = r) (hn : I64 n) (hm : I64 n') (w : World) :
    Calls Try.prog 31 #[.agg #[.int .u8 k, .int .i64 n, .int .i64 u, .string t], .agg #[.int .u8 k', .int .i64 n', .int .i64 u', .string t']] w fun e w' => e = .returned (.tuple #[.agg #[.int .u8 r.k, .int .i64 r.n, .int .i64 0, .string ⟨#[]⟩], .int .i64 r.e]) ∧ Below w.heap.size w w' := by
  subst hr
  rw [calcR_both]
  rcases bothE_cases k k' with he | ⟨he, hz⟩
  · rw [he]
    cases hz : bothZ k k'
    · by_cases x0 : n = 0
      · subst x0
        rw [Int.zero_mul, show inR 0 = true by decide]
        exact rmul_x0 k 0 u t k' n' u' t' hz he rfl w
      · have bx : (n == 0) = false := by simpa using x0
        by_cases y0 : n' = 0
        · subst y0
          rw [Int.mul_zero, show inR 0 = true by decide]
          exact rmul_y0 k n u t k' 0 u' t' hz he bx rfl w
        · have b_y : (n' == 0) = false := by simpa using y0
          by_cases sx : 0 < n
          · by_cases sy : 0 < n'
            · have hb := beyond_pp sx sy
              cases hi : inR (n * n')
              · rw [hi] at hb; exact rmul_ppo k n u t k' n' u' t' hz he bx b_y y0 (decide_eq_true sx) (decide_eq_true sy) hb w
              · rw [hi] at hb; exact rmul_ppi k n u t k' n' u' t' hz he bx b_y y0 (decide_eq_true sx) (decide_eq_true sy) hb _ (wrap_R hi) w
            · have hb := beyond_pn sx (show n' < 0 by omega)
              cases hi : inR (n * n')
              · rw [hi] at hb; exact rmul_pno k n u t k' n' u' t' hz he bx b_y x0 (decide_eq_true sx) (decide_eq_false sy) (decide_eq_false (by omega)) hb w
              · rw [hi] at hb; exact rmul_pni k n u t k' n' u' t' hz he bx b_y x0 (decide_eq_true sx) (decide_eq_false sy) (decide_eq_false (by omega)) hb _ (wrap_R hi) w
          · have tx : n < 0 := by omega
            by_cases ty : n' < 0
            · by_cases m1 : n = -9223372036854775808
              · have hi : inR (n * n') = false := by
                  cases hh : inR (n * n')
                  · rfl
                  · have := inR_iff.1 hh
                    rw [m1] at this
                    unfold I64 at this
                    omega
                rw [hi]
                exact rmul_nn1 k n u t k' n' u' t' hz he bx b_y (decide_eq_false sx) (decide_eq_true tx) (decide_eq_true ty) (by simpa using m1) w
              · by_cases m2 : n' = -9223372036854775808
                · have hi : inR (n * n') = false := by
                    cases hh : inR (n * n')
                    · rfl
                    · have := inR_iff.1 hh
                      rw [m2] at this
                      unfold I64 at this
                      omega
                  rw [hi]
                  exact rmul_nn2 k n u t k' n' u' t' hz he bx b_y (decide_eq_false sx) (decide_eq_true tx) (decide_eq_true ty) (by simpa using m1) (by simpa using m2) w
                · have e1 : wrap64 (-n) = -n := wrap_in (by unfold I64 at *; omega)
                  have e2 : wrap64 (-n') = -n' := wrap_in (by unfold I64 at *; omega)
                  have hb := beyond_pp (show 0 < -n by omega) (show 0 < -n' by omega)
                  rw [Int.neg_mul_neg] at hb
                  cases hi : inR (n * n')
                  · rw [hi] at hb; exact rmul_nno k n u t k' n' u' t' hz he bx b_y (decide_eq_false sx) (decide_eq_true tx) (decide_eq_true ty) (by simpa using m1) (by simpa using m2) _ e1 _ e2 (by omega) hb w
                  · rw [hi] at hb; exact rmul_nni k n u t k' n' u' t' hz he bx b_y (decide_eq_false sx) (decide_eq_true tx) (decide_eq_true ty) (by simpa using m1) (by simpa using m2) _ e1 _ e2 (by omega) hb _ (wrap_R hi) w
            · have hb := beyond_pn (show 0 < n' by omega) tx
              rw [Int.mul_comm] at hb
              cases hi : inR (n * n')
              · rw [hi] at hb; exact rmul_npo k n u t k' n' u' t' hz he bx b_y y0 (decide_eq_false sx) (decide_eq_true tx) (decide_eq_false ty) hb w
              · rw [hi] at hb; exact rmul_npi k n u t k' n' u' t' hz he bx b_y y0 (decide_eq_false sx) (decide_eq_true tx) (decide_eq_false ty) hb _ (wrap_R hi) w
    · exact rmul_z k n u t k' n' u' t' hz he w
  · rw [he]
    exact rmul_e k n u t k' n' u' t' hz he w
end Go.Proofs.Ytmbjhahlbbhdaaa
