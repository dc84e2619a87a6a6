/-
  The law LogicTells as a walk over this translation: it answers true, and of what was there nothing has turned.
-/
import Derived.Test.YtmbjhahlbbhdaaaQRef4
namespace Go.Proofs.Ytmbjhahlbbhdaaa
open Go.RowKit

set_option maxRecDepth 100000 in
set_option maxHeartbeats 8000000 in
theorem tells_big1 (k n u : Int) (t : ByteArray) (k' n' u' : Int) (t' : ByteArray) (m : Int) (d : Bool) (h1 : 2000 < t.size) (w : World) :
    Calls Try.prog 3 #[.agg #[.int .u8 k, .int .i64 n, .int .i64 u, .string t], .agg #[.int .u8 k', .int .i64 n', .int .i64 u', .string t'], .int .i64 m, .bool d] w fun e w' => e = .returned (.bool true) ∧ Below w.heap.size w w' := by
  have d1 : decide (2000 < (t.size : Int)) = true := by simp; omega
  clear h1
  have hw0 := Below.refl w.heap.size w
  go_enter Try.func3, Try.ntmps3
  go_wp2_with fail
  have hn0 := Below.allocs w (.cells #[.int .u8 k, .int .i64 n, .int .i64 u, .string t] 23)
  have An := Boxed.new w k n u t 23
  have hw1 := below_tr hw0 hn0
  have A1 := An
  clear An hn0
  have hn1 := Below.allocs (w.alloc (.cells #[.int .u8 k, .int .i64 n, .int .i64 u, .string t] 23)) (.cells #[.int .u8 k', .int .i64 n', .int .i64 u', .string t'] 23)
  have Bn := Boxed.new (w.alloc (.cells #[.int .u8 k, .int .i64 n, .int .i64 u, .string t] 23)) k' n' u' t' 23
  rw [show (w.alloc (.cells #[.int .u8 k, .int .i64 n, .int .i64 u, .string t] 23)).heap.size = w.heap.size + 1 by simp] at Bn
  have A2 := A1.below hn1
  have hw2 := below_tr hw1 hn1
  clear A1
  have B2 := Bn
  clear Bn hn1
  refine (awake_is _).mono ?_
  rintro e v1 ⟨rfl, hv1⟩
  have A3 := A2.below hv1
  have B3 := B2.below hv1
  have hw3 := below_tr hw2 hv1
  clear A2 B2
  clear hv1
  go_wp2_with fail
  go_ret
  exact ⟨rfl, hw3⟩

set_option maxRecDepth 100000 in
set_option maxHeartbeats 8000000 in
theorem tells_big2 (k n u : Int) (t : ByteArray) (k' n' u' : Int) (t' : ByteArray) (m : Int) (d : Bool) (h1 : t.size ≤ 2000) (h2 : 2000 < t'.size) (w : World) :
    Calls Try.prog 3 #[.agg #[.int .u8 k, .int .i64 n, .int .i64 u, .string t], .agg #[.int .u8 k', .int .i64 n', .int .i64 u', .string t'], .int .i64 m, .bool d] w fun e w' => e = .returned (.bool true) ∧ Below w.heap.size w w' := by
  have d1 : decide (2000 < (t.size : Int)) = false := by simp; omega
  clear h1
  have d2 : decide (2000 < (t'.size : Int)) = true := by simp; omega
  clear h2
  have hw0 := Below.refl w.heap.size w
  go_enter Try.func3, Try.ntmps3
  go_wp2_with fail
  have hn0 := Below.allocs w (.cells #[.int .u8 k, .int .i64 n, .int .i64 u, .string t] 23)
  have An := Boxed.new w k n u t 23
  have hw1 := below_tr hw0 hn0
  have A1 := An
  clear An hn0
  have hn1 := Below.allocs (w.alloc (.cells #[.int .u8 k, .int .i64 n, .int .i64 u, .string t] 23)) (.cells #[.int .u8 k', .int .i64 n', .int .i64 u', .string t'] 23)
  have Bn := Boxed.new (w.alloc (.cells #[.int .u8 k, .int .i64 n, .int .i64 u, .string t] 23)) k' n' u' t' 23
  rw [show (w.alloc (.cells #[.int .u8 k, .int .i64 n, .int .i64 u, .string t] 23)).heap.size = w.heap.size + 1 by simp] at Bn
  have A2 := A1.below hn1
  have hw2 := below_tr hw1 hn1
  clear A1
  have B2 := Bn
  clear Bn hn1
  refine (awake_is _).mono ?_
  rintro e v1 ⟨rfl, hv1⟩
  have A3 := A2.below hv1
  have B3 := B2.below hv1
  have hw3 := below_tr hw2 hv1
  clear A2 B2
  clear hv1
  go_wp2_with fail
  go_ret
  exact ⟨rfl, hw3⟩

set_option maxRecDepth 100000 in
set_option maxHeartbeats 8000000 in
theorem tells_small (k n u : Int) (t : ByteArray) (k' n' u' : Int) (t' : ByteArray) (m : Int) (d : Bool) (h1 : t.size ≤ 2000) (h2 : t'.size ≤ 2000) (y z : Bool) (r1 r2 r3 r4 r5 r6 r7 r8 r9 : Res) (y1 : yesB k n = y) (z1 : nullB k = z) (q1 : notR k n = r1) (q2 : calcR 1 k (0 - n) = r2) (q3 : connectR k n k' n' false = r3) (q4 : connectR k n k' n' true = r4) (q5 : calcR k k' (n + n') = r5) (q6 : calcR k k' (n - n') = r6) (q7 : calcR k k' (n * n') = r7) (q8 : equalR k n u t k' n' u' t' = r8) (q9 : lessR k n u t k' n' u' t' = r9) (i1 : I64 n) (i2 : I64 n') (w : World) :
    Calls Try.prog 3 #[.agg #[.int .u8 k, .int .i64 n, .int .i64 u, .string t], .agg #[.int .u8 k', .int .i64 n', .int .i64 u', .string t'], .int .i64 m, .bool d] w fun e w' => e = .returned (.bool true) ∧ Below w.heap.size w w' := by
  have d1 : decide (2000 < (t.size : Int)) = false := by simp; omega
  clear h1
  have d2 : decide (2000 < (t'.size : Int)) = false := by simp; omega
  clear h2
  have Hy1 := Lib.hid y1
  clear y1
  have Hz1 := Lib.hid z1
  clear z1
  have Hq1 := Lib.hid q1
  clear q1
  have Hq2 := Lib.hid q2
  clear q2
  have Hq3 := Lib.hid q3
  clear q3
  have Hq4 := Lib.hid q4
  clear q4
  have Hq5 := Lib.hid q5
  clear q5
  have Hq6 := Lib.hid q6
  clear q6
  have Hq7 := Lib.hid q7
  clear q7
  have Hq8 := Lib.hid q8
  clear q8
  have Hq9 := Lib.hid q9
  clear q9
  have Hi1 := Lib.hid i1
  clear i1
  have Hi2 := Lib.hid i2
  clear i2
  have hw0 := Below.refl w.heap.size w
  go_enter Try.func3, Try.ntmps3
  go_wp2_with fail
  have hn0 := Below.allocs w (.cells #[.int .u8 k, .int .i64 n, .int .i64 u, .string t] 23)
  have An := Boxed.new w k n u t 23
  have hw1 := below_tr hw0 hn0
  have A1 := An
  clear An hn0
  have hn1 := Below.allocs (w.alloc (.cells #[.int .u8 k, .int .i64 n, .int .i64 u, .string t] 23)) (.cells #[.int .u8 k', .int .i64 n', .int .i64 u', .string t'] 23)
  have Bn := Boxed.new (w.alloc (.cells #[.int .u8 k, .int .i64 n, .int .i64 u, .string t] 23)) k' n' u' t' 23
  rw [show (w.alloc (.cells #[.int .u8 k, .int .i64 n, .int .i64 u, .string t] 23)).heap.size = w.heap.size + 1 by simp] at Bn
  have A2 := A1.below hn1
  have hw2 := below_tr hw1 hn1
  clear A1
  have B2 := Bn
  clear Bn hn1
  have hd := below_drew ((w.alloc (.cells #[.int .u8 k, .int .i64 n, .int .i64 u, .string t] 23)).alloc (.cells #[.int .u8 k', .int .i64 n', .int .i64 u', .string t'] 23))
  refine wp_region_plan (fun w w' => Below w.heap.size w w') [.it (.agg #[.int .u8 k, .int .i64 n, .int .i64 u, .string t]), .it (.bool y), .it (.agg #[.int .u8 k, .int .i64 n, .int .i64 u, .string t]), .it (.bool y), .it (.bool false), .it (.bool false), .it (.bool d), .it (.agg #[.int .u8 2, .int .i64 (ofN d), .int .i64 0, .string ⟨#[]⟩]), .it (.bool d), .it (.agg #[.int .u8 2, .int .i64 (ofN d), .int .i64 0, .string ⟨#[]⟩]), .it (.bool false), .it (.bool false), .it (.bool false), .it (.int .i64 m), .it (.agg #[.int .u8 1, .int .i64 m, .int .i64 0, .string ⟨#[]⟩]), .it (.int .i64 m), .it (.agg #[.int .u8 1, .int .i64 m, .int .i64 0, .string ⟨#[]⟩]), .it (.bool false), .it (.bool false), .it (.bool false), .it (.agg #[.int .u8 k, .int .i64 n, .int .i64 u, .string t]), .it (.agg #[.int .u8 2, .int .i64 (ofN z), .int .i64 0, .string ⟨#[]⟩]), .it (.agg #[.int .u8 k, .int .i64 n, .int .i64 u, .string t]), .it (.agg #[.int .u8 2, .int .i64 (ofN z), .int .i64 0, .string ⟨#[]⟩]), .it (.bool false), .it (.bool false)] (by kernel_rfl) (by kernel_rfl) (fun w => Below.refl _ _) (fun _ _ _ => below_tr) ?_
  refine seqP_value (fun w => Below.refl _ _) _ (by first | rfl | simp) (fun w' hw' hctx => ?_) ?_
  · obtain ⟨c0, c1, c2, c3, c4⟩ := A2.below (below_tr hd hw')
    go_simp
    try first | with_reducible rfl | simp
  simp only [Act.put, List.setIfInBounds_toArray, List.set_cons_zero, List.set_cons_succ]
  refine seqP_call 10 #[.agg #[.int .u8 k, .int .i64 n, .int .i64 u, .string t]] (.bool y) (by first | rfl | simp) (fun w' hw' hctx => ?_) (fun w' hw' hctx => yes_is k n u t y Hy1.out w') ?_
  · go_simp
  simp only [Act.put, List.setIfInBounds_toArray, List.set_cons_zero, List.set_cons_succ]
  refine seqP_value (fun w => Below.refl _ _) _ (by first | rfl | simp) (fun w' hw' hctx => ?_) ?_
  · obtain ⟨c0, c1, c2, c3, c4⟩ := A2.below (below_tr hd hw')
    go_simp
    try first | with_reducible rfl | simp
  simp only [Act.put, List.setIfInBounds_toArray, List.set_cons_zero, List.set_cons_succ]
  refine seqP_call 11 #[.agg #[.int .u8 k, .int .i64 n, .int .i64 u, .string t]] (.bool y) (by first | rfl | simp) (fun w' hw' hctx => ?_) (fun w' hw' hctx => ryes_is k n u t y Hy1.out w') ?_
  · go_simp
  simp only [Act.put, List.setIfInBounds_toArray, List.set_cons_zero, List.set_cons_succ]
  refine seqP_value (fun w => Below.refl _ _) _ (by first | rfl | simp) (fun w' hw' hctx => ?_) ?_
  · go_simp
    try first | with_reducible rfl | simp
  simp only [Act.put, List.setIfInBounds_toArray, List.set_cons_zero, List.set_cons_succ]
  refine seqP_value (fun w => Below.refl _ _) _ (by first | rfl | simp) (fun w' hw' hctx => ?_) ?_
  · go_simp
    try first | with_reducible rfl | simp
  simp only [Act.put, List.setIfInBounds_toArray, List.set_cons_zero, List.set_cons_succ]
  refine seqP_value (fun w => Below.refl _ _) _ (by first | rfl | simp) (fun w' hw' hctx => ?_) ?_
  · go_simp
    try first | with_reducible rfl | simp
  simp only [Act.put, List.setIfInBounds_toArray, List.set_cons_zero, List.set_cons_succ]
  refine seqP_call 12 #[.bool d] (.agg #[.int .u8 2, .int .i64 (ofN d), .int .i64 0, .string ⟨#[]⟩]) (by first | rfl | simp) (fun w' hw' hctx => ?_) (fun w' hw' hctx => of_is d w') ?_
  · go_simp
  simp only [Act.put, List.setIfInBounds_toArray, List.set_cons_zero, List.set_cons_succ]
  refine seqP_value (fun w => Below.refl _ _) _ (by first | rfl | simp) (fun w' hw' hctx => ?_) ?_
  · go_simp
    try first | with_reducible rfl | simp
  simp only [Act.put, List.setIfInBounds_toArray, List.set_cons_zero, List.set_cons_succ]
  refine seqP_call 13 #[.bool d] (.agg #[.int .u8 2, .int .i64 (ofN d), .int .i64 0, .string ⟨#[]⟩]) (by first | rfl | simp) (fun w' hw' hctx => ?_) (fun w' hw' hctx => rof_is d w') ?_
  · go_simp
  simp only [Act.put, List.setIfInBounds_toArray, List.set_cons_zero, List.set_cons_succ]
  refine seqP_value (fun w => Below.refl _ _) _ (by first | rfl | simp) (fun w' hw' hctx => ?_) ?_
  · go_simp
    try first | with_reducible rfl | simp
  simp only [Act.put, List.setIfInBounds_toArray, List.set_cons_zero, List.set_cons_succ]
  refine seqP_value (fun w => Below.refl _ _) _ (by first | rfl | simp) (fun w' hw' hctx => ?_) ?_
  · go_simp
    try first | with_reducible rfl | simp
  simp only [Act.put, List.setIfInBounds_toArray, List.set_cons_zero, List.set_cons_succ]
  refine seqP_value (fun w => Below.refl _ _) _ (by first | rfl | simp) (fun w' hw' hctx => ?_) ?_
  · go_simp
    try first | with_reducible rfl | simp
  simp only [Act.put, List.setIfInBounds_toArray, List.set_cons_zero, List.set_cons_succ]
  refine seqP_value (fun w => Below.refl _ _) _ (by first | rfl | simp) (fun w' hw' hctx => ?_) ?_
  · go_simp
    try first | with_reducible rfl | simp
  simp only [Act.put, List.setIfInBounds_toArray, List.set_cons_zero, List.set_cons_succ]
  refine seqP_call 14 #[.int .i64 m] (.agg #[.int .u8 1, .int .i64 m, .int .i64 0, .string ⟨#[]⟩]) (by first | rfl | simp) (fun w' hw' hctx => ?_) (fun w' hw' hctx => int_is m w') ?_
  · go_simp
  simp only [Act.put, List.setIfInBounds_toArray, List.set_cons_zero, List.set_cons_succ]
  refine seqP_value (fun w => Below.refl _ _) _ (by first | rfl | simp) (fun w' hw' hctx => ?_) ?_
  · go_simp
    try first | with_reducible rfl | simp
  simp only [Act.put, List.setIfInBounds_toArray, List.set_cons_zero, List.set_cons_succ]
  refine seqP_call 15 #[.int .i64 m] (.agg #[.int .u8 1, .int .i64 m, .int .i64 0, .string ⟨#[]⟩]) (by first | rfl | simp) (fun w' hw' hctx => ?_) (fun w' hw' hctx => rint_is m w') ?_
  · go_simp
  simp only [Act.put, List.setIfInBounds_toArray, List.set_cons_zero, List.set_cons_succ]
  refine seqP_value (fun w => Below.refl _ _) _ (by first | rfl | simp) (fun w' hw' hctx => ?_) ?_
  · go_simp
    try first | with_reducible rfl | simp
  simp only [Act.put, List.setIfInBounds_toArray, List.set_cons_zero, List.set_cons_succ]
  refine seqP_value (fun w => Below.refl _ _) _ (by first | rfl | simp) (fun w' hw' hctx => ?_) ?_
  · go_simp
    try first | with_reducible rfl | simp
  simp only [Act.put, List.setIfInBounds_toArray, List.set_cons_zero, List.set_cons_succ]
  refine seqP_value (fun w => Below.refl _ _) _ (by first | rfl | simp) (fun w' hw' hctx => ?_) ?_
  · go_simp
    try first | with_reducible rfl | simp
  simp only [Act.put, List.setIfInBounds_toArray, List.set_cons_zero, List.set_cons_succ]
  refine seqP_value (fun w => Below.refl _ _) _ (by first | rfl | simp) (fun w' hw' hctx => ?_) ?_
  · obtain ⟨c0, c1, c2, c3, c4⟩ := A2.below (below_tr hd hw')
    go_simp
    try first | with_reducible rfl | simp
  simp only [Act.put, List.setIfInBounds_toArray, List.set_cons_zero, List.set_cons_succ]
  refine seqP_call 16 #[.agg #[.int .u8 k, .int .i64 n, .int .i64 u, .string t]] (.agg #[.int .u8 2, .int .i64 (ofN z), .int .i64 0, .string ⟨#[]⟩]) (by first | rfl | simp) (fun w' hw' hctx => ?_) (fun w' hw' hctx => isnull_is k n u t z Hz1.out w') ?_
  · go_simp
  simp only [Act.put, List.setIfInBounds_toArray, List.set_cons_zero, List.set_cons_succ]
  refine seqP_value (fun w => Below.refl _ _) _ (by first | rfl | simp) (fun w' hw' hctx => ?_) ?_
  · obtain ⟨c0, c1, c2, c3, c4⟩ := A2.below (below_tr hd hw')
    go_simp
    try first | with_reducible rfl | simp
  simp only [Act.put, List.setIfInBounds_toArray, List.set_cons_zero, List.set_cons_succ]
  refine seqP_call 17 #[.agg #[.int .u8 k, .int .i64 n, .int .i64 u, .string t]] (.agg #[.int .u8 2, .int .i64 (ofN z), .int .i64 0, .string ⟨#[]⟩]) (by first | rfl | simp) (fun w' hw' hctx => ?_) (fun w' hw' hctx => risnull_is k n u t z Hz1.out w') ?_
  · go_simp
  simp only [Act.put, List.setIfInBounds_toArray, List.set_cons_zero, List.set_cons_succ]
  refine seqP_value (fun w => Below.refl _ _) _ (by first | rfl | simp) (fun w' hw' hctx => ?_) ?_
  · go_simp
    try first | with_reducible rfl | simp
  simp only [Act.put, List.setIfInBounds_toArray, List.set_cons_zero, List.set_cons_succ]
  refine seqP_value (fun w => Below.refl _ _) _ (by first | rfl | simp) (fun w' hw' hctx => ?_) ?_
  · go_simp
    try first | with_reducible rfl | simp
  simp only [Act.put, List.setIfInBounds_toArray, List.set_cons_zero, List.set_cons_succ]
  refine seqP_nil (fun v1 hR hctx => ?_)
  have hv1 := below_tr hd hR
  clear hctx hR hd
  have A3 := A2.below hv1
  have B3 := B2.below hv1
  have hw3 := below_tr hw2 hv1
  clear A2 B2
  clear hv1
  have a' := A3
  obtain ⟨a0, a1, a2, a3, a4⟩ := a'
  go_wp2_with fail
  clear a0 a1 a2 a3 a4
  refine (not_is k n u t r1 Hq1.out _).mono ?_
  rintro e v2 ⟨rfl, hv2⟩
  have A4 := A3.below hv2
  have B4 := B3.below hv2
  have hw4 := below_tr hw3 hv2
  clear A3 B3
  clear hv2
  have a' := A4
  obtain ⟨a0, a1, a2, a3, a4⟩ := a'
  go_wp2_with fail
  clear a0 a1 a2 a3 a4
  have hn4 := Below.allocs v2 (.cells #[.int .u8 r1.k, .int .i64 r1.n, .int .i64 0, .string ⟨#[]⟩] 23)
  have Cn := Boxed.new v2 r1.k r1.n 0 ⟨#[]⟩ 23
  have SCn := Soft.new v2 r1.k r1.n 0 ⟨#[]⟩ 23
  have neAC : w.heap.size ≠ v2.heap.size := Nat.ne_of_lt A4.2.2.2.2
  have neBC : w.heap.size + 1 ≠ v2.heap.size := Nat.ne_of_lt B4.2.2.2.2
  have A5 := A4.below hn4
  have B5 := B4.below hn4
  have hw5 := below_tr hw4 hn4
  clear A4 B4
  have C5 := Cn
  clear Cn hn4
  have SC5 := SCn
  clear SCn
  have geC : w.heap.size ≤ v2.heap.size := hw4.size
  refine (rnot_is k n u t r1 Hq1.out _).mono ?_
  rintro e v3 ⟨rfl, hv3⟩
  have A6 := A5.below hv3
  have B6 := B5.below hv3
  have C6 := C5.below hv3
  have SC6 := SC5.below hv3
  have hw6 := below_tr hw5 hv3
  clear A5 B5 C5 SC5
  clear hv3
  have a' := A6
  obtain ⟨a0, a1, a2, a3, a4⟩ := a'
  go_wp2_with fail
  clear a0 a1 a2 a3 a4
  have hn6 := Below.allocs v3 (.cells #[.int .u8 r1.k, .int .i64 r1.n, .int .i64 0, .string ⟨#[]⟩] 23)
  have Dn := Boxed.new v3 r1.k r1.n 0 ⟨#[]⟩ 23
  have SDn := Soft.new v3 r1.k r1.n 0 ⟨#[]⟩ 23
  have neAD : w.heap.size ≠ v3.heap.size := Nat.ne_of_lt A6.2.2.2.2
  have neBD : w.heap.size + 1 ≠ v3.heap.size := Nat.ne_of_lt B6.2.2.2.2
  have neCD : v2.heap.size ≠ v3.heap.size := Nat.ne_of_lt C6.2.2.2.2
  have A7 := A6.below hn6
  have B7 := B6.below hn6
  have C7 := C6.below hn6
  have SC7 := SC6.below hn6
  have hw7 := below_tr hw6 hn6
  clear A6 B6 C6 SC6
  have D7 := Dn
  clear Dn hn6
  have SD7 := SDn
  clear SDn
  have geD : w.heap.size ≤ v3.heap.size := hw6.size
  refine (neg_is k n u t r2 Hq2.out Hi1.out _).mono ?_
  rintro e v4 ⟨rfl, hv4⟩
  have A8 := A7.below hv4
  have B8 := B7.below hv4
  have C8 := C7.below hv4
  have D8 := D7.below hv4
  have SC8 := SC7.below hv4
  have SD8 := SD7.below hv4
  have hw8 := below_tr hw7 hv4
  clear A7 B7 C7 D7 SC7 SD7
  clear hv4
  have a' := A8
  obtain ⟨a0, a1, a2, a3, a4⟩ := a'
  go_wp2_with fail
  clear a0 a1 a2 a3 a4
  have hn8 := Below.allocs v4 (.cells #[.int .u8 r2.k, .int .i64 r2.n, .int .i64 0, .string ⟨#[]⟩] 23)
  have Gn := Boxed.new v4 r2.k r2.n 0 ⟨#[]⟩ 23
  have SGn := Soft.new v4 r2.k r2.n 0 ⟨#[]⟩ 23
  have neAG : w.heap.size ≠ v4.heap.size := Nat.ne_of_lt A8.2.2.2.2
  have neBG : w.heap.size + 1 ≠ v4.heap.size := Nat.ne_of_lt B8.2.2.2.2
  have neCG : v2.heap.size ≠ v4.heap.size := Nat.ne_of_lt C8.2.2.2.2
  have neDG : v3.heap.size ≠ v4.heap.size := Nat.ne_of_lt D8.2.2.2.2
  have A9 := A8.below hn8
  have B9 := B8.below hn8
  have C9 := C8.below hn8
  have D9 := D8.below hn8
  have SC9 := SC8.below hn8
  have SD9 := SD8.below hn8
  have hw9 := below_tr hw8 hn8
  clear A8 B8 C8 D8 SC8 SD8
  have G9 := Gn
  clear Gn hn8
  have SG9 := SGn
  clear SGn
  have geG : w.heap.size ≤ v4.heap.size := hw8.size
  refine (rneg_is k n u t r2 Hq2.out Hi1.out _).mono ?_
  rintro e v5 ⟨rfl, hv5⟩
  have A10 := A9.below hv5
  have B10 := B9.below hv5
  have C10 := C9.below hv5
  have D10 := D9.below hv5
  have G10 := G9.below hv5
  have SC10 := SC9.below hv5
  have SD10 := SD9.below hv5
  have SG10 := SG9.below hv5
  have hw10 := below_tr hw9 hv5
  clear A9 B9 C9 D9 G9 SC9 SD9 SG9
  clear hv5
  have a' := A10
  obtain ⟨a0, a1, a2, a3, a4⟩ := a'
  have b' := B10
  obtain ⟨b0, b1, b2, b3, b4⟩ := b'
  have c' := C10
  obtain ⟨c0, c1, c2, c3, c4⟩ := c'
  have d' := D10
  obtain ⟨d0, d1, d2, d3, d4⟩ := d'
  have g' := G10
  obtain ⟨g0, g1, g2, g3, g4⟩ := g'
  go_wp2_with fail
  clear a0 a1 a2 a3 a4 b0 b1 b2 b3 b4 c0 c1 c2 c3 c4 d0 d1 d2 d3 d4 g0 g1 g2 g3 g4
  have hn10 := Below.allocs v5 (.cells #[.int .u8 r2.k, .int .i64 r2.n, .int .i64 0, .string ⟨#[]⟩] 23)
  have In := Boxed.new v5 r2.k r2.n 0 ⟨#[]⟩ 23
  have SIn := Soft.new v5 r2.k r2.n 0 ⟨#[]⟩ 23
  have neAI : w.heap.size ≠ v5.heap.size := Nat.ne_of_lt A10.2.2.2.2
  have neBI : w.heap.size + 1 ≠ v5.heap.size := Nat.ne_of_lt B10.2.2.2.2
  have neCI : v2.heap.size ≠ v5.heap.size := Nat.ne_of_lt C10.2.2.2.2
  have neDI : v3.heap.size ≠ v5.heap.size := Nat.ne_of_lt D10.2.2.2.2
  have neGI : v4.heap.size ≠ v5.heap.size := Nat.ne_of_lt G10.2.2.2.2
  have A11 := A10.below hn10
  have B11 := B10.below hn10
  have C11 := C10.below hn10
  have D11 := D10.below hn10
  have G11 := G10.below hn10
  have SC11 := SC10.below hn10
  have SD11 := SD10.below hn10
  have SG11 := SG10.below hn10
  have hw11 := below_tr hw10 hn10
  clear A10 B10 C10 D10 G10 SC10 SD10 SG10
  have I11 := In
  clear In hn10
  have SI11 := SIn
  clear SIn
  have geI : w.heap.size ≤ v5.heap.size := hw10.size
  refine (and_is k n u t k' n' u' t' r3 Hq3.out _).mono ?_
  rintro e v6 ⟨rfl, hv6⟩
  have A12 := A11.below hv6
  have B12 := B11.below hv6
  have C12 := C11.below hv6
  have D12 := D11.below hv6
  have G12 := G11.below hv6
  have I12 := I11.below hv6
  have SC12 := SC11.below hv6
  have SD12 := SD11.below hv6
  have SG12 := SG11.below hv6
  have SI12 := SI11.below hv6
  have hw12 := below_tr hw11 hv6
  clear A11 B11 C11 D11 G11 I11 SC11 SD11 SG11 SI11
  clear hv6
  have a' := A12
  obtain ⟨a0, a1, a2, a3, a4⟩ := a'
  have b' := B12
  obtain ⟨b0, b1, b2, b3, b4⟩ := b'
  have c' := C12
  obtain ⟨c0, c1, c2, c3, c4⟩ := c'
  have sc' := SC12
  obtain ⟨sc0, sc1, sc2, sc3, sc4⟩ := sc'
  go_wp2_with fail
  clear a0 a1 a2 a3 a4 b0 b1 b2 b3 b4 c0 c1 c2 c3 c4 sc0 sc1 sc2 sc3 sc4
  have A13 := boxed_put4_ne A12 neAC r3.k r3.n 0 ⟨#[]⟩
  have B13 := boxed_put4_ne B12 neBC r3.k r3.n 0 ⟨#[]⟩
  have C13 := boxed_put4 C12 r3.k r3.n 0 ⟨#[]⟩
  have D13 := boxed_put4_ne D12 (Ne.symm neCD) r3.k r3.n 0 ⟨#[]⟩
  have G13 := boxed_put4_ne G12 (Ne.symm neCG) r3.k r3.n 0 ⟨#[]⟩
  have I13 := boxed_put4_ne I12 (Ne.symm neCI) r3.k r3.n 0 ⟨#[]⟩
  have SC13 := soft_put4 (g := v2.heap.size) SC12 r3.k r3.n 0 ⟨#[]⟩
  have SD13 := soft_put4 (g := v2.heap.size) SD12 r3.k r3.n 0 ⟨#[]⟩
  have SG13 := soft_put4 (g := v2.heap.size) SG12 r3.k r3.n 0 ⟨#[]⟩
  have SI13 := soft_put4 (g := v2.heap.size) SI12 r3.k r3.n 0 ⟨#[]⟩
  have hw13 := below_put4 hw12 (show w.heap.size ≤ v2.heap.size from geC) r3.k r3.n 0 ⟨#[]⟩
  clear A12 B12 C12 D12 G12 I12 SC12 SD12 SG12 SI12
  refine (rand_is k n u t k' n' u' t' r3 Hq3.out _).mono ?_
  rintro e v7 ⟨rfl, hv7⟩
  have A14 := A13.below hv7
  have B14 := B13.below hv7
  have C14 := C13.below hv7
  have D14 := D13.below hv7
  have G14 := G13.below hv7
  have I14 := I13.below hv7
  have SC14 := SC13.below hv7
  have SD14 := SD13.below hv7
  have SG14 := SG13.below hv7
  have SI14 := SI13.below hv7
  have hw14 := below_tr hw13 hv7
  clear A13 B13 C13 D13 G13 I13 SC13 SD13 SG13 SI13
  clear hv7
  have a' := A14
  obtain ⟨a0, a1, a2, a3, a4⟩ := a'
  have b' := B14
  obtain ⟨b0, b1, b2, b3, b4⟩ := b'
  have d' := D14
  obtain ⟨d0, d1, d2, d3, d4⟩ := d'
  have sd' := SD14
  obtain ⟨sd0, sd1, sd2, sd3, sd4⟩ := sd'
  go_wp2_with fail
  clear a0 a1 a2 a3 a4 b0 b1 b2 b3 b4 d0 d1 d2 d3 d4 sd0 sd1 sd2 sd3 sd4
  have A15 := boxed_put4_ne A14 neAD r3.k r3.n 0 ⟨#[]⟩
  have B15 := boxed_put4_ne B14 neBD r3.k r3.n 0 ⟨#[]⟩
  have C15 := boxed_put4_ne C14 neCD r3.k r3.n 0 ⟨#[]⟩
  have D15 := boxed_put4 D14 r3.k r3.n 0 ⟨#[]⟩
  have G15 := boxed_put4_ne G14 (Ne.symm neDG) r3.k r3.n 0 ⟨#[]⟩
  have I15 := boxed_put4_ne I14 (Ne.symm neDI) r3.k r3.n 0 ⟨#[]⟩
  have SC15 := soft_put4 (g := v3.heap.size) SC14 r3.k r3.n 0 ⟨#[]⟩
  have SD15 := soft_put4 (g := v3.heap.size) SD14 r3.k r3.n 0 ⟨#[]⟩
  have SG15 := soft_put4 (g := v3.heap.size) SG14 r3.k r3.n 0 ⟨#[]⟩
  have SI15 := soft_put4 (g := v3.heap.size) SI14 r3.k r3.n 0 ⟨#[]⟩
  have hw15 := below_put4 hw14 (show w.heap.size ≤ v3.heap.size from geD) r3.k r3.n 0 ⟨#[]⟩
  clear A14 B14 C14 D14 G14 I14 SC14 SD14 SG14 SI14
  refine (or_is k n u t k' n' u' t' r4 Hq4.out _).mono ?_
  rintro e v8 ⟨rfl, hv8⟩
  have A16 := A15.below hv8
  have B16 := B15.below hv8
  have C16 := C15.below hv8
  have D16 := D15.below hv8
  have G16 := G15.below hv8
  have I16 := I15.below hv8
  have SC16 := SC15.below hv8
  have SD16 := SD15.below hv8
  have SG16 := SG15.below hv8
  have SI16 := SI15.below hv8
  have hw16 := below_tr hw15 hv8
  clear A15 B15 C15 D15 G15 I15 SC15 SD15 SG15 SI15
  clear hv8
  have a' := A16
  obtain ⟨a0, a1, a2, a3, a4⟩ := a'
  have b' := B16
  obtain ⟨b0, b1, b2, b3, b4⟩ := b'
  have g' := G16
  obtain ⟨g0, g1, g2, g3, g4⟩ := g'
  have sg' := SG16
  obtain ⟨sg0, sg1, sg2, sg3, sg4⟩ := sg'
  go_wp2_with fail
  clear a0 a1 a2 a3 a4 b0 b1 b2 b3 b4 g0 g1 g2 g3 g4 sg0 sg1 sg2 sg3 sg4
  have A17 := boxed_put4_ne A16 neAG r4.k r4.n 0 ⟨#[]⟩
  have B17 := boxed_put4_ne B16 neBG r4.k r4.n 0 ⟨#[]⟩
  have C17 := boxed_put4_ne C16 neCG r4.k r4.n 0 ⟨#[]⟩
  have D17 := boxed_put4_ne D16 neDG r4.k r4.n 0 ⟨#[]⟩
  have G17 := boxed_put4 G16 r4.k r4.n 0 ⟨#[]⟩
  have I17 := boxed_put4_ne I16 (Ne.symm neGI) r4.k r4.n 0 ⟨#[]⟩
  have SC17 := soft_put4 (g := v4.heap.size) SC16 r4.k r4.n 0 ⟨#[]⟩
  have SD17 := soft_put4 (g := v4.heap.size) SD16 r4.k r4.n 0 ⟨#[]⟩
  have SG17 := soft_put4 (g := v4.heap.size) SG16 r4.k r4.n 0 ⟨#[]⟩
  have SI17 := soft_put4 (g := v4.heap.size) SI16 r4.k r4.n 0 ⟨#[]⟩
  have hw17 := below_put4 hw16 (show w.heap.size ≤ v4.heap.size from geG) r4.k r4.n 0 ⟨#[]⟩
  clear A16 B16 C16 D16 G16 I16 SC16 SD16 SG16 SI16
  refine (ror_is k n u t k' n' u' t' r4 Hq4.out _).mono ?_
  rintro e v9 ⟨rfl, hv9⟩
  have A18 := A17.below hv9
  have B18 := B17.below hv9
  have C18 := C17.below hv9
  have D18 := D17.below hv9
  have G18 := G17.below hv9
  have I18 := I17.below hv9
  have SC18 := SC17.below hv9
  have SD18 := SD17.below hv9
  have SG18 := SG17.below hv9
  have SI18 := SI17.below hv9
  have hw18 := below_tr hw17 hv9
  clear A17 B17 C17 D17 G17 I17 SC17 SD17 SG17 SI17
  clear hv9
  have a' := A18
  obtain ⟨a0, a1, a2, a3, a4⟩ := a'
  have b' := B18
  obtain ⟨b0, b1, b2, b3, b4⟩ := b'
  have c' := C18
  obtain ⟨c0, c1, c2, c3, c4⟩ := c'
  have d' := D18
  obtain ⟨d0, d1, d2, d3, d4⟩ := d'
  have g' := G18
  obtain ⟨g0, g1, g2, g3, g4⟩ := g'
  have i' := I18
  obtain ⟨i0, i1, i2, i3, i4⟩ := i'
  have si' := SI18
  obtain ⟨si0, si1, si2, si3, si4⟩ := si'
  go_wp2_with fail
  clear a0 a1 a2 a3 a4 b0 b1 b2 b3 b4 c0 c1 c2 c3 c4 d0 d1 d2 d3 d4 g0 g1 g2 g3 g4 i0 i1 i2 i3 i4 si0 si1 si2 si3 si4
  have A19 := boxed_put4_ne A18 neAI r4.k r4.n 0 ⟨#[]⟩
  have B19 := boxed_put4_ne B18 neBI r4.k r4.n 0 ⟨#[]⟩
  have C19 := boxed_put4_ne C18 neCI r4.k r4.n 0 ⟨#[]⟩
  have D19 := boxed_put4_ne D18 neDI r4.k r4.n 0 ⟨#[]⟩
  have G19 := boxed_put4_ne G18 neGI r4.k r4.n 0 ⟨#[]⟩
  have I19 := boxed_put4 I18 r4.k r4.n 0 ⟨#[]⟩
  have SC19 := soft_put4 (g := v5.heap.size) SC18 r4.k r4.n 0 ⟨#[]⟩
  have SD19 := soft_put4 (g := v5.heap.size) SD18 r4.k r4.n 0 ⟨#[]⟩
  have SG19 := soft_put4 (g := v5.heap.size) SG18 r4.k r4.n 0 ⟨#[]⟩
  have SI19 := soft_put4 (g := v5.heap.size) SI18 r4.k r4.n 0 ⟨#[]⟩
  have hw19 := below_put4 hw18 (show w.heap.size ≤ v5.heap.size from geI) r4.k r4.n 0 ⟨#[]⟩
  clear A18 B18 C18 D18 G18 I18 SC18 SD18 SG18 SI18
  refine (add_is k n u t k' n' u' t' r5 Hq5.out Hi1.out Hi2.out _).mono ?_
  rintro e v10 ⟨rfl, hv10⟩
  have A20 := A19.below hv10
  have B20 := B19.below hv10
  have C20 := C19.below hv10
  have D20 := D19.below hv10
  have G20 := G19.below hv10
  have I20 := I19.below hv10
  have SC20 := SC19.below hv10
  have SD20 := SD19.below hv10
  have SG20 := SG19.below hv10
  have SI20 := SI19.below hv10
  have hw20 := below_tr hw19 hv10
  clear A19 B19 C19 D19 G19 I19 SC19 SD19 SG19 SI19
  clear hv10
  have a' := A20
  obtain ⟨a0, a1, a2, a3, a4⟩ := a'
  have b' := B20
  obtain ⟨b0, b1, b2, b3, b4⟩ := b'
  have c' := C20
  obtain ⟨c0, c1, c2, c3, c4⟩ := c'
  have sc' := SC20
  obtain ⟨sc0, sc1, sc2, sc3, sc4⟩ := sc'
  go_wp2_with fail
  clear a0 a1 a2 a3 a4 b0 b1 b2 b3 b4 c0 c1 c2 c3 c4 sc0 sc1 sc2 sc3 sc4
  have A21 := boxed_put4_ne A20 neAC r5.k r5.n 0 ⟨#[]⟩
  have B21 := boxed_put4_ne B20 neBC r5.k r5.n 0 ⟨#[]⟩
  have C21 := boxed_put4 C20 r5.k r5.n 0 ⟨#[]⟩
  have D21 := boxed_put4_ne D20 (Ne.symm neCD) r5.k r5.n 0 ⟨#[]⟩
  have G21 := boxed_put4_ne G20 (Ne.symm neCG) r5.k r5.n 0 ⟨#[]⟩
  have I21 := boxed_put4_ne I20 (Ne.symm neCI) r5.k r5.n 0 ⟨#[]⟩
  have SC21 := soft_put4 (g := v2.heap.size) SC20 r5.k r5.n 0 ⟨#[]⟩
  have SD21 := soft_put4 (g := v2.heap.size) SD20 r5.k r5.n 0 ⟨#[]⟩
  have SG21 := soft_put4 (g := v2.heap.size) SG20 r5.k r5.n 0 ⟨#[]⟩
  have SI21 := soft_put4 (g := v2.heap.size) SI20 r5.k r5.n 0 ⟨#[]⟩
  have hw21 := below_put4 hw20 (show w.heap.size ≤ v2.heap.size from geC) r5.k r5.n 0 ⟨#[]⟩
  clear A20 B20 C20 D20 G20 I20 SC20 SD20 SG20 SI20
  refine (radd_is k n u t k' n' u' t' r5 Hq5.out Hi1.out Hi2.out _).mono ?_
  rintro e v11 ⟨rfl, hv11⟩
  have A22 := A21.below hv11
  have B22 := B21.below hv11
  have C22 := C21.below hv11
  have D22 := D21.below hv11
  have G22 := G21.below hv11
  have I22 := I21.below hv11
  have SC22 := SC21.below hv11
  have SD22 := SD21.below hv11
  have SG22 := SG21.below hv11
  have SI22 := SI21.below hv11
  have hw22 := below_tr hw21 hv11
  clear A21 B21 C21 D21 G21 I21 SC21 SD21 SG21 SI21
  clear hv11
  have a' := A22
  obtain ⟨a0, a1, a2, a3, a4⟩ := a'
  have b' := B22
  obtain ⟨b0, b1, b2, b3, b4⟩ := b'
  have d' := D22
  obtain ⟨d0, d1, d2, d3, d4⟩ := d'
  have sd' := SD22
  obtain ⟨sd0, sd1, sd2, sd3, sd4⟩ := sd'
  go_wp2_with fail
  clear a0 a1 a2 a3 a4 b0 b1 b2 b3 b4 d0 d1 d2 d3 d4 sd0 sd1 sd2 sd3 sd4
  have A23 := boxed_put4_ne A22 neAD r5.k r5.n 0 ⟨#[]⟩
  have B23 := boxed_put4_ne B22 neBD r5.k r5.n 0 ⟨#[]⟩
  have C23 := boxed_put4_ne C22 neCD r5.k r5.n 0 ⟨#[]⟩
  have D23 := boxed_put4 D22 r5.k r5.n 0 ⟨#[]⟩
  have G23 := boxed_put4_ne G22 (Ne.symm neDG) r5.k r5.n 0 ⟨#[]⟩
  have I23 := boxed_put4_ne I22 (Ne.symm neDI) r5.k r5.n 0 ⟨#[]⟩
  have SC23 := soft_put4 (g := v3.heap.size) SC22 r5.k r5.n 0 ⟨#[]⟩
  have SD23 := soft_put4 (g := v3.heap.size) SD22 r5.k r5.n 0 ⟨#[]⟩
  have SG23 := soft_put4 (g := v3.heap.size) SG22 r5.k r5.n 0 ⟨#[]⟩
  have SI23 := soft_put4 (g := v3.heap.size) SI22 r5.k r5.n 0 ⟨#[]⟩
  have hw23 := below_put4 hw22 (show w.heap.size ≤ v3.heap.size from geD) r5.k r5.n 0 ⟨#[]⟩
  clear A22 B22 C22 D22 G22 I22 SC22 SD22 SG22 SI22
  refine (sub_is k n u t k' n' u' t' r6 Hq6.out Hi1.out Hi2.out _).mono ?_
  rintro e v12 ⟨rfl, hv12⟩
  have A24 := A23.below hv12
  have B24 := B23.below hv12
  have C24 := C23.below hv12
  have D24 := D23.below hv12
  have G24 := G23.below hv12
  have I24 := I23.below hv12
  have SC24 := SC23.below hv12
  have SD24 := SD23.below hv12
  have SG24 := SG23.below hv12
  have SI24 := SI23.below hv12
  have hw24 := below_tr hw23 hv12
  clear A23 B23 C23 D23 G23 I23 SC23 SD23 SG23 SI23
  clear hv12
  have a' := A24
  obtain ⟨a0, a1, a2, a3, a4⟩ := a'
  have b' := B24
  obtain ⟨b0, b1, b2, b3, b4⟩ := b'
  have g' := G24
  obtain ⟨g0, g1, g2, g3, g4⟩ := g'
  have sg' := SG24
  obtain ⟨sg0, sg1, sg2, sg3, sg4⟩ := sg'
  go_wp2_with fail
  clear a0 a1 a2 a3 a4 b0 b1 b2 b3 b4 g0 g1 g2 g3 g4 sg0 sg1 sg2 sg3 sg4
  have A25 := boxed_put4_ne A24 neAG r6.k r6.n 0 ⟨#[]⟩
  have B25 := boxed_put4_ne B24 neBG r6.k r6.n 0 ⟨#[]⟩
  have C25 := boxed_put4_ne C24 neCG r6.k r6.n 0 ⟨#[]⟩
  have D25 := boxed_put4_ne D24 neDG r6.k r6.n 0 ⟨#[]⟩
  have G25 := boxed_put4 G24 r6.k r6.n 0 ⟨#[]⟩
  have I25 := boxed_put4_ne I24 (Ne.symm neGI) r6.k r6.n 0 ⟨#[]⟩
  have SC25 := soft_put4 (g := v4.heap.size) SC24 r6.k r6.n 0 ⟨#[]⟩
  have SD25 := soft_put4 (g := v4.heap.size) SD24 r6.k r6.n 0 ⟨#[]⟩
  have SG25 := soft_put4 (g := v4.heap.size) SG24 r6.k r6.n 0 ⟨#[]⟩
  have SI25 := soft_put4 (g := v4.heap.size) SI24 r6.k r6.n 0 ⟨#[]⟩
  have hw25 := below_put4 hw24 (show w.heap.size ≤ v4.heap.size from geG) r6.k r6.n 0 ⟨#[]⟩
  clear A24 B24 C24 D24 G24 I24 SC24 SD24 SG24 SI24
  refine (rsub_is k n u t k' n' u' t' r6 Hq6.out Hi1.out Hi2.out _).mono ?_
  rintro e v13 ⟨rfl, hv13⟩
  have A26 := A25.below hv13
  have B26 := B25.below hv13
  have C26 := C25.below hv13
  have D26 := D25.below hv13
  have G26 := G25.below hv13
  have I26 := I25.below hv13
  have SC26 := SC25.below hv13
  have SD26 := SD25.below hv13
  have SG26 := SG25.below hv13
  have SI26 := SI25.below hv13
  have hw26 := below_tr hw25 hv13
  clear A25 B25 C25 D25 G25 I25 SC25 SD25 SG25 SI25
  clear hv13
  have a' := A26
  obtain ⟨a0, a1, a2, a3, a4⟩ := a'
  have b' := B26
  obtain ⟨b0, b1, b2, b3, b4⟩ := b'
  have c' := C26
  obtain ⟨c0, c1, c2, c3, c4⟩ := c'
  have d' := D26
  obtain ⟨d0, d1, d2, d3, d4⟩ := d'
  have g' := G26
  obtain ⟨g0, g1, g2, g3, g4⟩ := g'
  have i' := I26
  obtain ⟨i0, i1, i2, i3, i4⟩ := i'
  have si' := SI26
  obtain ⟨si0, si1, si2, si3, si4⟩ := si'
  go_wp2_with fail
  clear a0 a1 a2 a3 a4 b0 b1 b2 b3 b4 c0 c1 c2 c3 c4 d0 d1 d2 d3 d4 g0 g1 g2 g3 g4 i0 i1 i2 i3 i4 si0 si1 si2 si3 si4
  have A27 := boxed_put4_ne A26 neAI r6.k r6.n 0 ⟨#[]⟩
  have B27 := boxed_put4_ne B26 neBI r6.k r6.n 0 ⟨#[]⟩
  have C27 := boxed_put4_ne C26 neCI r6.k r6.n 0 ⟨#[]⟩
  have D27 := boxed_put4_ne D26 neDI r6.k r6.n 0 ⟨#[]⟩
  have G27 := boxed_put4_ne G26 neGI r6.k r6.n 0 ⟨#[]⟩
  have I27 := boxed_put4 I26 r6.k r6.n 0 ⟨#[]⟩
  have SC27 := soft_put4 (g := v5.heap.size) SC26 r6.k r6.n 0 ⟨#[]⟩
  have SD27 := soft_put4 (g := v5.heap.size) SD26 r6.k r6.n 0 ⟨#[]⟩
  have SG27 := soft_put4 (g := v5.heap.size) SG26 r6.k r6.n 0 ⟨#[]⟩
  have SI27 := soft_put4 (g := v5.heap.size) SI26 r6.k r6.n 0 ⟨#[]⟩
  have hw27 := below_put4 hw26 (show w.heap.size ≤ v5.heap.size from geI) r6.k r6.n 0 ⟨#[]⟩
  clear A26 B26 C26 D26 G26 I26 SC26 SD26 SG26 SI26
  refine (mul_is k n u t k' n' u' t' r7 Hq7.out Hi1.out Hi2.out _).mono ?_
  rintro e v14 ⟨rfl, hv14⟩
  have A28 := A27.below hv14
  have B28 := B27.below hv14
  have C28 := C27.below hv14
  have D28 := D27.below hv14
  have G28 := G27.below hv14
  have I28 := I27.below hv14
  have SC28 := SC27.below hv14
  have SD28 := SD27.below hv14
  have SG28 := SG27.below hv14
  have SI28 := SI27.below hv14
  have hw28 := below_tr hw27 hv14
  clear A27 B27 C27 D27 G27 I27 SC27 SD27 SG27 SI27
  clear hv14
  have a' := A28
  obtain ⟨a0, a1, a2, a3, a4⟩ := a'
  have b' := B28
  obtain ⟨b0, b1, b2, b3, b4⟩ := b'
  have c' := C28
  obtain ⟨c0, c1, c2, c3, c4⟩ := c'
  have sc' := SC28
  obtain ⟨sc0, sc1, sc2, sc3, sc4⟩ := sc'
  go_wp2_with fail
  clear a0 a1 a2 a3 a4 b0 b1 b2 b3 b4 c0 c1 c2 c3 c4 sc0 sc1 sc2 sc3 sc4
  have A29 := boxed_put4_ne A28 neAC r7.k r7.n 0 ⟨#[]⟩
  have B29 := boxed_put4_ne B28 neBC r7.k r7.n 0 ⟨#[]⟩
  have C29 := boxed_put4 C28 r7.k r7.n 0 ⟨#[]⟩
  have D29 := boxed_put4_ne D28 (Ne.symm neCD) r7.k r7.n 0 ⟨#[]⟩
  have G29 := boxed_put4_ne G28 (Ne.symm neCG) r7.k r7.n 0 ⟨#[]⟩
  have I29 := boxed_put4_ne I28 (Ne.symm neCI) r7.k r7.n 0 ⟨#[]⟩
  have SC29 := soft_put4 (g := v2.heap.size) SC28 r7.k r7.n 0 ⟨#[]⟩
  have SD29 := soft_put4 (g := v2.heap.size) SD28 r7.k r7.n 0 ⟨#[]⟩
  have SG29 := soft_put4 (g := v2.heap.size) SG28 r7.k r7.n 0 ⟨#[]⟩
  have SI29 := soft_put4 (g := v2.heap.size) SI28 r7.k r7.n 0 ⟨#[]⟩
  have hw29 := below_put4 hw28 (show w.heap.size ≤ v2.heap.size from geC) r7.k r7.n 0 ⟨#[]⟩
  clear A28 B28 C28 D28 G28 I28 SC28 SD28 SG28 SI28
  refine (rmul_is k n u t k' n' u' t' r7 Hq7.out Hi1.out Hi2.out _).mono ?_
  rintro e v15 ⟨rfl, hv15⟩
  have A30 := A29.below hv15
  have B30 := B29.below hv15
  have C30 := C29.below hv15
  have D30 := D29.below hv15
  have G30 := G29.below hv15
  have I30 := I29.below hv15
  have SC30 := SC29.below hv15
  have SD30 := SD29.below hv15
  have SG30 := SG29.below hv15
  have SI30 := SI29.below hv15
  have hw30 := below_tr hw29 hv15
  clear A29 B29 C29 D29 G29 I29 SC29 SD29 SG29 SI29
  clear hv15
  have a' := A30
  obtain ⟨a0, a1, a2, a3, a4⟩ := a'
  have b' := B30
  obtain ⟨b0, b1, b2, b3, b4⟩ := b'
  have d' := D30
  obtain ⟨d0, d1, d2, d3, d4⟩ := d'
  have sd' := SD30
  obtain ⟨sd0, sd1, sd2, sd3, sd4⟩ := sd'
  go_wp2_with fail
  clear a0 a1 a2 a3 a4 b0 b1 b2 b3 b4 d0 d1 d2 d3 d4 sd0 sd1 sd2 sd3 sd4
  have A31 := boxed_put4_ne A30 neAD r7.k r7.n 0 ⟨#[]⟩
  have B31 := boxed_put4_ne B30 neBD r7.k r7.n 0 ⟨#[]⟩
  have C31 := boxed_put4_ne C30 neCD r7.k r7.n 0 ⟨#[]⟩
  have D31 := boxed_put4 D30 r7.k r7.n 0 ⟨#[]⟩
  have G31 := boxed_put4_ne G30 (Ne.symm neDG) r7.k r7.n 0 ⟨#[]⟩
  have I31 := boxed_put4_ne I30 (Ne.symm neDI) r7.k r7.n 0 ⟨#[]⟩
  have SC31 := soft_put4 (g := v3.heap.size) SC30 r7.k r7.n 0 ⟨#[]⟩
  have SD31 := soft_put4 (g := v3.heap.size) SD30 r7.k r7.n 0 ⟨#[]⟩
  have SG31 := soft_put4 (g := v3.heap.size) SG30 r7.k r7.n 0 ⟨#[]⟩
  have SI31 := soft_put4 (g := v3.heap.size) SI30 r7.k r7.n 0 ⟨#[]⟩
  have hw31 := below_put4 hw30 (show w.heap.size ≤ v3.heap.size from geD) r7.k r7.n 0 ⟨#[]⟩
  clear A30 B30 C30 D30 G30 I30 SC30 SD30 SG30 SI30
  refine (equal_is k n u t k' n' u' t' r8 Hq8.out _).mono ?_
  rintro e v16 ⟨rfl, hv16⟩
  have A32 := A31.below hv16
  have B32 := B31.below hv16
  have C32 := C31.below hv16
  have D32 := D31.below hv16
  have G32 := G31.below hv16
  have I32 := I31.below hv16
  have SC32 := SC31.below hv16
  have SD32 := SD31.below hv16
  have SG32 := SG31.below hv16
  have SI32 := SI31.below hv16
  have hw32 := below_tr hw31 hv16
  clear A31 B31 C31 D31 G31 I31 SC31 SD31 SG31 SI31
  clear hv16
  have a' := A32
  obtain ⟨a0, a1, a2, a3, a4⟩ := a'
  have b' := B32
  obtain ⟨b0, b1, b2, b3, b4⟩ := b'
  have g' := G32
  obtain ⟨g0, g1, g2, g3, g4⟩ := g'
  have sg' := SG32
  obtain ⟨sg0, sg1, sg2, sg3, sg4⟩ := sg'
  go_wp2_with fail
  clear a0 a1 a2 a3 a4 b0 b1 b2 b3 b4 g0 g1 g2 g3 g4 sg0 sg1 sg2 sg3 sg4
  have A33 := boxed_put4_ne A32 neAG r8.k r8.n 0 ⟨#[]⟩
  have B33 := boxed_put4_ne B32 neBG r8.k r8.n 0 ⟨#[]⟩
  have C33 := boxed_put4_ne C32 neCG r8.k r8.n 0 ⟨#[]⟩
  have D33 := boxed_put4_ne D32 neDG r8.k r8.n 0 ⟨#[]⟩
  have G33 := boxed_put4 G32 r8.k r8.n 0 ⟨#[]⟩
  have I33 := boxed_put4_ne I32 (Ne.symm neGI) r8.k r8.n 0 ⟨#[]⟩
  have SC33 := soft_put4 (g := v4.heap.size) SC32 r8.k r8.n 0 ⟨#[]⟩
  have SD33 := soft_put4 (g := v4.heap.size) SD32 r8.k r8.n 0 ⟨#[]⟩
  have SG33 := soft_put4 (g := v4.heap.size) SG32 r8.k r8.n 0 ⟨#[]⟩
  have SI33 := soft_put4 (g := v4.heap.size) SI32 r8.k r8.n 0 ⟨#[]⟩
  have hw33 := below_put4 hw32 (show w.heap.size ≤ v4.heap.size from geG) r8.k r8.n 0 ⟨#[]⟩
  clear A32 B32 C32 D32 G32 I32 SC32 SD32 SG32 SI32
  refine (requal_is k n u t k' n' u' t' r8 Hq8.out _).mono ?_
  rintro e v17 ⟨rfl, hv17⟩
  have A34 := A33.below hv17
  have B34 := B33.below hv17
  have C34 := C33.below hv17
  have D34 := D33.below hv17
  have G34 := G33.below hv17
  have I34 := I33.below hv17
  have SC34 := SC33.below hv17
  have SD34 := SD33.below hv17
  have SG34 := SG33.below hv17
  have SI34 := SI33.below hv17
  have hw34 := below_tr hw33 hv17
  clear A33 B33 C33 D33 G33 I33 SC33 SD33 SG33 SI33
  clear hv17
  have a' := A34
  obtain ⟨a0, a1, a2, a3, a4⟩ := a'
  have b' := B34
  obtain ⟨b0, b1, b2, b3, b4⟩ := b'
  have i' := I34
  obtain ⟨i0, i1, i2, i3, i4⟩ := i'
  have si' := SI34
  obtain ⟨si0, si1, si2, si3, si4⟩ := si'
  go_wp2_with fail
  clear a0 a1 a2 a3 a4 b0 b1 b2 b3 b4 i0 i1 i2 i3 i4 si0 si1 si2 si3 si4
  have A35 := boxed_put4_ne A34 neAI r8.k r8.n 0 ⟨#[]⟩
  have B35 := boxed_put4_ne B34 neBI r8.k r8.n 0 ⟨#[]⟩
  have C35 := boxed_put4_ne C34 neCI r8.k r8.n 0 ⟨#[]⟩
  have D35 := boxed_put4_ne D34 neDI r8.k r8.n 0 ⟨#[]⟩
  have G35 := boxed_put4_ne G34 neGI r8.k r8.n 0 ⟨#[]⟩
  have I35 := boxed_put4 I34 r8.k r8.n 0 ⟨#[]⟩
  have SC35 := soft_put4 (g := v5.heap.size) SC34 r8.k r8.n 0 ⟨#[]⟩
  have SD35 := soft_put4 (g := v5.heap.size) SD34 r8.k r8.n 0 ⟨#[]⟩
  have SG35 := soft_put4 (g := v5.heap.size) SG34 r8.k r8.n 0 ⟨#[]⟩
  have SI35 := soft_put4 (g := v5.heap.size) SI34 r8.k r8.n 0 ⟨#[]⟩
  have hw35 := below_put4 hw34 (show w.heap.size ≤ v5.heap.size from geI) r8.k r8.n 0 ⟨#[]⟩
  clear A34 B34 C34 D34 G34 I34 SC34 SD34 SG34 SI34
  refine (less_is k n u t k' n' u' t' r9 Hq9.out _).mono ?_
  rintro e v18 ⟨rfl, hv18⟩
  have A36 := A35.below hv18
  have B36 := B35.below hv18
  have C36 := C35.below hv18
  have D36 := D35.below hv18
  have G36 := G35.below hv18
  have I36 := I35.below hv18
  have SC36 := SC35.below hv18
  have SD36 := SD35.below hv18
  have SG36 := SG35.below hv18
  have SI36 := SI35.below hv18
  have hw36 := below_tr hw35 hv18
  clear A35 B35 C35 D35 G35 I35 SC35 SD35 SG35 SI35
  clear hv18
  have a' := A36
  obtain ⟨a0, a1, a2, a3, a4⟩ := a'
  have b' := B36
  obtain ⟨b0, b1, b2, b3, b4⟩ := b'
  go_wp2_with fail
  clear a0 a1 a2 a3 a4 b0 b1 b2 b3 b4
  have hn36 := Below.allocs v18 (.cells #[.int .u8 r9.k, .int .i64 r9.n, .int .i64 0, .string ⟨#[]⟩] 23)
  have Kn := Boxed.new v18 r9.k r9.n 0 ⟨#[]⟩ 23
  have SKn := Soft.new v18 r9.k r9.n 0 ⟨#[]⟩ 23
  have neAK : w.heap.size ≠ v18.heap.size := Nat.ne_of_lt A36.2.2.2.2
  have neBK : w.heap.size + 1 ≠ v18.heap.size := Nat.ne_of_lt B36.2.2.2.2
  have neCK : v2.heap.size ≠ v18.heap.size := Nat.ne_of_lt C36.2.2.2.2
  have neDK : v3.heap.size ≠ v18.heap.size := Nat.ne_of_lt D36.2.2.2.2
  have neGK : v4.heap.size ≠ v18.heap.size := Nat.ne_of_lt G36.2.2.2.2
  have neIK : v5.heap.size ≠ v18.heap.size := Nat.ne_of_lt I36.2.2.2.2
  have A37 := A36.below hn36
  have B37 := B36.below hn36
  have C37 := C36.below hn36
  have D37 := D36.below hn36
  have G37 := G36.below hn36
  have I37 := I36.below hn36
  have SC37 := SC36.below hn36
  have SD37 := SD36.below hn36
  have SG37 := SG36.below hn36
  have SI37 := SI36.below hn36
  have hw37 := below_tr hw36 hn36
  clear A36 B36 C36 D36 G36 I36 SC36 SD36 SG36 SI36
  have K37 := Kn
  clear Kn hn36
  have SK37 := SKn
  clear SKn
  have geK : w.heap.size ≤ v18.heap.size := hw36.size
  refine (rless_is k n u t k' n' u' t' r9 Hq9.out _).mono ?_
  rintro e v19 ⟨rfl, hv19⟩
  have A38 := A37.below hv19
  have B38 := B37.below hv19
  have C38 := C37.below hv19
  have D38 := D37.below hv19
  have G38 := G37.below hv19
  have I38 := I37.below hv19
  have K38 := K37.below hv19
  have SC38 := SC37.below hv19
  have SD38 := SD37.below hv19
  have SG38 := SG37.below hv19
  have SI38 := SI37.below hv19
  have SK38 := SK37.below hv19
  have hw38 := below_tr hw37 hv19
  clear A37 B37 C37 D37 G37 I37 K37 SC37 SD37 SG37 SI37 SK37
  clear hv19
  have c' := C38
  obtain ⟨c0, c1, c2, c3, c4⟩ := c'
  have d' := D38
  obtain ⟨d0, d1, d2, d3, d4⟩ := d'
  have g' := G38
  obtain ⟨g0, g1, g2, g3, g4⟩ := g'
  have i' := I38
  obtain ⟨i0, i1, i2, i3, i4⟩ := i'
  have k' := K38
  obtain ⟨k0, k1, k2, k3, k4⟩ := k'
  go_wp2_with fail
  clear c0 c1 c2 c3 c4 d0 d1 d2 d3 d4 g0 g1 g2 g3 g4 i0 i1 i2 i3 i4 k0 k1 k2 k3 k4
  have hn38 := Below.allocs v19 (.cells #[.int .u8 r9.k, .int .i64 r9.n, .int .i64 0, .string ⟨#[]⟩] 23)
  have Mn := Boxed.new v19 r9.k r9.n 0 ⟨#[]⟩ 23
  have SMn := Soft.new v19 r9.k r9.n 0 ⟨#[]⟩ 23
  have neAM : w.heap.size ≠ v19.heap.size := Nat.ne_of_lt A38.2.2.2.2
  have neBM : w.heap.size + 1 ≠ v19.heap.size := Nat.ne_of_lt B38.2.2.2.2
  have neCM : v2.heap.size ≠ v19.heap.size := Nat.ne_of_lt C38.2.2.2.2
  have neDM : v3.heap.size ≠ v19.heap.size := Nat.ne_of_lt D38.2.2.2.2
  have neGM : v4.heap.size ≠ v19.heap.size := Nat.ne_of_lt G38.2.2.2.2
  have neIM : v5.heap.size ≠ v19.heap.size := Nat.ne_of_lt I38.2.2.2.2
  have neKM : v18.heap.size ≠ v19.heap.size := Nat.ne_of_lt K38.2.2.2.2
  have A39 := A38.below hn38
  have B39 := B38.below hn38
  have C39 := C38.below hn38
  have D39 := D38.below hn38
  have G39 := G38.below hn38
  have I39 := I38.below hn38
  have K39 := K38.below hn38
  have SC39 := SC38.below hn38
  have SD39 := SD38.below hn38
  have SG39 := SG38.below hn38
  have SI39 := SI38.below hn38
  have SK39 := SK38.below hn38
  have hw39 := below_tr hw38 hn38
  clear A38 B38 C38 D38 G38 I38 K38 SC38 SD38 SG38 SI38 SK38
  have M39 := Mn
  clear Mn hn38
  have SM39 := SMn
  clear SMn
  have geM : w.heap.size ≤ v19.heap.size := hw38.size
  refine (awake_is _).mono ?_
  rintro e v20 ⟨rfl, hv20⟩
  have A40 := A39.below hv20
  have B40 := B39.below hv20
  have C40 := C39.below hv20
  have D40 := D39.below hv20
  have G40 := G39.below hv20
  have I40 := I39.below hv20
  have K40 := K39.below hv20
  have M40 := M39.below hv20
  have SC40 := SC39.below hv20
  have SD40 := SD39.below hv20
  have SG40 := SG39.below hv20
  have SI40 := SI39.below hv20
  have SK40 := SK39.below hv20
  have SM40 := SM39.below hv20
  have hw40 := below_tr hw39 hv20
  clear A39 B39 C39 D39 G39 I39 K39 M39 SC39 SD39 SG39 SI39 SK39 SM39
  clear hv20
  go_wp2_with fail
  go_ret
  exact ⟨rfl, hw40⟩

end Go.Proofs.Ytmbjhahlbbhdaaa
