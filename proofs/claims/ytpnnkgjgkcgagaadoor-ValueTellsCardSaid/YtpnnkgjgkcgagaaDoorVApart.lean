/-
  The law ValueApart as a walk over this translation: it answers true, and of what was there nothing has turned.
-/
import Derived.Test.YtpnnkgjgkcgagaaDoorVWorks
namespace Go.Proofs.YtpnnkgjgkcgagaaDoor
open Go.RowKit

/-- Two values that a call boxes first. -/
theorem two_boxes (w : World) (k n hi : Int) (t : ByteArray) (k' n' hi' : Int) (t' : ByteArray) (T : TypeId) : ∃ W : World, W = (w.alloc (.cells #[.int .u8 k, .int .i64 n, .int .i64 hi, .string t] T)).alloc (.cells #[.int .u8 k', .int .i64 n', .int .i64 hi', .string t'] T) ∧
    Boxed W w.heap.size k n hi t ∧ Boxed W (w.heap.size + 1) k' n' hi' t' ∧ Below w.heap.size w W := by
  refine ⟨_, rfl, (Boxed.new w k n hi t T).below (Below.allocs _ _), ?_, ((Below.refl _ _).alloc (Nat.le_refl _) _).alloc (by simp) _⟩
  have := Boxed.new (w.alloc (.cells #[.int .u8 k, .int .i64 n, .int .i64 hi, .string t] T)) k' n' hi' t' T
  rw [show (w.alloc (.cells #[.int .u8 k, .int .i64 n, .int .i64 hi, .string t] T)).heap.size = w.heap.size + 1 by simp] at this
  exact this

set_option maxHeartbeats 1000000 in
theorem apart_big (k n hi : Int) (t : ByteArray) (k' n' hi' : Int) (t' : ByteArray) (hz : t.size ≤ 140737488351232) (hz' : t'.size ≤ 140737488351232) (hl : 10000 < t.size + t'.size) (w : World) (hg : Good w) :
    Calls Tryd.prog 10 #[.agg #[.int .u8 k, .int .i64 n, .int .i64 hi, .string t], .agg #[.int .u8 k', .int .i64 n', .int .i64 hi', .string t']] w fun e w' => e = .returned (.bool true) ∧ Below w.heap.size w w' := by
  obtain ⟨W, hW, B0, C0, hb0⟩ := two_boxes w k n hi t k' n' hi' t' 26
  have HW := Lib.hid hW
  have hg0 := hg.below hb0
  obtain ⟨g, hgg⟩ : ∃ g, w.heap.size = g := ⟨_, rfl⟩
  rw [hgg] at B0 C0
  go_enter Tryd.func10, Tryd.ntmps10
  go_wp2_with fail
  rw [← hW]
  have HG := Lib.hid hgg
  clear hW hgg
  refine (works_true W hg0).mono ?_
  rintro e w1 ⟨rfl, hb1⟩
  have hw1 := below_tr hb0 hb1
  have hg1 := hg0.below hb1
  have B1 := B0.below hb1
  have C1 := C0.below hb1
  have B1' := B1
  have C1' := C1
  obtain ⟨c0, c1, c2, c3, c4⟩ := B1'
  obtain ⟨d0, d1, d2, d3, d4⟩ := C1'
  go_wp2_with fail
  refine (works_true w1 hg1).mono ?_
  rintro e wz ⟨rfl, hbz⟩
  have hwz := below_tr hw1 hbz
  go_wp2_with fail
  go_ret
  exact ⟨rfl, hwz⟩

set_option maxHeartbeats 1000000 in
theorem apart_no1 (k n hi : Int) (t : ByteArray) (k' n' hi' : Int) (t' : ByteArray) (hz : t.size ≤ 140737488351232) (hz' : t'.size ≤ 140737488351232) (hl : t.size + t'.size ≤ 10000) (hm1 : mayB k n hi t.data.toList = false) (w : World) (hg : Good w) :
    Calls Tryd.prog 10 #[.agg #[.int .u8 k, .int .i64 n, .int .i64 hi, .string t], .agg #[.int .u8 k', .int .i64 n', .int .i64 hi', .string t']] w fun e w' => e = .returned (.bool true) ∧ Below w.heap.size w w' := by
  obtain ⟨W, hW, B0, C0, hb0⟩ := two_boxes w k n hi t k' n' hi' t' 26
  have HW := Lib.hid hW
  have hg0 := hg.below hb0
  obtain ⟨g, hgg⟩ : ∃ g, w.heap.size = g := ⟨_, rfl⟩
  rw [hgg] at B0 C0
  have HM1 := Lib.hid hm1
  clear hm1
  go_enter Tryd.func10, Tryd.ntmps10
  go_wp2_with fail
  rw [← hW]
  have HG := Lib.hid hgg
  clear hW hgg
  refine (works_true W hg0).mono ?_
  rintro e w1 ⟨rfl, hb1⟩
  have hw1 := below_tr hb0 hb1
  have hg1 := hg0.below hb1
  have B1 := B0.below hb1
  have C1 := C0.below hb1
  have B1' := B1
  have C1' := C1
  obtain ⟨c0, c1, c2, c3, c4⟩ := B1'
  obtain ⟨d0, d1, d2, d3, d4⟩ := C1'
  go_wp2_with fail
  refine (may_is k n hi t _ false HM1.out).mono ?_
  rintro e w2 ⟨rfl, hb2⟩
  have hw2 := below_tr hw1 hb2
  have hg2 := hg1.below hb2
  have B2 := B1.below hb2
  have C2 := C1.below hb2
  clear c0 c1 c2 c3 c4 d0 d1 d2 d3 d4
  have B2' := B2
  have C2' := C2
  obtain ⟨c0, c1, c2, c3, c4⟩ := B2'
  obtain ⟨d0, d1, d2, d3, d4⟩ := C2'
  go_wp2_with fail
  refine (works_true w2 hg2).mono ?_
  rintro e wz ⟨rfl, hbz⟩
  have hwz := below_tr hw2 hbz
  go_wp2_with fail
  go_ret
  exact ⟨rfl, hwz⟩

set_option maxHeartbeats 1000000 in
theorem apart_no2 (k n hi : Int) (t : ByteArray) (k' n' hi' : Int) (t' : ByteArray) (hz : t.size ≤ 140737488351232) (hz' : t'.size ≤ 140737488351232) (hl : t.size + t'.size ≤ 10000) (hm1 : mayB k n hi t.data.toList = true) (hm2 : mayB k' n' hi' t'.data.toList = false) (w : World) (hg : Good w) :
    Calls Tryd.prog 10 #[.agg #[.int .u8 k, .int .i64 n, .int .i64 hi, .string t], .agg #[.int .u8 k', .int .i64 n', .int .i64 hi', .string t']] w fun e w' => e = .returned (.bool true) ∧ Below w.heap.size w w' := by
  obtain ⟨W, hW, B0, C0, hb0⟩ := two_boxes w k n hi t k' n' hi' t' 26
  have HW := Lib.hid hW
  have hg0 := hg.below hb0
  obtain ⟨g, hgg⟩ : ∃ g, w.heap.size = g := ⟨_, rfl⟩
  rw [hgg] at B0 C0
  have HM1 := Lib.hid hm1
  clear hm1
  have HM2 := Lib.hid hm2
  clear hm2
  go_enter Tryd.func10, Tryd.ntmps10
  go_wp2_with fail
  rw [← hW]
  have HG := Lib.hid hgg
  clear hW hgg
  refine (works_true W hg0).mono ?_
  rintro e w1 ⟨rfl, hb1⟩
  have hw1 := below_tr hb0 hb1
  have hg1 := hg0.below hb1
  have B1 := B0.below hb1
  have C1 := C0.below hb1
  have B1' := B1
  have C1' := C1
  obtain ⟨c0, c1, c2, c3, c4⟩ := B1'
  obtain ⟨d0, d1, d2, d3, d4⟩ := C1'
  go_wp2_with fail
  refine (may_is k n hi t _ true HM1.out).mono ?_
  rintro e w2 ⟨rfl, hb2⟩
  have hw2 := below_tr hw1 hb2
  have hg2 := hg1.below hb2
  have B2 := B1.below hb2
  have C2 := C1.below hb2
  clear c0 c1 c2 c3 c4 d0 d1 d2 d3 d4
  have B2' := B2
  have C2' := C2
  obtain ⟨c0, c1, c2, c3, c4⟩ := B2'
  obtain ⟨d0, d1, d2, d3, d4⟩ := C2'
  go_wp2_with fail
  refine (may_is k' n' hi' t' _ false HM2.out).mono ?_
  rintro e w3 ⟨rfl, hb3⟩
  have hw3 := below_tr hw2 hb3
  have hg3 := hg2.below hb3
  have B3 := B2.below hb3
  have C3 := C2.below hb3
  clear c0 c1 c2 c3 c4 d0 d1 d2 d3 d4
  have B3' := B3
  have C3' := C3
  obtain ⟨c0, c1, c2, c3, c4⟩ := B3'
  obtain ⟨d0, d1, d2, d3, d4⟩ := C3'
  go_wp2_with fail
  refine (works_true w3 hg3).mono ?_
  rintro e wz ⟨rfl, hbz⟩
  have hwz := below_tr hw3 hbz
  go_wp2_with fail
  go_ret
  exact ⟨rfl, hwz⟩

set_option maxHeartbeats 1000000 in
theorem apart_eq (k n hi : Int) (t : ByteArray) (k' n' hi' : Int) (t' : ByteArray) (b1 : -9223372036854775808 ≤ n ∧ n ≤ 9223372036854775807) (b2 : -9223372036854775808 ≤ hi ∧ hi ≤ 9223372036854775807) (b1' : -9223372036854775808 ≤ n' ∧ n' ≤ 9223372036854775807) (b2' : -9223372036854775808 ≤ hi' ∧ hi' ≤ 9223372036854775807)
    (hz : t.size ≤ 140737488351232) (hz' : t'.size ≤ 140737488351232) (hl : t.size + t'.size ≤ 10000) (hm1 : mayB k n hi t.data.toList = true) (hm2 : mayB k' n' hi' t'.data.toList = true) (he : k = k' ∧ n = n' ∧ hi = hi' ∧ t.toList = t'.toList) (w : World) (hg : Good w) :
    Calls Tryd.prog 10 #[.agg #[.int .u8 k, .int .i64 n, .int .i64 hi, .string t], .agg #[.int .u8 k', .int .i64 n', .int .i64 hi', .string t']] w fun e w' => e = .returned (.bool true) ∧ Below w.heap.size w w' := by
  obtain ⟨W, hW, B0, C0, hb0⟩ := two_boxes w k n hi t k' n' hi' t' 26
  have HW := Lib.hid hW
  have hg0 := hg.below hb0
  obtain ⟨g, hgg⟩ : ∃ g, w.heap.size = g := ⟨_, rfl⟩
  rw [hgg] at B0 C0
  have hq : (textL k n hi t.data.toList == textL k' n' hi' t'.data.toList) = true := by
    obtain ⟨rfl, rfl, rfl, h4⟩ := he
    rw [ByteArray.toList_eq, ByteArray.toList_eq] at h4
    rw [h4]
    simp
  have HE := Lib.hid he
  have HQ := Lib.hid hq
  clear he hq
  have HM1 := Lib.hid hm1
  clear hm1
  have HM2 := Lib.hid hm2
  clear hm2
  go_enter Tryd.func10, Tryd.ntmps10
  go_wp2_with fail
  rw [← hW]
  have HG := Lib.hid hgg
  clear hW hgg
  refine (works_true W hg0).mono ?_
  rintro e w1 ⟨rfl, hb1⟩
  have hw1 := below_tr hb0 hb1
  have hg1 := hg0.below hb1
  have B1 := B0.below hb1
  have C1 := C0.below hb1
  have B1' := B1
  have C1' := C1
  obtain ⟨c0, c1, c2, c3, c4⟩ := B1'
  obtain ⟨d0, d1, d2, d3, d4⟩ := C1'
  go_wp2_with fail
  refine (may_is k n hi t _ true HM1.out).mono ?_
  rintro e w2 ⟨rfl, hb2⟩
  have hw2 := below_tr hw1 hb2
  have hg2 := hg1.below hb2
  have B2 := B1.below hb2
  have C2 := C1.below hb2
  clear c0 c1 c2 c3 c4 d0 d1 d2 d3 d4
  have B2' := B2
  have C2' := C2
  obtain ⟨c0, c1, c2, c3, c4⟩ := B2'
  obtain ⟨d0, d1, d2, d3, d4⟩ := C2'
  go_wp2_with fail
  refine (may_is k' n' hi' t' _ true HM2.out).mono ?_
  rintro e w3 ⟨rfl, hb3⟩
  have hw3 := below_tr hw2 hb3
  have hg3 := hg2.below hb3
  have B3 := B2.below hb3
  have C3 := C2.below hb3
  clear c0 c1 c2 c3 c4 d0 d1 d2 d3 d4
  have B3' := B3
  have C3' := C3
  obtain ⟨c0, c1, c2, c3, c4⟩ := B3'
  obtain ⟨d0, d1, d2, d3, d4⟩ := C3'
  go_wp2_with fail
  refine wp_region_text (fun w' => Below w3.heap.size w3 w') (by kernel_rfl) (by kernel_rfl) (by kernel_rfl) (fun _ d _ _ _ h => by cases d <;> exact h) (Below.refl _ _).drew ?_
  refine seqS_value ?_ (by rfl) (fun w' hw' => ?_) ?_
  rotate_left
  · obtain ⟨d0, d1, d2, d3, d4⟩ := B3.below hw'
    go_simp
    first | with_reducible rfl | rw [if_neg (by omega)]
  simp only [Act.put, List.setIfInBounds_toArray, List.set_cons_zero, List.set_cons_succ]
  refine seqS_call 15 #[.agg #[.int .u8 k, .int .i64 n, .int .i64 hi, .string t]] (.string ⟨(textL k n hi t.data.toList).toArray⟩) (by rfl) (fun w' hw' => ?_) (fun w' hw' => (text_any k n hi b1.1 b1.2 b2.1 b2.2 t w' (hg3.below hw').toGoodT).mono fun _ _ hq => ⟨hq.1, below_tr hw' hq.2⟩) ?_
  · go_simp
  simp only [Act.put, List.setIfInBounds_toArray, List.set_cons_zero, List.set_cons_succ]
  refine seqS_value ?_ (by rfl) (fun w' hw' => ?_) ?_
  rotate_left
  · obtain ⟨d0, d1, d2, d3, d4⟩ := C3.below hw'
    go_simp
    first | with_reducible rfl | rw [if_neg (by omega)]
  simp only [Act.put, List.setIfInBounds_toArray, List.set_cons_zero, List.set_cons_succ]
  refine seqS_call 15 #[.agg #[.int .u8 k', .int .i64 n', .int .i64 hi', .string t']] (.string ⟨(textL k' n' hi' t'.data.toList).toArray⟩) (by rfl) (fun w' hw' => ?_) (fun w' hw' => (text_any k' n' hi' b1'.1 b1'.2 b2'.1 b2'.2 t' w' (hg3.below hw').toGoodT).mono fun _ _ hq => ⟨hq.1, below_tr hw' hq.2⟩) ?_
  · go_simp
  simp only [Act.put, List.setIfInBounds_toArray, List.set_cons_zero, List.set_cons_succ]
  refine seqS_value (.bool true) (by rfl) (fun w' hw' => ?_) ?_
  · go_simp
    simpa using HQ.out
  simp only [Act.put, List.setIfInBounds_toArray, List.set_cons_zero, List.set_cons_succ]
  refine seqS_value ?_ (by rfl) (fun w' hw' => ?_) ?_
  rotate_left
  · obtain ⟨d0, d1, d2, d3, d4⟩ := B3.below hw'
    go_simp
    first | with_reducible rfl | rw [if_neg (by omega)]
  simp only [Act.put, List.setIfInBounds_toArray, List.set_cons_zero, List.set_cons_succ]
  refine seqS_value ?_ (by rfl) (fun w' hw' => ?_) ?_
  rotate_left
  · obtain ⟨d0, d1, d2, d3, d4⟩ := C3.below hw'
    go_simp
    first | with_reducible rfl | rw [if_neg (by omega)]
  simp only [Act.put, List.setIfInBounds_toArray, List.set_cons_zero, List.set_cons_succ]
  refine seqS_value (.bool true) (by rfl) (fun w' hw' => ?_) ?_
  · go_simp
    rw [if_pos HE.out.1, if_pos HE.out.2.1, if_pos HE.out.2.2.1, if_pos HE.out.2.2.2]
  simp only [Act.put, List.setIfInBounds_toArray, List.set_cons_zero, List.set_cons_succ]
  refine seqS_value ?_ (by rfl) (fun w' hw' => ?_) ?_
  rotate_left
  · go_simp
    first | with_reducible rfl | rw [if_neg (by omega)]
  simp only [Act.put, List.setIfInBounds_toArray, List.set_cons_zero, List.set_cons_succ]
  refine seqS_value ?_ (by rfl) (fun w' hw' => ?_) ?_
  rotate_left
  · go_simp
    first | with_reducible rfl | rw [if_neg (by omega)]
  simp only [Act.put, List.setIfInBounds_toArray, List.set_cons_zero, List.set_cons_succ]
  refine seqS_nil fun w4 hw4 => ?_
  go_wp2_with fail
  go_ret
  exact ⟨rfl, below_tr hw3 hw4⟩

set_option maxHeartbeats 1000000 in
theorem apart_ne (k n hi : Int) (t : ByteArray) (k' n' hi' : Int) (t' : ByteArray) (b1 : -9223372036854775808 ≤ n ∧ n ≤ 9223372036854775807) (b2 : -9223372036854775808 ≤ hi ∧ hi ≤ 9223372036854775807) (b1' : -9223372036854775808 ≤ n' ∧ n' ≤ 9223372036854775807) (b2' : -9223372036854775808 ≤ hi' ∧ hi' ≤ 9223372036854775807)
    (hz : t.size ≤ 140737488351232) (hz' : t'.size ≤ 140737488351232) (hl : t.size + t'.size ≤ 10000) (hm1 : mayB k n hi t.data.toList = true) (hm2 : mayB k' n' hi' t'.data.toList = true) (he : ¬ (k = k' ∧ n = n' ∧ hi = hi' ∧ t.toList = t'.toList)) (w : World) (hg : Good w) :
    Calls Tryd.prog 10 #[.agg #[.int .u8 k, .int .i64 n, .int .i64 hi, .string t], .agg #[.int .u8 k', .int .i64 n', .int .i64 hi', .string t']] w fun e w' => e = .returned (.bool true) ∧ Below w.heap.size w w' := by
  obtain ⟨W, hW, B0, C0, hb0⟩ := two_boxes w k n hi t k' n' hi' t' 26
  have HW := Lib.hid hW
  have hg0 := hg.below hb0
  obtain ⟨g, hgg⟩ : ∃ g, w.heap.size = g := ⟨_, rfl⟩
  rw [hgg] at B0 C0
  have hq : (textL k n hi t.data.toList == textL k' n' hi' t'.data.toList) = false := by
    simp only [beq_eq_false_iff_ne, ne_eq]
    intro e
    obtain ⟨h1, h2, h3, h4⟩ := textL_inj b1 b2 b1' b2' hm1 hm2 e
    exact he ⟨h1, h2, h3, by rw [ByteArray.toList_eq, ByteArray.toList_eq]; exact h4⟩
  have HE := Lib.hid he
  have HQ := Lib.hid hq
  clear he hq
  have HM1 := Lib.hid hm1
  clear hm1
  have HM2 := Lib.hid hm2
  clear hm2
  go_enter Tryd.func10, Tryd.ntmps10
  go_wp2_with fail
  rw [← hW]
  have HG := Lib.hid hgg
  clear hW hgg
  refine (works_true W hg0).mono ?_
  rintro e w1 ⟨rfl, hb1⟩
  have hw1 := below_tr hb0 hb1
  have hg1 := hg0.below hb1
  have B1 := B0.below hb1
  have C1 := C0.below hb1
  have B1' := B1
  have C1' := C1
  obtain ⟨c0, c1, c2, c3, c4⟩ := B1'
  obtain ⟨d0, d1, d2, d3, d4⟩ := C1'
  go_wp2_with fail
  refine (may_is k n hi t _ true HM1.out).mono ?_
  rintro e w2 ⟨rfl, hb2⟩
  have hw2 := below_tr hw1 hb2
  have hg2 := hg1.below hb2
  have B2 := B1.below hb2
  have C2 := C1.below hb2
  clear c0 c1 c2 c3 c4 d0 d1 d2 d3 d4
  have B2' := B2
  have C2' := C2
  obtain ⟨c0, c1, c2, c3, c4⟩ := B2'
  obtain ⟨d0, d1, d2, d3, d4⟩ := C2'
  go_wp2_with fail
  refine (may_is k' n' hi' t' _ true HM2.out).mono ?_
  rintro e w3 ⟨rfl, hb3⟩
  have hw3 := below_tr hw2 hb3
  have hg3 := hg2.below hb3
  have B3 := B2.below hb3
  have C3 := C2.below hb3
  clear c0 c1 c2 c3 c4 d0 d1 d2 d3 d4
  have B3' := B3
  have C3' := C3
  obtain ⟨c0, c1, c2, c3, c4⟩ := B3'
  obtain ⟨d0, d1, d2, d3, d4⟩ := C3'
  go_wp2_with fail
  refine wp_region_text (fun w' => Below w3.heap.size w3 w') (by kernel_rfl) (by kernel_rfl) (by kernel_rfl) (fun _ d _ _ _ h => by cases d <;> exact h) (Below.refl _ _).drew ?_
  refine seqS_value ?_ (by rfl) (fun w' hw' => ?_) ?_
  rotate_left
  · obtain ⟨d0, d1, d2, d3, d4⟩ := B3.below hw'
    go_simp
    first | with_reducible rfl | rw [if_neg (by omega)]
  simp only [Act.put, List.setIfInBounds_toArray, List.set_cons_zero, List.set_cons_succ]
  refine seqS_call 15 #[.agg #[.int .u8 k, .int .i64 n, .int .i64 hi, .string t]] (.string ⟨(textL k n hi t.data.toList).toArray⟩) (by rfl) (fun w' hw' => ?_) (fun w' hw' => (text_any k n hi b1.1 b1.2 b2.1 b2.2 t w' (hg3.below hw').toGoodT).mono fun _ _ hq => ⟨hq.1, below_tr hw' hq.2⟩) ?_
  · go_simp
  simp only [Act.put, List.setIfInBounds_toArray, List.set_cons_zero, List.set_cons_succ]
  refine seqS_value ?_ (by rfl) (fun w' hw' => ?_) ?_
  rotate_left
  · obtain ⟨d0, d1, d2, d3, d4⟩ := C3.below hw'
    go_simp
    first | with_reducible rfl | rw [if_neg (by omega)]
  simp only [Act.put, List.setIfInBounds_toArray, List.set_cons_zero, List.set_cons_succ]
  refine seqS_call 15 #[.agg #[.int .u8 k', .int .i64 n', .int .i64 hi', .string t']] (.string ⟨(textL k' n' hi' t'.data.toList).toArray⟩) (by rfl) (fun w' hw' => ?_) (fun w' hw' => (text_any k' n' hi' b1'.1 b1'.2 b2'.1 b2'.2 t' w' (hg3.below hw').toGoodT).mono fun _ _ hq => ⟨hq.1, below_tr hw' hq.2⟩) ?_
  · go_simp
  simp only [Act.put, List.setIfInBounds_toArray, List.set_cons_zero, List.set_cons_succ]
  refine seqS_value (.bool false) (by rfl) (fun w' hw' => ?_) ?_
  · go_simp
    simpa using HQ.out
  simp only [Act.put, List.setIfInBounds_toArray, List.set_cons_zero, List.set_cons_succ]
  refine seqS_value ?_ (by rfl) (fun w' hw' => ?_) ?_
  rotate_left
  · obtain ⟨d0, d1, d2, d3, d4⟩ := B3.below hw'
    go_simp
    first | with_reducible rfl | rw [if_neg (by omega)]
  simp only [Act.put, List.setIfInBounds_toArray, List.set_cons_zero, List.set_cons_succ]
  refine seqS_value ?_ (by rfl) (fun w' hw' => ?_) ?_
  rotate_left
  · obtain ⟨d0, d1, d2, d3, d4⟩ := C3.below hw'
    go_simp
    first | with_reducible rfl | rw [if_neg (by omega)]
  simp only [Act.put, List.setIfInBounds_toArray, List.set_cons_zero, List.set_cons_succ]
  refine seqS_value (.bool false) (by rfl) (fun w' hw' => ?_) ?_
  · go_simp
    exact fun x1 x2 x3 x4 => HE.out ⟨x1, x2, x3, x4⟩
  simp only [Act.put, List.setIfInBounds_toArray, List.set_cons_zero, List.set_cons_succ]
  refine seqS_value ?_ (by rfl) (fun w' hw' => ?_) ?_
  rotate_left
  · go_simp
    first | with_reducible rfl | rw [if_neg (by omega)]
  simp only [Act.put, List.setIfInBounds_toArray, List.set_cons_zero, List.set_cons_succ]
  refine seqS_value ?_ (by rfl) (fun w' hw' => ?_) ?_
  rotate_left
  · go_simp
    first | with_reducible rfl | rw [if_neg (by omega)]
  simp only [Act.put, List.setIfInBounds_toArray, List.set_cons_zero, List.set_cons_succ]
  refine seqS_nil fun w4 hw4 => ?_
  go_wp2_with fail
  go_ret
  exact ⟨rfl, below_tr hw3 hw4⟩

theorem apart_any (k n hi : Int) (t : ByteArray) (k' n' hi' : Int) (t' : ByteArray) (b1 : -9223372036854775808 ≤ n ∧ n ≤ 9223372036854775807) (b2 : -9223372036854775808 ≤ hi ∧ hi ≤ 9223372036854775807) (b1' : -9223372036854775808 ≤ n' ∧ n' ≤ 9223372036854775807) (b2' : -9223372036854775808 ≤ hi' ∧ hi' ≤ 9223372036854775807)
    (hz : t.size ≤ 140737488351232) (hz' : t'.size ≤ 140737488351232) (w : World) (hg : Good w) :
    Calls Tryd.prog 10 #[.agg #[.int .u8 k, .int .i64 n, .int .i64 hi, .string t], .agg #[.int .u8 k', .int .i64 n', .int .i64 hi', .string t']] w fun e w' => e = .returned (.bool true) ∧ Below w.heap.size w w' := by
  by_cases hl : t.size + t'.size ≤ 10000
  · cases hm1 : mayB k n hi t.data.toList
    · exact apart_no1 k n hi t k' n' hi' t' hz hz' hl hm1 w hg
    · cases hm2 : mayB k' n' hi' t'.data.toList
      · exact apart_no2 k n hi t k' n' hi' t' hz hz' hl hm1 hm2 w hg
      · by_cases he : k = k' ∧ n = n' ∧ hi = hi' ∧ t.toList = t'.toList
        · exact apart_eq k n hi t k' n' hi' t' b1 b2 b1' b2' hz hz' hl hm1 hm2 he w hg
        · exact apart_ne k n hi t k' n' hi' t' b1 b2 b1' b2' hz hz' hl hm1 hm2 he w hg
  · exact apart_big k n hi t k' n' hi' t' hz hz' (by omega) w hg

end Go.Proofs.YtpnnkgjgkcgagaaDoor
