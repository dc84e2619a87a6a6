/-
  The law ValueOrder as a walk over this translation: it answers true, and of what was there nothing has turned.
-/
import Derived.Test.YtpnnkgjgkcgagaaDoorVWorks
import Derived.Test.YtpnnkgjgkcgagaaDoorVOrd
namespace Go.Proofs.YtpnnkgjgkcgagaaDoor
open Go.RowKit

/-- Three values that a call boxes first. -/
theorem three_boxes (w : World) (k0 n0 u0 : Int) (t0 : ByteArray) (k1 n1 u1 : Int) (t1 : ByteArray) (k2 n2 u2 : Int) (t2 : ByteArray) (T : TypeId) : ∃ W : World, W = ((w.alloc (.cells #[.int .u8 k0, .int .i64 n0, .int .i64 u0, .string t0] T)).alloc (.cells #[.int .u8 k1, .int .i64 n1, .int .i64 u1, .string t1] T)).alloc (.cells #[.int .u8 k2, .int .i64 n2, .int .i64 u2, .string t2] T) ∧
    Boxed W w.heap.size k0 n0 u0 t0 ∧ Boxed W (w.heap.size + 1) k1 n1 u1 t1 ∧ Boxed W (w.heap.size + 2) k2 n2 u2 t2 ∧ Below w.heap.size w W := by
  refine ⟨_, rfl, ?_, ?_, ?_, (((Below.refl _ _).alloc (Nat.le_refl _) _).alloc (by simp) _).alloc (by simp; omega) _⟩
  · exact ((Boxed.new w k0 n0 u0 t0 T).below (Below.allocs _ _)).below (Below.allocs _ _)
  · have := Boxed.new (w.alloc (.cells #[.int .u8 k0, .int .i64 n0, .int .i64 u0, .string t0] T)) k1 n1 u1 t1 T
    rw [show (w.alloc (.cells #[.int .u8 k0, .int .i64 n0, .int .i64 u0, .string t0] T)).heap.size = w.heap.size + 1 by simp] at this
    exact this.below (Below.allocs _ _)
  · have := Boxed.new ((w.alloc (.cells #[.int .u8 k0, .int .i64 n0, .int .i64 u0, .string t0] T)).alloc (.cells #[.int .u8 k1, .int .i64 n1, .int .i64 u1, .string t1] T)) k2 n2 u2 t2 T
    rw [show ((w.alloc (.cells #[.int .u8 k0, .int .i64 n0, .int .i64 u0, .string t0] T)).alloc (.cells #[.int .u8 k1, .int .i64 n1, .int .i64 u1, .string t1] T)).heap.size = w.heap.size + 2 by simp] at this
    exact this

theorem compare_is (k n hi : Int) (t : ByteArray) (k' n' hi' : Int) (t' : ByteArray) (w : World) (v : Int) (h : cmpV k n hi t k' n' hi' t' = v) :
    Calls Tryd.prog 19 #[.agg #[.int .u8 k, .int .i64 n, .int .i64 hi, .string t], .agg #[.int .u8 k', .int .i64 n', .int .i64 hi', .string t']] w fun e w' => e = .returned (.int .i64 v) ∧ Below w.heap.size w w' :=
  (compare_any k n hi t k' n' hi' t' w).mono fun _ _ hq => by rw [h] at hq; exact hq

set_option maxHeartbeats 4000000 in
theorem order_big (k0 n0 u0 : Int) (t0 : ByteArray) (k1 n1 u1 : Int) (t1 : ByteArray) (k2 n2 u2 : Int) (t2 : ByteArray)
    (z0 : t0.size ≤ 140737488351232) (z1 : t1.size ≤ 140737488351232) (z2 : t2.size ≤ 140737488351232) (hl : 20000 < t0.size + t1.size + t2.size) (w : World) (hg : Good w) :
    Calls Tryd.prog 7 #[.agg #[.int .u8 k0, .int .i64 n0, .int .i64 u0, .string t0], .agg #[.int .u8 k1, .int .i64 n1, .int .i64 u1, .string t1], .agg #[.int .u8 k2, .int .i64 n2, .int .i64 u2, .string t2]] w fun e w' => e = .returned (.bool true) ∧ Below w.heap.size w w' := by
  obtain ⟨W, hW, A0, B0, C0, hb0⟩ := three_boxes w k0 n0 u0 t0 k1 n1 u1 t1 k2 n2 u2 t2 26
  have hg0 := hg.below hb0
  obtain ⟨g, hgg⟩ : ∃ g, w.heap.size = g := ⟨_, rfl⟩
  rw [hgg] at A0 B0 C0
  go_enter Tryd.func7, Tryd.ntmps7
  go_wp2_with fail
  rw [← hW]
  clear hW hgg
  refine (works_true W hg0).mono ?_
  rintro e w1 ⟨rfl, hb1⟩
  have hw1 := below_tr hb0 hb1
  have hg1 := hg0.below hb1
  have A1 := A0.below hb1
  have B1 := B0.below hb1
  have C1 := C0.below hb1
  have A1' := A1
  have B1' := B1
  have C1' := C1
  obtain ⟨a0, a1, a2, a3, a4⟩ := A1'
  obtain ⟨b0, b1, b2, b3, b4⟩ := B1'
  obtain ⟨c0, c1, c2, c3, c4⟩ := C1'
  go_wp2_with fail
  refine (works_true w1 hg1).mono ?_
  rintro e wz ⟨rfl, hbz⟩
  have hwz := below_tr hw1 hbz
  go_wp2_with fail
  go_ret
  exact ⟨rfl, hwz⟩

set_option maxHeartbeats 4000000 in
theorem order_lt (k0 n0 u0 : Int) (t0 : ByteArray) (k1 n1 u1 : Int) (t1 : ByteArray) (k2 n2 u2 : Int) (t2 : ByteArray)
    (z0 : t0.size ≤ 140737488351232) (z1 : t1.size ≤ 140737488351232) (z2 : t2.size ≤ 140737488351232) (hl : t0.size + t1.size + t2.size ≤ 20000) (y z : Int) (hx : cmpV k0 n0 u0 t0 k1 n1 u1 t1 = (-1)) (hy : cmpV k1 n1 u1 t1 k2 n2 u2 t2 = y) (hz : cmpV k0 n0 u0 t0 k2 n2 u2 t2 = z) (ht : Tri (-1) y z) (w : World) (hg : Good w) :
    Calls Tryd.prog 7 #[.agg #[.int .u8 k0, .int .i64 n0, .int .i64 u0, .string t0], .agg #[.int .u8 k1, .int .i64 n1, .int .i64 u1, .string t1], .agg #[.int .u8 k2, .int .i64 n2, .int .i64 u2, .string t2]] w fun e w' => e = .returned (.bool true) ∧ Below w.heap.size w w' := by
  have hneg := cmpV_neg k0 n0 u0 t0 k1 n1 u1 t1
  have hzero := cmpV_zero k0 n0 u0 t0 k1 n1 u1 t1
  have hself := (cmpV_zero k0 n0 u0 t0 k0 n0 u0 t0).2 ⟨rfl, rfl, rfl, rfl⟩
  rw [hx] at hneg hzero
  have HX := Lib.hid hx
  have HY := Lib.hid hy
  have HZ := Lib.hid hz
  have HT := Lib.hid ht
  have HN := Lib.hid (show cmpV k1 n1 u1 t1 k0 n0 u0 t0 = 1 from hneg)
  have HS := Lib.hid hself
  have HO := Lib.hid hzero
  clear hx hy hz ht hneg hself hzero
  obtain ⟨W, hW, A0, B0, C0, hb0⟩ := three_boxes w k0 n0 u0 t0 k1 n1 u1 t1 k2 n2 u2 t2 26
  have hg0 := hg.below hb0
  obtain ⟨g, hgg⟩ : ∃ g, w.heap.size = g := ⟨_, rfl⟩
  rw [hgg] at A0 B0 C0
  go_enter Tryd.func7, Tryd.ntmps7
  go_wp2_with fail
  rw [← hW]
  clear hW hgg
  refine (works_true W hg0).mono ?_
  rintro e w1 ⟨rfl, hb1⟩
  have hw1 := below_tr hb0 hb1
  have hg1 := hg0.below hb1
  have A1 := A0.below hb1
  have B1 := B0.below hb1
  have C1 := C0.below hb1
  have A1' := A1
  have B1' := B1
  have C1' := C1
  obtain ⟨a0, a1, a2, a3, a4⟩ := A1'
  obtain ⟨b0, b1, b2, b3, b4⟩ := B1'
  obtain ⟨c0, c1, c2, c3, c4⟩ := C1'
  go_wp2_with fail
  refine (compare_is k0 n0 u0 t0 k1 n1 u1 t1 _ (-1) HX.out).mono ?_
  rintro e w2 ⟨rfl, hb2⟩
  have hw2 := below_tr hw1 hb2
  have A2 := A1.below hb2
  have B2 := B1.below hb2
  have C2 := C1.below hb2
  clear a0 a1 a2 a3 a4 b0 b1 b2 b3 b4 c0 c1 c2 c3 c4
  have A2' := A2
  have B2' := B2
  have C2' := C2
  obtain ⟨a0, a1, a2, a3, a4⟩ := A2'
  obtain ⟨b0, b1, b2, b3, b4⟩ := B2'
  obtain ⟨c0, c1, c2, c3, c4⟩ := C2'
  go_wp2_with fail
  refine (compare_is k1 n1 u1 t1 k2 n2 u2 t2 _ y HY.out).mono ?_
  rintro e w3 ⟨rfl, hb3⟩
  have hw3 := below_tr hw2 hb3
  have A3 := A2.below hb3
  have B3 := B2.below hb3
  have C3 := C2.below hb3
  clear a0 a1 a2 a3 a4 b0 b1 b2 b3 b4 c0 c1 c2 c3 c4
  have A3' := A3
  have B3' := B3
  have C3' := C3
  obtain ⟨a0, a1, a2, a3, a4⟩ := A3'
  obtain ⟨b0, b1, b2, b3, b4⟩ := B3'
  obtain ⟨c0, c1, c2, c3, c4⟩ := C3'
  go_wp2_with fail
  refine (compare_is k0 n0 u0 t0 k2 n2 u2 t2 _ z HZ.out).mono ?_
  rintro e w4 ⟨rfl, hb4⟩
  have hw4 := below_tr hw3 hb4
  have A4 := A3.below hb4
  have B4 := B3.below hb4
  have C4 := C3.below hb4
  clear a0 a1 a2 a3 a4 b0 b1 b2 b3 b4 c0 c1 c2 c3 c4
  have A4' := A4
  have B4' := B4
  have C4' := C4
  obtain ⟨a0, a1, a2, a3, a4⟩ := A4'
  obtain ⟨b0, b1, b2, b3, b4⟩ := B4'
  obtain ⟨c0, c1, c2, c3, c4⟩ := C4'
  go_wp2_with fail
  refine (compare_is k1 n1 u1 t1 k0 n0 u0 t0 _ 1 HN.out).mono ?_
  rintro e w5 ⟨rfl, hb5⟩
  have hw5 := below_tr hw4 hb5
  have A5 := A4.below hb5
  have B5 := B4.below hb5
  have C5 := C4.below hb5
  clear a0 a1 a2 a3 a4 b0 b1 b2 b3 b4 c0 c1 c2 c3 c4
  have A5' := A5
  have B5' := B5
  have C5' := C5
  obtain ⟨a0, a1, a2, a3, a4⟩ := A5'
  obtain ⟨b0, b1, b2, b3, b4⟩ := B5'
  obtain ⟨c0, c1, c2, c3, c4⟩ := C5'
  go_wp2_with fail
  all_goals first
    | (exact absurd (HO.out.2 ⟨by assumption, by assumption, by assumption, by assumption⟩) (by decide))
    | skip
  all_goals
    refine (compare_is _ _ _ _ _ _ _ _ _ 0 ((cmpV_zero _ _ _ _ _ _ _ _).2 ⟨rfl, rfl, rfl, rfl⟩)).mono ?_
    rintro e w6 ⟨rfl, hb6⟩
    have hw6 := below_tr hw5 hb6
    obtain ⟨_, q1, q2, q3, q4, q5⟩ := HT.out
    clear HT HY HZ HX HN HS HO A0 B0 C0 A1 B1 C1 A2 B2 C2 A3 B3 C3 A4 B4 C4 A5 B5 C5 hg0 hg1 hb0 hb1 hb2 hb3 hb4 hb5 hb6 hw1 hw2 hw3 hw4 hw5
    rcases q1 with rfl | rfl | rfl <;> rcases q2 with rfl | rfl | rfl
    all_goals first
      | (exfalso; omega)
      | (clear q3 q4 q5; go_wp2_with fail; go_ret; exact ⟨rfl, hw6⟩)

set_option maxHeartbeats 4000000 in
theorem order_gt (k0 n0 u0 : Int) (t0 : ByteArray) (k1 n1 u1 : Int) (t1 : ByteArray) (k2 n2 u2 : Int) (t2 : ByteArray)
    (z0 : t0.size ≤ 140737488351232) (z1 : t1.size ≤ 140737488351232) (z2 : t2.size ≤ 140737488351232) (hl : t0.size + t1.size + t2.size ≤ 20000) (y z : Int) (hx : cmpV k0 n0 u0 t0 k1 n1 u1 t1 = 1) (hy : cmpV k1 n1 u1 t1 k2 n2 u2 t2 = y) (hz : cmpV k0 n0 u0 t0 k2 n2 u2 t2 = z) (ht : Tri 1 y z) (w : World) (hg : Good w) :
    Calls Tryd.prog 7 #[.agg #[.int .u8 k0, .int .i64 n0, .int .i64 u0, .string t0], .agg #[.int .u8 k1, .int .i64 n1, .int .i64 u1, .string t1], .agg #[.int .u8 k2, .int .i64 n2, .int .i64 u2, .string t2]] w fun e w' => e = .returned (.bool true) ∧ Below w.heap.size w w' := by
  have hneg := cmpV_neg k0 n0 u0 t0 k1 n1 u1 t1
  have hzero := cmpV_zero k0 n0 u0 t0 k1 n1 u1 t1
  have hself := (cmpV_zero k0 n0 u0 t0 k0 n0 u0 t0).2 ⟨rfl, rfl, rfl, rfl⟩
  rw [hx] at hneg hzero
  have HX := Lib.hid hx
  have HY := Lib.hid hy
  have HZ := Lib.hid hz
  have HT := Lib.hid ht
  have HN := Lib.hid (show cmpV k1 n1 u1 t1 k0 n0 u0 t0 = (-1) from hneg)
  have HS := Lib.hid hself
  have HO := Lib.hid hzero
  clear hx hy hz ht hneg hself hzero
  obtain ⟨W, hW, A0, B0, C0, hb0⟩ := three_boxes w k0 n0 u0 t0 k1 n1 u1 t1 k2 n2 u2 t2 26
  have hg0 := hg.below hb0
  obtain ⟨g, hgg⟩ : ∃ g, w.heap.size = g := ⟨_, rfl⟩
  rw [hgg] at A0 B0 C0
  go_enter Tryd.func7, Tryd.ntmps7
  go_wp2_with fail
  rw [← hW]
  clear hW hgg
  refine (works_true W hg0).mono ?_
  rintro e w1 ⟨rfl, hb1⟩
  have hw1 := below_tr hb0 hb1
  have hg1 := hg0.below hb1
  have A1 := A0.below hb1
  have B1 := B0.below hb1
  have C1 := C0.below hb1
  have A1' := A1
  have B1' := B1
  have C1' := C1
  obtain ⟨a0, a1, a2, a3, a4⟩ := A1'
  obtain ⟨b0, b1, b2, b3, b4⟩ := B1'
  obtain ⟨c0, c1, c2, c3, c4⟩ := C1'
  go_wp2_with fail
  refine (compare_is k0 n0 u0 t0 k1 n1 u1 t1 _ 1 HX.out).mono ?_
  rintro e w2 ⟨rfl, hb2⟩
  have hw2 := below_tr hw1 hb2
  have A2 := A1.below hb2
  have B2 := B1.below hb2
  have C2 := C1.below hb2
  clear a0 a1 a2 a3 a4 b0 b1 b2 b3 b4 c0 c1 c2 c3 c4
  have A2' := A2
  have B2' := B2
  have C2' := C2
  obtain ⟨a0, a1, a2, a3, a4⟩ := A2'
  obtain ⟨b0, b1, b2, b3, b4⟩ := B2'
  obtain ⟨c0, c1, c2, c3, c4⟩ := C2'
  go_wp2_with fail
  refine (compare_is k1 n1 u1 t1 k2 n2 u2 t2 _ y HY.out).mono ?_
  rintro e w3 ⟨rfl, hb3⟩
  have hw3 := below_tr hw2 hb3
  have A3 := A2.below hb3
  have B3 := B2.below hb3
  have C3 := C2.below hb3
  clear a0 a1 a2 a3 a4 b0 b1 b2 b3 b4 c0 c1 c2 c3 c4
  have A3' := A3
  have B3' := B3
  have C3' := C3
  obtain ⟨a0, a1, a2, a3, a4⟩ := A3'
  obtain ⟨b0, b1, b2, b3, b4⟩ := B3'
  obtain ⟨c0, c1, c2, c3, c4⟩ := C3'
  go_wp2_with fail
  refine (compare_is k0 n0 u0 t0 k2 n2 u2 t2 _ z HZ.out).mono ?_
  rintro e w4 ⟨rfl, hb4⟩
  have hw4 := below_tr hw3 hb4
  have A4 := A3.below hb4
  have B4 := B3.below hb4
  have C4 := C3.below hb4
  clear a0 a1 a2 a3 a4 b0 b1 b2 b3 b4 c0 c1 c2 c3 c4
  have A4' := A4
  have B4' := B4
  have C4' := C4
  obtain ⟨a0, a1, a2, a3, a4⟩ := A4'
  obtain ⟨b0, b1, b2, b3, b4⟩ := B4'
  obtain ⟨c0, c1, c2, c3, c4⟩ := C4'
  go_wp2_with fail
  refine (compare_is k1 n1 u1 t1 k0 n0 u0 t0 _ (-1) HN.out).mono ?_
  rintro e w5 ⟨rfl, hb5⟩
  have hw5 := below_tr hw4 hb5
  have A5 := A4.below hb5
  have B5 := B4.below hb5
  have C5 := C4.below hb5
  clear a0 a1 a2 a3 a4 b0 b1 b2 b3 b4 c0 c1 c2 c3 c4
  have A5' := A5
  have B5' := B5
  have C5' := C5
  obtain ⟨a0, a1, a2, a3, a4⟩ := A5'
  obtain ⟨b0, b1, b2, b3, b4⟩ := B5'
  obtain ⟨c0, c1, c2, c3, c4⟩ := C5'
  go_wp2_with fail
  all_goals first
    | (exact absurd (HO.out.2 ⟨by assumption, by assumption, by assumption, by assumption⟩) (by decide))
    | skip
  all_goals
    refine (compare_is _ _ _ _ _ _ _ _ _ 0 ((cmpV_zero _ _ _ _ _ _ _ _).2 ⟨rfl, rfl, rfl, rfl⟩)).mono ?_
    rintro e w6 ⟨rfl, hb6⟩
    have hw6 := below_tr hw5 hb6
    obtain ⟨_, q1, q2, q3, q4, q5⟩ := HT.out
    clear HT HY HZ HX HN HS HO A0 B0 C0 A1 B1 C1 A2 B2 C2 A3 B3 C3 A4 B4 C4 A5 B5 C5 hg0 hg1 hb0 hb1 hb2 hb3 hb4 hb5 hb6 hw1 hw2 hw3 hw4 hw5
    rcases q1 with rfl | rfl | rfl <;> rcases q2 with rfl | rfl | rfl
    all_goals first
      | (exfalso; omega)
      | (clear q3 q4 q5; go_wp2_with fail; go_ret; exact ⟨rfl, hw6⟩)

set_option maxHeartbeats 4000000 in
theorem order_eq (k0 n0 u0 : Int) (t0 : ByteArray) (k1 n1 u1 : Int) (t1 : ByteArray) (k2 n2 u2 : Int) (t2 : ByteArray)
    (z0 : t0.size ≤ 140737488351232) (z1 : t1.size ≤ 140737488351232) (z2 : t2.size ≤ 140737488351232) (hl : t0.size + t1.size + t2.size ≤ 20000) (y z : Int) (hx : cmpV k0 n0 u0 t0 k1 n1 u1 t1 = 0) (hy : cmpV k1 n1 u1 t1 k2 n2 u2 t2 = y) (hz : cmpV k0 n0 u0 t0 k2 n2 u2 t2 = z) (ht : Tri 0 y z) (w : World) (hg : Good w) :
    Calls Tryd.prog 7 #[.agg #[.int .u8 k0, .int .i64 n0, .int .i64 u0, .string t0], .agg #[.int .u8 k1, .int .i64 n1, .int .i64 u1, .string t1], .agg #[.int .u8 k2, .int .i64 n2, .int .i64 u2, .string t2]] w fun e w' => e = .returned (.bool true) ∧ Below w.heap.size w w' := by
  obtain ⟨rfl, rfl, rfl, h4⟩ := (cmpV_zero k0 n0 u0 t0 k1 n1 u1 t1).1 hx
  have hneg := cmpV_neg k0 n0 u0 t0 k0 n0 u0 t1
  have hzero := cmpV_zero k0 n0 u0 t0 k0 n0 u0 t1
  have hself := (cmpV_zero k0 n0 u0 t0 k0 n0 u0 t0).2 ⟨rfl, rfl, rfl, rfl⟩
  rw [hx] at hneg hzero
  have HX := Lib.hid hx
  have HY := Lib.hid hy
  have HZ := Lib.hid hz
  have HT := Lib.hid ht
  have HN := Lib.hid (show cmpV k0 n0 u0 t1 k0 n0 u0 t0 = 0 from hneg)
  have HS := Lib.hid hself
  have HO := Lib.hid hzero
  clear hx hy hz ht hneg hself hzero
  obtain ⟨W, hW, A0, B0, C0, hb0⟩ := three_boxes w k0 n0 u0 t0 k0 n0 u0 t1 k2 n2 u2 t2 26
  have hg0 := hg.below hb0
  obtain ⟨g, hgg⟩ : ∃ g, w.heap.size = g := ⟨_, rfl⟩
  rw [hgg] at A0 B0 C0
  go_enter Tryd.func7, Tryd.ntmps7
  go_wp2_with fail
  rw [← hW]
  clear hW hgg
  refine (works_true W hg0).mono ?_
  rintro e w1 ⟨rfl, hb1⟩
  have hw1 := below_tr hb0 hb1
  have hg1 := hg0.below hb1
  have A1 := A0.below hb1
  have B1 := B0.below hb1
  have C1 := C0.below hb1
  have A1' := A1
  have B1' := B1
  have C1' := C1
  obtain ⟨a0, a1, a2, a3, a4⟩ := A1'
  obtain ⟨b0, b1, b2, b3, b4⟩ := B1'
  obtain ⟨c0, c1, c2, c3, c4⟩ := C1'
  go_wp2_with fail
  refine (compare_is k0 n0 u0 t0 k0 n0 u0 t1 _ 0 HX.out).mono ?_
  rintro e w2 ⟨rfl, hb2⟩
  have hw2 := below_tr hw1 hb2
  have A2 := A1.below hb2
  have B2 := B1.below hb2
  have C2 := C1.below hb2
  clear a0 a1 a2 a3 a4 b0 b1 b2 b3 b4 c0 c1 c2 c3 c4
  have A2' := A2
  have B2' := B2
  have C2' := C2
  obtain ⟨a0, a1, a2, a3, a4⟩ := A2'
  obtain ⟨b0, b1, b2, b3, b4⟩ := B2'
  obtain ⟨c0, c1, c2, c3, c4⟩ := C2'
  go_wp2_with fail
  refine (compare_is k0 n0 u0 t1 k2 n2 u2 t2 _ y HY.out).mono ?_
  rintro e w3 ⟨rfl, hb3⟩
  have hw3 := below_tr hw2 hb3
  have A3 := A2.below hb3
  have B3 := B2.below hb3
  have C3 := C2.below hb3
  clear a0 a1 a2 a3 a4 b0 b1 b2 b3 b4 c0 c1 c2 c3 c4
  have A3' := A3
  have B3' := B3
  have C3' := C3
  obtain ⟨a0, a1, a2, a3, a4⟩ := A3'
  obtain ⟨b0, b1, b2, b3, b4⟩ := B3'
  obtain ⟨c0, c1, c2, c3, c4⟩ := C3'
  go_wp2_with fail
  refine (compare_is k0 n0 u0 t0 k2 n2 u2 t2 _ z HZ.out).mono ?_
  rintro e w4 ⟨rfl, hb4⟩
  have hw4 := below_tr hw3 hb4
  have A4 := A3.below hb4
  have B4 := B3.below hb4
  have C4 := C3.below hb4
  clear a0 a1 a2 a3 a4 b0 b1 b2 b3 b4 c0 c1 c2 c3 c4
  have A4' := A4
  have B4' := B4
  have C4' := C4
  obtain ⟨a0, a1, a2, a3, a4⟩ := A4'
  obtain ⟨b0, b1, b2, b3, b4⟩ := B4'
  obtain ⟨c0, c1, c2, c3, c4⟩ := C4'
  go_wp2_with fail
  refine (compare_is k0 n0 u0 t1 k0 n0 u0 t0 _ 0 HN.out).mono ?_
  rintro e w5 ⟨rfl, hb5⟩
  have hw5 := below_tr hw4 hb5
  have A5 := A4.below hb5
  have B5 := B4.below hb5
  have C5 := C4.below hb5
  clear a0 a1 a2 a3 a4 b0 b1 b2 b3 b4 c0 c1 c2 c3 c4
  have A5' := A5
  have B5' := B5
  have C5' := C5
  obtain ⟨a0, a1, a2, a3, a4⟩ := A5'
  obtain ⟨b0, b1, b2, b3, b4⟩ := B5'
  obtain ⟨c0, c1, c2, c3, c4⟩ := C5'
  go_wp2_with fail
  all_goals
    refine (compare_is _ _ _ _ _ _ _ _ _ 0 ((cmpV_zero _ _ _ _ _ _ _ _).2 ⟨rfl, rfl, rfl, rfl⟩)).mono ?_
    rintro e w6 ⟨rfl, hb6⟩
    have hw6 := below_tr hw5 hb6
    obtain ⟨_, q1, q2, q3, q4, q5⟩ := HT.out
    clear HT HY HZ HX HN HS HO A0 B0 C0 A1 B1 C1 A2 B2 C2 A3 B3 C3 A4 B4 C4 A5 B5 C5 hg0 hg1 hb0 hb1 hb2 hb3 hb4 hb5 hb6 hw1 hw2 hw3 hw4 hw5
    rcases q1 with rfl | rfl | rfl <;> rcases q2 with rfl | rfl | rfl
    all_goals first
      | (exfalso; omega)
      | (clear q3 q4 q5; go_wp2_with fail; go_ret; exact ⟨rfl, hw6⟩)


theorem order_any (k0 n0 u0 : Int) (t0 : ByteArray) (k1 n1 u1 : Int) (t1 : ByteArray) (k2 n2 u2 : Int) (t2 : ByteArray)
    (z0 : t0.size ≤ 140737488351232) (z1 : t1.size ≤ 140737488351232) (z2 : t2.size ≤ 140737488351232) (w : World) (hg : Good w) :
    Calls Tryd.prog 7 #[.agg #[.int .u8 k0, .int .i64 n0, .int .i64 u0, .string t0], .agg #[.int .u8 k1, .int .i64 n1, .int .i64 u1, .string t1], .agg #[.int .u8 k2, .int .i64 n2, .int .i64 u2, .string t2]] w fun e w' => e = .returned (.bool true) ∧ Below w.heap.size w w' := by
  by_cases hl : t0.size + t1.size + t2.size ≤ 20000
  · have ht := tri_cmpV k0 n0 u0 t0 k1 n1 u1 t1 k2 n2 u2 t2
    rcases ht.1 with hx | hx | hx
    · rw [hx] at ht; exact order_lt k0 n0 u0 t0 k1 n1 u1 t1 k2 n2 u2 t2 z0 z1 z2 hl _ _ hx rfl rfl ht w hg
    · rw [hx] at ht; exact order_eq k0 n0 u0 t0 k1 n1 u1 t1 k2 n2 u2 t2 z0 z1 z2 hl _ _ hx rfl rfl ht w hg
    · rw [hx] at ht; exact order_gt k0 n0 u0 t0 k1 n1 u1 t1 k2 n2 u2 t2 z0 z1 z2 hl _ _ hx rfl rfl ht w hg
  · exact order_big k0 n0 u0 t0 k1 n1 u1 t1 k2 n2 u2 t2 z0 z1 z2 (by omega) w hg

end Go.Proofs.YtpnnkgjgkcgagaaDoor
