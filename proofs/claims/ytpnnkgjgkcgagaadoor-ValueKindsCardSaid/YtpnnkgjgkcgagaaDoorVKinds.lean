/-
  The law ValueKinds as a walk over this translation: it answers true, and of what was there nothing has turned.
-/
import Derived.Test.YtpnnkgjgkcgagaaDoorVWorks
import Derived.Test.YtpnnkgjgkcgagaaDoorVOrder
namespace Go.Proofs.YtpnnkgjgkcgagaaDoor
open Go.RowKit

/-- What the law's own literal tells of two bools. -/
def ordV (a b : Bool) : Int := if a = true then -1 else if b = true then 0 else 1

set_option maxHeartbeats 400000 in
theorem ord_any (a b : Bool) (w : World) :
    Calls Tryd.prog 24 #[.bool a, .bool b] w fun e w' => e = .returned (.int .i64 (ordV a b)) ∧ w = w' := by
  cases a
  · cases b
    · go_enter Tryd.func24, Tryd.ntmps24
      go_wp2_with fail
      go_ret
      exact ⟨rfl, rfl⟩
    · go_enter Tryd.func24, Tryd.ntmps24
      go_wp2_with fail
      go_ret
      exact ⟨rfl, rfl⟩
  · go_enter Tryd.func24, Tryd.ntmps24
    go_wp2_with fail
    go_ret
    exact ⟨rfl, rfl⟩

theorem ord_is (a b : Bool) (v : Int) (h : ordV a b = v) (w : World) :
    Calls Tryd.prog 24 #[.bool a, .bool b] w fun e w' => e = .returned (.int .i64 v) ∧ w = w' := by
  rw [← h]; exact ord_any a b w

theorem ord_int (n m : Int) : ordV (decide (n < m)) (n == m) = cmpI n m := by
  unfold ordV cmpI
  by_cases h : n < m
  · simp [h]
  · by_cases h2 : n = m
    · simp [h2]
    · have h3 : m < n := by omega
      simp [h, h2, h3]

theorem ord_str (s t : ByteArray) : ordV (Op.bytesLess s.toList t.toList) (s.toList == t.toList) = cmpS s t := by
  unfold ordV
  rcases cmpS_cases s t with ⟨e, h⟩ | ⟨e, h⟩ | ⟨e, h⟩
  · rw [e, h]; rfl
  · rw [e, bl_asymm _ _ h]
    have : (s.toList == t.toList) = false := by
      simp only [beq_eq_false_iff_ne, ne_eq]
      intro e2
      rw [e2, bl_irrefl] at h
      cases h
    rw [this]; rfl
  · rw [e, h, bl_irrefl]; simp

theorem k_int (n m : Int) : cmpV 1 n 0 ⟨#[]⟩ 1 m 0 ⟨#[]⟩ = cmpI n m := by
  unfold cmpV pick4
  rw [(cmpI_zero 1 1).2 rfl, (cmpI_zero 0 0).2 rfl, (cmpS_zero ⟨#[]⟩ ⟨#[]⟩).2 rfl]
  by_cases h : cmpI n m = 0 <;> simp [h]
theorem k_str (s t : ByteArray) : cmpV 3 0 0 s 3 0 0 t = cmpS s t := by
  unfold cmpV pick4
  rw [(cmpI_zero 3 3).2 rfl, (cmpI_zero 0 0).2 rfl]
  simp
theorem k_span (n m hi : Int) : cmpV 4 n m ⟨#[]⟩ 4 n hi ⟨#[]⟩ = cmpI m hi := by
  unfold cmpV pick4
  rw [(cmpI_zero 4 4).2 rfl, (cmpI_zero n n).2 rfl, (cmpS_zero ⟨#[]⟩ ⟨#[]⟩).2 rfl]
  by_cases h : cmpI m hi = 0 <;> simp [h]
theorem k_bool : cmpV 2 0 0 ⟨#[]⟩ 2 1 0 ⟨#[]⟩ = -1 := by decide +kernel
theorem k_up (k n hi : Int) (t : ByteArray) (h : 0 < k) : cmpV 0 0 0 ⟨#[]⟩ k n hi t = -1 := by
  have e : cmpI 0 k = -1 := by unfold cmpI; rw [if_pos h]
  unfold cmpV pick4
  rw [e]
  simp
theorem k_down (k n hi : Int) (t : ByteArray) (h : 0 < k) : cmpV k n hi t 0 0 0 ⟨#[]⟩ = 1 := by
  rw [cmpV_neg 0 0 0 ⟨#[]⟩ k n hi t, k_up k n hi t h]; rfl

set_option maxRecDepth 100000 in
set_option maxHeartbeats 8000000 in
theorem kinds_big (n m hi : Int) (s t : ByteArray) (hzs : s.size ≤ 140737488351232) (hzt : t.size ≤ 140737488351232) (hl : 10000 < s.size + t.size) (w : World) (hg : Good w) :
    Calls Tryd.prog 9 #[.int .i64 n, .int .i64 m, .int .i64 hi, .string s, .string t] w fun e w' => e = .returned (.bool true) ∧ Below w.heap.size w w' := by
  go_enter Tryd.func9, Tryd.ntmps9
  go_wp2_with fail
  refine (works_true _ hg).mono ?_
  rintro e w1 ⟨rfl, hb1⟩
  have hw1 := hb1
  have hg1 := hg.below hb1
  go_wp2_with fail
  refine (works_true w1 hg1).mono ?_
  rintro e wz ⟨rfl, hbz⟩
  have hwz := below_tr hw1 hbz
  go_wp2_with fail
  go_ret
  exact ⟨rfl, hwz⟩

set_option maxRecDepth 100000 in
set_option maxHeartbeats 8000000 in
theorem kinds_small (n m hi : Int) (s t : ByteArray) (hl : s.size + t.size ≤ 10000) (w : World) (hg : Good w) :
    Calls Tryd.prog 9 #[.int .i64 n, .int .i64 m, .int .i64 hi, .string s, .string t] w fun e w' => e = .returned (.bool true) ∧ Below w.heap.size w w' := by
  have hd : decide (10000 < (s.size : Int) + (t.size : Int)) = false := by simp; omega
  obtain ⟨x, hx⟩ : ∃ x, cmpI n m = x := ⟨_, rfl⟩
  obtain ⟨y, hy⟩ : ∃ y, cmpS s t = y := ⟨_, rfl⟩
  obtain ⟨z, hz⟩ : ∃ z, cmpI m hi = z := ⟨_, rfl⟩
  have X1 := Lib.hid ((k_int n m).trans hx)
  have X2 := Lib.hid ((ord_int n m).trans hx)
  have Y1 := Lib.hid ((k_str s t).trans hy)
  have Y2 := Lib.hid ((ord_str s t).trans hy)
  have Z1 := Lib.hid ((k_span n m hi).trans hz)
  have Z2 := Lib.hid ((ord_int m hi).trans hz)
  clear hx hy hz
  go_enter Tryd.func9, Tryd.ntmps9
  go_wp2_with fail
  refine (works_true _ hg).mono ?_
  rintro e w1 ⟨rfl, hb1⟩
  have hw1 := hb1
  have hg1 := hg.below hb1
  go_wp2_with fail
  refine (compare_is _ _ _ _ _ _ _ _ _ x X1.out).mono ?_
  rintro e w2 ⟨rfl, hb2⟩
  have hw2 := below_tr hw1 hb2
  go_wp2_with fail
  refine (ord_is _ _ x X2.out _).mono ?_
  rintro e wo ⟨rfl, rfl⟩
  go_wp2_with fail
  refine (compare_is _ _ _ _ _ _ _ _ _ y Y1.out).mono ?_
  rintro e w3 ⟨rfl, hb3⟩
  have hw3 := below_tr hw2 hb3
  go_wp2_with fail
  refine (ord_is _ _ y Y2.out _).mono ?_
  rintro e wo ⟨rfl, rfl⟩
  go_wp2_with fail
  refine (compare_is _ _ _ _ _ _ _ _ _ z Z1.out).mono ?_
  rintro e w4 ⟨rfl, hb4⟩
  have hw4 := below_tr hw3 hb4
  go_wp2_with fail
  refine (ord_is _ _ z Z2.out _).mono ?_
  rintro e wo ⟨rfl, rfl⟩
  go_wp2_with fail
  refine (compare_is _ _ _ _ _ _ _ _ _ (-1) k_bool).mono ?_
  rintro e w5 ⟨rfl, hb5⟩
  have hw5 := below_tr hw4 hb5
  go_wp2_with fail
  have hb6 := below_tr hw5 (Below.allocs w5 (.cells #[.int .u8 1, .int .i64 n, .int .i64 0, .string ⟨#[]⟩, .int .u8 2, .int .i64 0, .int .i64 0, .string ⟨#[]⟩, .int .u8 3, .int .i64 0, .int .i64 0, .string s, .int .u8 4, .int .i64 n, .int .i64 m, .string ⟨#[]⟩] 26))
  have q : ∀ j v, (#[.int .u8 1, .int .i64 n, .int .i64 0, .string ⟨#[]⟩, .int .u8 2, .int .i64 0, .int .i64 0, .string ⟨#[]⟩, .int .u8 3, .int .i64 0, .int .i64 0, .string s, .int .u8 4, .int .i64 n, .int .i64 m, .string ⟨#[]⟩] : Array Value)[j]? = some v → (w5.alloc (.cells #[.int .u8 1, .int .i64 n, .int .i64 0, .string ⟨#[]⟩, .int .u8 2, .int .i64 0, .int .i64 0, .string ⟨#[]⟩, .int .u8 3, .int .i64 0, .int .i64 0, .string s, .int .u8 4, .int .i64 n, .int .i64 m, .string ⟨#[]⟩] 26)).cell? ⟨w5.heap.size, j, none⟩ = some v := fun j v h => by rw [World.cell?_alloc_at _ _ _ _ rfl]; exact h
  have hg0 : w5.heap.size < (w5.alloc (.cells #[.int .u8 1, .int .i64 n, .int .i64 0, .string ⟨#[]⟩, .int .u8 2, .int .i64 0, .int .i64 0, .string ⟨#[]⟩, .int .u8 3, .int .i64 0, .int .i64 0, .string s, .int .u8 4, .int .i64 n, .int .i64 m, .string ⟨#[]⟩] 26)).heap.size := by simp
  generalize w5.alloc (.cells #[.int .u8 1, .int .i64 n, .int .i64 0, .string ⟨#[]⟩, .int .u8 2, .int .i64 0, .int .i64 0, .string ⟨#[]⟩, .int .u8 3, .int .i64 0, .int .i64 0, .string s, .int .u8 4, .int .i64 n, .int .i64 m, .string ⟨#[]⟩] 26) = W0 at *
  generalize w5.heap.size = g at *
  have HQ := Lib.hid q
  clear q hb5 hb4 hb3 hb2 hb1 hw4 hw3 hw2 hw1 hg1 X1 X2 Y1 Y2 Z1 Z2 hg
  go_loopw [87] (fun c wr => ∃ i : Nat, i ≤ 4 ∧ c = .int .i64 i ∧ Below W0.heap.size W0 wr) (fun c _ => 4 - (intOf c).toNat)
  case atStart => exact ⟨0, by omega, rfl, Below.refl _ _⟩
  case round =>
    obtain ⟨i, hi4, rfl, hbr⟩ := hrel
    have q := HQ.out
    have hi5 : i = 0 ∨ i = 1 ∨ i = 2 ∨ i = 3 ∨ i = 4 := by omega
    clear hi4
    rcases hi5 with rfl | rfl | rfl | rfl | rfl
    · -- row 0
      have q0 : wr.cell? ⟨g, 0, none⟩ = some (.int .u8 1) := by rw [hbr.cell hg0]; exact q 0 _ rfl
      have q1 : wr.cell? ⟨g, 1, none⟩ = some (.int .i64 n) := by rw [hbr.cell hg0]; exact q 1 _ rfl
      have q2 : wr.cell? ⟨g, 2, none⟩ = some (.int .i64 0) := by rw [hbr.cell hg0]; exact q 2 _ rfl
      have q3 : wr.cell? ⟨g, 3, none⟩ = some (.string ⟨#[]⟩) := by rw [hbr.cell hg0]; exact q 3 _ rfl
      clear q
      go_wp2_with fail
      refine (compare_is _ _ _ _ _ _ _ _ _ (-1) (k_up 1 n 0 ⟨#[]⟩ (by decide))).mono ?_
      rintro e wa ⟨rfl, hba⟩
      have hwa := below_tr (below_tr hbr (Below.allocs wr (.cells #[.int .u8 1, .int .i64 n, .int .i64 0, .string ⟨#[]⟩] 26))) hba
      obtain ⟨x0, x1, x2, x3, x4⟩ := (Boxed.new wr 1 n 0 ⟨#[]⟩ 26).below hba
      go_wp2_with fail
      refine (compare_is _ _ _ _ _ _ _ _ _ 1 (k_down 1 n 0 ⟨#[]⟩ (by decide))).mono ?_
      rintro e wb ⟨rfl, hbb⟩
      have hwb := below_tr hwa hbb
      go_wp2_with fail
      go_roundw
      case rel => exact ⟨1, by omega, rfl, hwb⟩
      case measure => simp [intOf]
    · -- row 1
      have q0 : wr.cell? ⟨g, 4, none⟩ = some (.int .u8 2) := by rw [hbr.cell hg0]; exact q 4 _ rfl
      have q1 : wr.cell? ⟨g, 5, none⟩ = some (.int .i64 0) := by rw [hbr.cell hg0]; exact q 5 _ rfl
      have q2 : wr.cell? ⟨g, 6, none⟩ = some (.int .i64 0) := by rw [hbr.cell hg0]; exact q 6 _ rfl
      have q3 : wr.cell? ⟨g, 7, none⟩ = some (.string ⟨#[]⟩) := by rw [hbr.cell hg0]; exact q 7 _ rfl
      clear q
      go_wp2_with fail
      refine (compare_is _ _ _ _ _ _ _ _ _ (-1) (k_up 2 0 0 ⟨#[]⟩ (by decide))).mono ?_
      rintro e wa ⟨rfl, hba⟩
      have hwa := below_tr (below_tr hbr (Below.allocs wr (.cells #[.int .u8 2, .int .i64 0, .int .i64 0, .string ⟨#[]⟩] 26))) hba
      obtain ⟨x0, x1, x2, x3, x4⟩ := (Boxed.new wr 2 0 0 ⟨#[]⟩ 26).below hba
      go_wp2_with fail
      refine (compare_is _ _ _ _ _ _ _ _ _ 1 (k_down 2 0 0 ⟨#[]⟩ (by decide))).mono ?_
      rintro e wb ⟨rfl, hbb⟩
      have hwb := below_tr hwa hbb
      go_wp2_with fail
      go_roundw
      case rel => exact ⟨2, by omega, rfl, hwb⟩
      case measure => simp [intOf]
    · -- row 2
      have q0 : wr.cell? ⟨g, 8, none⟩ = some (.int .u8 3) := by rw [hbr.cell hg0]; exact q 8 _ rfl
      have q1 : wr.cell? ⟨g, 9, none⟩ = some (.int .i64 0) := by rw [hbr.cell hg0]; exact q 9 _ rfl
      have q2 : wr.cell? ⟨g, 10, none⟩ = some (.int .i64 0) := by rw [hbr.cell hg0]; exact q 10 _ rfl
      have q3 : wr.cell? ⟨g, 11, none⟩ = some (.string s) := by rw [hbr.cell hg0]; exact q 11 _ rfl
      clear q
      go_wp2_with fail
      refine (compare_is _ _ _ _ _ _ _ _ _ (-1) (k_up 3 0 0 s (by decide))).mono ?_
      rintro e wa ⟨rfl, hba⟩
      have hwa := below_tr (below_tr hbr (Below.allocs wr (.cells #[.int .u8 3, .int .i64 0, .int .i64 0, .string s] 26))) hba
      obtain ⟨x0, x1, x2, x3, x4⟩ := (Boxed.new wr 3 0 0 s 26).below hba
      go_wp2_with fail
      refine (compare_is _ _ _ _ _ _ _ _ _ 1 (k_down 3 0 0 s (by decide))).mono ?_
      rintro e wb ⟨rfl, hbb⟩
      have hwb := below_tr hwa hbb
      go_wp2_with fail
      go_roundw
      case rel => exact ⟨3, by omega, rfl, hwb⟩
      case measure => simp [intOf]
    · -- row 3
      have q0 : wr.cell? ⟨g, 12, none⟩ = some (.int .u8 4) := by rw [hbr.cell hg0]; exact q 12 _ rfl
      have q1 : wr.cell? ⟨g, 13, none⟩ = some (.int .i64 n) := by rw [hbr.cell hg0]; exact q 13 _ rfl
      have q2 : wr.cell? ⟨g, 14, none⟩ = some (.int .i64 m) := by rw [hbr.cell hg0]; exact q 14 _ rfl
      have q3 : wr.cell? ⟨g, 15, none⟩ = some (.string ⟨#[]⟩) := by rw [hbr.cell hg0]; exact q 15 _ rfl
      clear q
      go_wp2_with fail
      refine (compare_is _ _ _ _ _ _ _ _ _ (-1) (k_up 4 n m ⟨#[]⟩ (by decide))).mono ?_
      rintro e wa ⟨rfl, hba⟩
      have hwa := below_tr (below_tr hbr (Below.allocs wr (.cells #[.int .u8 4, .int .i64 n, .int .i64 m, .string ⟨#[]⟩] 26))) hba
      obtain ⟨x0, x1, x2, x3, x4⟩ := (Boxed.new wr 4 n m ⟨#[]⟩ 26).below hba
      go_wp2_with fail
      refine (compare_is _ _ _ _ _ _ _ _ _ 1 (k_down 4 n m ⟨#[]⟩ (by decide))).mono ?_
      rintro e wb ⟨rfl, hbb⟩
      have hwb := below_tr hwa hbb
      go_wp2_with fail
      go_roundw
      case rel => exact ⟨4, by omega, rfl, hwb⟩
      case measure => simp [intOf]
    · go_wp2_with fail
      go_ret
      exact ⟨rfl, below_tr hb6 hbr⟩

theorem kinds_any (n m hi : Int) (s t : ByteArray) (hzs : s.size ≤ 140737488351232) (hzt : t.size ≤ 140737488351232) (w : World) (hg : Good w) :
    Calls Tryd.prog 9 #[.int .i64 n, .int .i64 m, .int .i64 hi, .string s, .string t] w fun e w' => e = .returned (.bool true) ∧ Below w.heap.size w w' := by
  by_cases hl : s.size + t.size ≤ 10000
  · exact kinds_small n m hi s t hl w hg
  · exact kinds_big n m hi s t hzs hzt (by omega) w hg

end Go.Proofs.YtpnnkgjgkcgagaaDoor
