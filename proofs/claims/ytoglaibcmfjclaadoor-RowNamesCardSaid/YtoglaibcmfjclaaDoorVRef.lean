/-
  What the document's own answers covenantref01.May and covenantref01.Fits are, as walks over this translation.
-/
import Derived.Test.YtoglaibcmfjclaaDoorVFit
namespace Go.Proofs.YtoglaibcmfjclaaDoor
open Go.RowKit

theorem ref_end {n hi : Int} {b : Bool} {k : Int} {t : ByteArray} (h : b = mayB k n hi t.data.toList) : Ending.returned (.bool b) = .returned (.bool (mayB k n hi t.data.toList)) := by rw [h]

set_option maxHeartbeats 400000 in
theorem rmay_0 (n hi : Int) (t : ByteArray) (w : World) :
    Calls Tryd.prog 32 #[.agg #[.int .u8 0, .int .i64 n, .int .i64 hi, .string t]] w fun e w' => e = .returned (.bool (mayB 0 n hi t.data.toList)) ∧ Below w.heap.size w w' := by
  go_enter Tryd.func32, Tryd.ntmps32
  go_wp2
  all_goals
    go_ret
    refine ⟨ref_end ?_, Below.allocs _ _⟩
    (try simp only [ByteArray.toList_eq, bne_iff_ne, ne_eq, bne_eq_false_iff_eq] at *)
    first | (simp [mayB, mayP, *]; done) | (rw [Bool.eq_iff_iff]; simp [mayB, mayP, *] <;> omega)

set_option maxHeartbeats 400000 in
theorem rmay_1 (n hi : Int) (t : ByteArray) (w : World) :
    Calls Tryd.prog 32 #[.agg #[.int .u8 1, .int .i64 n, .int .i64 hi, .string t]] w fun e w' => e = .returned (.bool (mayB 1 n hi t.data.toList)) ∧ Below w.heap.size w w' := by
  go_enter Tryd.func32, Tryd.ntmps32
  go_wp2
  all_goals
    go_ret
    refine ⟨ref_end ?_, Below.allocs _ _⟩
    (try simp only [ByteArray.toList_eq, bne_iff_ne, ne_eq, bne_eq_false_iff_eq] at *)
    first | (simp [mayB, mayP, *]; done) | (rw [Bool.eq_iff_iff]; simp [mayB, mayP, *] <;> omega)

set_option maxHeartbeats 400000 in
theorem rmay_2 (n hi : Int) (t : ByteArray) (w : World) :
    Calls Tryd.prog 32 #[.agg #[.int .u8 2, .int .i64 n, .int .i64 hi, .string t]] w fun e w' => e = .returned (.bool (mayB 2 n hi t.data.toList)) ∧ Below w.heap.size w w' := by
  go_enter Tryd.func32, Tryd.ntmps32
  go_wp2
  all_goals
    go_ret
    refine ⟨ref_end ?_, Below.allocs _ _⟩
    (try simp only [ByteArray.toList_eq, bne_iff_ne, ne_eq, bne_eq_false_iff_eq] at *)
    first | (simp [mayB, mayP, *]; done) | (rw [Bool.eq_iff_iff]; simp [mayB, mayP, *] <;> omega)

set_option maxHeartbeats 400000 in
theorem rmay_3 (n hi : Int) (t : ByteArray) (w : World) :
    Calls Tryd.prog 32 #[.agg #[.int .u8 3, .int .i64 n, .int .i64 hi, .string t]] w fun e w' => e = .returned (.bool (mayB 3 n hi t.data.toList)) ∧ Below w.heap.size w w' := by
  go_enter Tryd.func32, Tryd.ntmps32
  go_wp2
  all_goals
    go_ret
    refine ⟨ref_end ?_, Below.allocs _ _⟩
    (try simp only [bne_iff_ne, ne_eq, bne_eq_false_iff_eq] at *)
    first | (simp [mayB, mayP, *]; done) | (rw [Bool.eq_iff_iff]; simp [mayB, mayP, *] <;> omega)

set_option maxHeartbeats 400000 in
theorem rmay_4 (n hi : Int) (t : ByteArray) (w : World) :
    Calls Tryd.prog 32 #[.agg #[.int .u8 4, .int .i64 n, .int .i64 hi, .string t]] w fun e w' => e = .returned (.bool (mayB 4 n hi t.data.toList)) ∧ Below w.heap.size w w' := by
  go_enter Tryd.func32, Tryd.ntmps32
  go_wp2
  all_goals
    go_ret
    refine ⟨ref_end ?_, Below.allocs _ _⟩
    (try simp only [ByteArray.toList_eq] at *)
    first | (simp [mayB, mayP, *]; done) | (rw [Bool.eq_iff_iff]; simp [mayB, mayP, *] <;> omega)

set_option maxHeartbeats 400000 in
theorem rmay_other (k n hi : Int) (t : ByteArray) (w : World) (h0 : (k == 0) = false) (h1 : (k == 1) = false) (h2 : (k == 2) = false) (h3 : (k == 3) = false) (h4 : (k == 4) = false) :
    Calls Tryd.prog 32 #[.agg #[.int .u8 k, .int .i64 n, .int .i64 hi, .string t]] w fun e w' => e = .returned (.bool (mayB k n hi t.data.toList)) ∧ Below w.heap.size w w' := by
  go_enter Tryd.func32, Tryd.ntmps32
  go_wp2
  all_goals
    go_ret
    refine ⟨ref_end ?_, Below.allocs _ _⟩
    simp only [beq_eq_false_iff_ne, ne_eq] at h0 h1 h2 h3 h4
    first | (exfalso; omega) | (simp [mayB, mayP, *]; done)

theorem rmay_is (k n hi : Int) (t : ByteArray) (w : World) (b : Bool) (h : mayB k n hi t.data.toList = b) :
    Calls Tryd.prog 32 #[.agg #[.int .u8 k, .int .i64 n, .int .i64 hi, .string t]] w fun e w' => e = .returned (.bool b) ∧ Below w.heap.size w w' := by
  rw [← h]
  by_cases h0 : k = 0
  · rw [h0]; exact rmay_0 n hi t w
  by_cases h1 : k = 1
  · rw [h1]; exact rmay_1 n hi t w
  by_cases h2 : k = 2
  · rw [h2]; exact rmay_2 n hi t w
  by_cases h3 : k = 3
  · rw [h3]; exact rmay_3 n hi t w
  by_cases h4 : k = 4
  · rw [h4]; exact rmay_4 n hi t w
  exact rmay_other k n hi t w (by simpa using h0) (by simpa using h1) (by simpa using h2) (by simpa using h3) (by simpa using h4)

set_option maxHeartbeats 400000 in
theorem rfits_out (k n hi : Int) (t : ByteArray) (kind : Int) (e1 : (kind != 1) = true) (e2 : (kind != 2) = true) (e3 : (kind != 3) = true) (e4 : (kind != 4) = true) (w : World) :
    Calls Tryd.prog 31 #[.agg #[.int .u8 k, .int .i64 n, .int .i64 hi, .string t], .int .u8 kind] w fun e w' => e = .returned (.bool false) ∧ Below w.heap.size w w' := by
  go_enter Tryd.func31, Tryd.ntmps31
  go_wp2_with fail
  go_ret
  exact ⟨rfl, Below.allocs _ _⟩

set_option maxHeartbeats 400000 in
theorem rfits_1 (k n hi : Int) (t : ByteArray) (m : Bool) (hm : mayB k n hi t.data.toList = m) (w : World) :
    Calls Tryd.prog 31 #[.agg #[.int .u8 k, .int .i64 n, .int .i64 hi, .string t], .int .u8 1] w fun e w' => e = .returned (.bool (m && (decide (k = 0) || decide (k = 1)))) ∧ Below w.heap.size w w' := by
  have HM := Lib.hid hm
  clear hm
  go_enter Tryd.func31, Tryd.ntmps31
  go_wp2_with fail
  refine (rmay_is k n hi t _ m HM.out).mono ?_
  rintro e w1 ⟨rfl, hb1⟩
  obtain ⟨c0, c1, c2, c3, c4⟩ := (Boxed.new w k n hi t 25).below hb1
  cases m
  · go_wp2_with fail
    go_ret
    exact ⟨rfl, below_tr (Below.allocs _ _) hb1⟩
  · by_cases h0 : k = 0
    · have e0 : (k == 0) = true := by simpa using h0
      have HB := Lib.hid (show (true && (decide (k = 0) || decide (k = 1))) = true by simp [h0])
      clear h0
      go_wp2_with fail
      go_ret
      exact ⟨by rw [HB.out]; rfl, below_tr (Below.allocs _ _) hb1⟩
    · have e0 : (k == 0) = false := by simpa using h0
      by_cases h1 : k = 1
      · have e1 : (k == 1) = true := by simpa using h1
        have HB := Lib.hid (show (true && (decide (k = 0) || decide (k = 1))) = true by simp [h1])
        clear h0 h1
        go_wp2_with fail
        go_ret
        exact ⟨by rw [HB.out]; rfl, below_tr (Below.allocs _ _) hb1⟩
      · have e1 : (k == 1) = false := by simpa using h1
        have HB := Lib.hid (show (true && (decide (k = 0) || decide (k = 1))) = false by simp [h0, h1])
        clear h0 h1
        go_wp2_with fail
        go_ret
        exact ⟨by rw [HB.out]; rfl, below_tr (Below.allocs _ _) hb1⟩

set_option maxHeartbeats 400000 in
theorem rfits_2 (k n hi : Int) (t : ByteArray) (m : Bool) (hm : mayB k n hi t.data.toList = m) (w : World) :
    Calls Tryd.prog 31 #[.agg #[.int .u8 k, .int .i64 n, .int .i64 hi, .string t], .int .u8 2] w fun e w' => e = .returned (.bool (m && (decide (k = 0) || decide (k = 2)))) ∧ Below w.heap.size w w' := by
  have HM := Lib.hid hm
  clear hm
  go_enter Tryd.func31, Tryd.ntmps31
  go_wp2_with fail
  refine (rmay_is k n hi t _ m HM.out).mono ?_
  rintro e w1 ⟨rfl, hb1⟩
  obtain ⟨c0, c1, c2, c3, c4⟩ := (Boxed.new w k n hi t 25).below hb1
  cases m
  · go_wp2_with fail
    go_ret
    exact ⟨rfl, below_tr (Below.allocs _ _) hb1⟩
  · by_cases h0 : k = 0
    · have e0 : (k == 0) = true := by simpa using h0
      have HB := Lib.hid (show (true && (decide (k = 0) || decide (k = 2))) = true by simp [h0])
      clear h0
      go_wp2_with fail
      go_ret
      exact ⟨by rw [HB.out]; rfl, below_tr (Below.allocs _ _) hb1⟩
    · have e0 : (k == 0) = false := by simpa using h0
      by_cases h1 : k = 2
      · have e1 : (k == 2) = true := by simpa using h1
        have HB := Lib.hid (show (true && (decide (k = 0) || decide (k = 2))) = true by simp [h1])
        clear h0 h1
        go_wp2_with fail
        go_ret
        exact ⟨by rw [HB.out]; rfl, below_tr (Below.allocs _ _) hb1⟩
      · have e1 : (k == 2) = false := by simpa using h1
        have HB := Lib.hid (show (true && (decide (k = 0) || decide (k = 2))) = false by simp [h0, h1])
        clear h0 h1
        go_wp2_with fail
        go_ret
        exact ⟨by rw [HB.out]; rfl, below_tr (Below.allocs _ _) hb1⟩

set_option maxHeartbeats 400000 in
theorem rfits_3 (k n hi : Int) (t : ByteArray) (m : Bool) (hm : mayB k n hi t.data.toList = m) (w : World) :
    Calls Tryd.prog 31 #[.agg #[.int .u8 k, .int .i64 n, .int .i64 hi, .string t], .int .u8 3] w fun e w' => e = .returned (.bool (m && (decide (k = 0) || decide (k = 3)))) ∧ Below w.heap.size w w' := by
  have HM := Lib.hid hm
  clear hm
  go_enter Tryd.func31, Tryd.ntmps31
  go_wp2_with fail
  refine (rmay_is k n hi t _ m HM.out).mono ?_
  rintro e w1 ⟨rfl, hb1⟩
  obtain ⟨c0, c1, c2, c3, c4⟩ := (Boxed.new w k n hi t 25).below hb1
  cases m
  · go_wp2_with fail
    go_ret
    exact ⟨rfl, below_tr (Below.allocs _ _) hb1⟩
  · by_cases h0 : k = 0
    · have e0 : (k == 0) = true := by simpa using h0
      have HB := Lib.hid (show (true && (decide (k = 0) || decide (k = 3))) = true by simp [h0])
      clear h0
      go_wp2_with fail
      go_ret
      exact ⟨by rw [HB.out]; rfl, below_tr (Below.allocs _ _) hb1⟩
    · have e0 : (k == 0) = false := by simpa using h0
      by_cases h1 : k = 3
      · have e1 : (k == 3) = true := by simpa using h1
        have HB := Lib.hid (show (true && (decide (k = 0) || decide (k = 3))) = true by simp [h1])
        clear h0 h1
        go_wp2_with fail
        go_ret
        exact ⟨by rw [HB.out]; rfl, below_tr (Below.allocs _ _) hb1⟩
      · have e1 : (k == 3) = false := by simpa using h1
        have HB := Lib.hid (show (true && (decide (k = 0) || decide (k = 3))) = false by simp [h0, h1])
        clear h0 h1
        go_wp2_with fail
        go_ret
        exact ⟨by rw [HB.out]; rfl, below_tr (Below.allocs _ _) hb1⟩

set_option maxHeartbeats 400000 in
theorem rfits_4 (k n hi : Int) (t : ByteArray) (m : Bool) (hm : mayB k n hi t.data.toList = m) (w : World) :
    Calls Tryd.prog 31 #[.agg #[.int .u8 k, .int .i64 n, .int .i64 hi, .string t], .int .u8 4] w fun e w' => e = .returned (.bool (m && (decide (k = 0) || decide (k = 4)))) ∧ Below w.heap.size w w' := by
  have HM := Lib.hid hm
  clear hm
  go_enter Tryd.func31, Tryd.ntmps31
  go_wp2_with fail
  refine (rmay_is k n hi t _ m HM.out).mono ?_
  rintro e w1 ⟨rfl, hb1⟩
  obtain ⟨c0, c1, c2, c3, c4⟩ := (Boxed.new w k n hi t 25).below hb1
  cases m
  · go_wp2_with fail
    go_ret
    exact ⟨rfl, below_tr (Below.allocs _ _) hb1⟩
  · by_cases h0 : k = 0
    · have e0 : (k == 0) = true := by simpa using h0
      have HB := Lib.hid (show (true && (decide (k = 0) || decide (k = 4))) = true by simp [h0])
      clear h0
      go_wp2_with fail
      go_ret
      exact ⟨by rw [HB.out]; rfl, below_tr (Below.allocs _ _) hb1⟩
    · have e0 : (k == 0) = false := by simpa using h0
      by_cases h1 : k = 4
      · have e1 : (k == 4) = true := by simpa using h1
        have HB := Lib.hid (show (true && (decide (k = 0) || decide (k = 4))) = true by simp [h1])
        clear h0 h1
        go_wp2_with fail
        go_ret
        exact ⟨by rw [HB.out]; rfl, below_tr (Below.allocs _ _) hb1⟩
      · have e1 : (k == 4) = false := by simpa using h1
        have HB := Lib.hid (show (true && (decide (k = 0) || decide (k = 4))) = false by simp [h0, h1])
        clear h0 h1
        go_wp2_with fail
        go_ret
        exact ⟨by rw [HB.out]; rfl, below_tr (Below.allocs _ _) hb1⟩

theorem rfits_is (k n hi : Int) (t : ByteArray) (kind : Int) (b : Bool) (hf : fitsB k n hi t.data.toList kind = b) (w : World) :
    Calls Tryd.prog 31 #[.agg #[.int .u8 k, .int .i64 n, .int .i64 hi, .string t], .int .u8 kind] w fun e w' => e = .returned (.bool b) ∧ Below w.heap.size w w' := by
  rw [← hf]
  unfold fitsB
  by_cases h1 : kind = 1
  · subst h1
    have := rfits_1 k n hi t _ rfl w
    simpa using this
  by_cases h2 : kind = 2
  · subst h2
    have := rfits_2 k n hi t _ rfl w
    simpa using this
  by_cases h3 : kind = 3
  · subst h3
    have := rfits_3 k n hi t _ rfl w
    simpa using this
  by_cases h4 : kind = 4
  · subst h4
    have := rfits_4 k n hi t _ rfl w
    simpa using this
  rw [decide_eq_false (show ¬ (1 ≤ kind ∧ kind ≤ 4) by omega), Bool.false_and]
  exact rfits_out k n hi t kind (by simpa using h1) (by simpa using h2) (by simpa using h3) (by simpa using h4) w

end Go.Proofs.YtoglaibcmfjclaaDoor
