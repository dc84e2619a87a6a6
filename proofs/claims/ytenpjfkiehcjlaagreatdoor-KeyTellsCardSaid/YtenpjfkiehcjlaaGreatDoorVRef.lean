/-
  What the document's own answers covenantref01.May and covenantref01.Fits are, as walks over this translation.
-/
import Derived.Test.YtenpjfkiehcjlaaGreatDoorVText
namespace Go.Proofs.YtenpjfkiehcjlaaGreatDoor
open Go.RowKit

theorem ref_end {n hi : Int} {b : Bool} {k : Int} {t : ByteArray} (h : b = mayB k n hi t.data.toList) : Ending.returned (.bool b) = .returned (.bool (mayB k n hi t.data.toList)) := by rw [h]

set_option maxHeartbeats 400000 in
theorem rmay_0 (n hi : Int) (t : ByteArray) (w : World) :
    Calls Tryz.prog 43 #[.agg #[.int .u8 0, .int .i64 n, .int .i64 hi, .string t]] w fun e w' => e = .returned (.bool (mayB 0 n hi t.data.toList)) ∧ Below w.heap.size w w' := by
  go_enter Tryz.func43, Tryz.ntmps43
  go_wp2
  all_goals
    go_ret
    refine ⟨ref_end ?_, Below.allocs _ _⟩
    (try simp only [ByteArray.toList_eq, bne_iff_ne, ne_eq, bne_eq_false_iff_eq] at *)
    first | (simp [mayB, mayP, *]; done) | (rw [Bool.eq_iff_iff]; simp [mayB, mayP, *] <;> omega)

set_option maxHeartbeats 400000 in
theorem rmay_1 (n hi : Int) (t : ByteArray) (w : World) :
    Calls Tryz.prog 43 #[.agg #[.int .u8 1, .int .i64 n, .int .i64 hi, .string t]] w fun e w' => e = .returned (.bool (mayB 1 n hi t.data.toList)) ∧ Below w.heap.size w w' := by
  go_enter Tryz.func43, Tryz.ntmps43
  go_wp2
  all_goals
    go_ret
    refine ⟨ref_end ?_, Below.allocs _ _⟩
    (try simp only [ByteArray.toList_eq, bne_iff_ne, ne_eq, bne_eq_false_iff_eq] at *)
    first | (simp [mayB, mayP, *]; done) | (rw [Bool.eq_iff_iff]; simp [mayB, mayP, *] <;> omega)

set_option maxHeartbeats 400000 in
theorem rmay_2 (n hi : Int) (t : ByteArray) (w : World) :
    Calls Tryz.prog 43 #[.agg #[.int .u8 2, .int .i64 n, .int .i64 hi, .string t]] w fun e w' => e = .returned (.bool (mayB 2 n hi t.data.toList)) ∧ Below w.heap.size w w' := by
  go_enter Tryz.func43, Tryz.ntmps43
  go_wp2
  all_goals
    go_ret
    refine ⟨ref_end ?_, Below.allocs _ _⟩
    (try simp only [ByteArray.toList_eq, bne_iff_ne, ne_eq, bne_eq_false_iff_eq] at *)
    first | (simp [mayB, mayP, *]; done) | (rw [Bool.eq_iff_iff]; simp [mayB, mayP, *] <;> omega)

set_option maxHeartbeats 400000 in
theorem rmay_3 (n hi : Int) (t : ByteArray) (w : World) :
    Calls Tryz.prog 43 #[.agg #[.int .u8 3, .int .i64 n, .int .i64 hi, .string t]] w fun e w' => e = .returned (.bool (mayB 3 n hi t.data.toList)) ∧ Below w.heap.size w w' := by
  go_enter Tryz.func43, Tryz.ntmps43
  go_wp2
  all_goals
    go_ret
    refine ⟨ref_end ?_, Below.allocs _ _⟩
    (try simp only [bne_iff_ne, ne_eq, bne_eq_false_iff_eq] at *)
    first | (simp [mayB, mayP, *]; done) | (rw [Bool.eq_iff_iff]; simp [mayB, mayP, *] <;> omega)

set_option maxHeartbeats 400000 in
theorem rmay_4 (n hi : Int) (t : ByteArray) (w : World) :
    Calls Tryz.prog 43 #[.agg #[.int .u8 4, .int .i64 n, .int .i64 hi, .string t]] w fun e w' => e = .returned (.bool (mayB 4 n hi t.data.toList)) ∧ Below w.heap.size w w' := by
  go_enter Tryz.func43, Tryz.ntmps43
  go_wp2
  all_goals
    go_ret
    refine ⟨ref_end ?_, Below.allocs _ _⟩
    (try simp only [ByteArray.toList_eq] at *)
    first | (simp [mayB, mayP, *]; done) | (rw [Bool.eq_iff_iff]; simp [mayB, mayP, *] <;> omega)

set_option maxHeartbeats 400000 in
theorem rmay_other (k n hi : Int) (t : ByteArray) (w : World) (h0 : (k == 0) = false) (h1 : (k == 1) = false) (h2 : (k == 2) = false) (h3 : (k == 3) = false) (h4 : (k == 4) = false) :
    Calls Tryz.prog 43 #[.agg #[.int .u8 k, .int .i64 n, .int .i64 hi, .string t]] w fun e w' => e = .returned (.bool (mayB k n hi t.data.toList)) ∧ Below w.heap.size w w' := by
  go_enter Tryz.func43, Tryz.ntmps43
  go_wp2
  all_goals
    go_ret
    refine ⟨ref_end ?_, Below.allocs _ _⟩
    simp only [beq_eq_false_iff_ne, ne_eq] at h0 h1 h2 h3 h4
    first | (exfalso; omega) | (simp [mayB, mayP, *]; done)

theorem rmay_is (k n hi : Int) (t : ByteArray) (w : World) (b : Bool) (h : mayB k n hi t.data.toList = b) :
    Calls Tryz.prog 43 #[.agg #[.int .u8 k, .int .i64 n, .int .i64 hi, .string t]] w fun e w' => e = .returned (.bool b) ∧ Below w.heap.size w w' := by
  rw [← h]
  by_cases h0 : k = 0
  · rw [h0]; exact rmay_0 n hi t w
  by_cases h1 : k = 1
  · rw [h1]; exact rmay_1 n hi t w
  by_cases h2 : k = 2
  · rw [h2]; exact rmay_2 n hi t w
  by_cases h3 : k = 3
  · rw [h3]; exact rmay_3 n hi t w
  by_cases h4 : k = 4
  · rw [h4]; exact rmay_4 n hi t w
  exact rmay_other k n hi t w (by simpa using h0) (by simpa using h1) (by simpa using h2) (by simpa using h3) (by simpa using h4)

end Go.Proofs.YtenpjfkiehcjlaaGreatDoor
