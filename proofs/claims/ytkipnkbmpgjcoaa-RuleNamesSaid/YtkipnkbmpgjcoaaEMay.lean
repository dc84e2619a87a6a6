/-
  What value.May answers, as walks over this translation (package value's May and Fits, in the words of package expr's walks).
-/
import Derived.Test.YtkipnkbmpgjcoaaEMath
namespace Go.Proofs.Ytkipnkbmpgjcoaa
open Go.RowKit

/-- What a value may be. -/
def mayP (k n hi : Int) (t : List UInt8) : Prop :=
  (k = 0 ∧ n = 0 ∧ hi = 0 ∧ t = []) ∨ (k = 1 ∧ hi = 0 ∧ t = []) ∨ (k = 2 ∧ (n = 0 ∨ n = 1) ∧ hi = 0 ∧ t = []) ∨ (k = 3 ∧ n = 0 ∧ hi = 0 ∧ t.length ≤ 256) ∨ (k = 4 ∧ n < hi ∧ t = [])

instance (k n hi : Int) (t : List UInt8) : Decidable (mayP k n hi t) := by unfold mayP; infer_instance

/-- Is a value valid? -/
def mayB (k n hi : Int) (t : List UInt8) : Bool := decide (mayP k n hi t)

theorem may_end {n hi : Int} {b : Bool} {k : Int} {t : ByteArray} (h : b = mayB k n hi t.data.toList) : Ending.returned (.bool b) = .returned (.bool (mayB k n hi t.data.toList)) := by rw [h]

set_option maxHeartbeats 400000 in
theorem may_0 (n hi : Int) (t : ByteArray) (w : World) :
    Calls Try.prog 48 #[.agg #[.int .u8 0, .int .i64 n, .int .i64 hi, .string t]] w fun e w' => e = .returned (.bool (mayB 0 n hi t.data.toList)) ∧ Below w.heap.size w w' := by
  go_enter Try.func48, Try.ntmps48
  go_wp2
  all_goals
    go_ret
    refine ⟨may_end ?_, Below.allocs _ _⟩
    (try simp only [ByteArray.toList_eq] at *)
    first | (simp [mayB, mayP, *]; done) | (rw [Bool.eq_iff_iff]; simp [mayB, mayP, *] <;> omega)

set_option maxHeartbeats 400000 in
theorem may_1 (n hi : Int) (t : ByteArray) (w : World) :
    Calls Try.prog 48 #[.agg #[.int .u8 1, .int .i64 n, .int .i64 hi, .string t]] w fun e w' => e = .returned (.bool (mayB 1 n hi t.data.toList)) ∧ Below w.heap.size w w' := by
  go_enter Try.func48, Try.ntmps48
  go_wp2
  all_goals
    go_ret
    refine ⟨may_end ?_, Below.allocs _ _⟩
    (try simp only [ByteArray.toList_eq] at *)
    first | (simp [mayB, mayP, *]; done) | (rw [Bool.eq_iff_iff]; simp [mayB, mayP, *] <;> omega)

set_option maxHeartbeats 400000 in
theorem may_2 (n hi : Int) (t : ByteArray) (w : World) :
    Calls Try.prog 48 #[.agg #[.int .u8 2, .int .i64 n, .int .i64 hi, .string t]] w fun e w' => e = .returned (.bool (mayB 2 n hi t.data.toList)) ∧ Below w.heap.size w w' := by
  go_enter Try.func48, Try.ntmps48
  go_wp2
  all_goals
    go_ret
    refine ⟨may_end ?_, Below.allocs _ _⟩
    (try simp only [ByteArray.toList_eq] at *)
    first | (simp [mayB, mayP, *]; done) | (rw [Bool.eq_iff_iff]; simp [mayB, mayP, *] <;> omega)

set_option maxHeartbeats 400000 in
theorem may_3 (n hi : Int) (t : ByteArray) (w : World) :
    Calls Try.prog 48 #[.agg #[.int .u8 3, .int .i64 n, .int .i64 hi, .string t]] w fun e w' => e = .returned (.bool (mayB 3 n hi t.data.toList)) ∧ Below w.heap.size w w' := by
  go_enter Try.func48, Try.ntmps48
  go_wp2
  all_goals
    go_ret
    refine ⟨may_end ?_, Below.allocs _ _⟩
    (try simp only [ByteArray.toList_eq] at *)
    first | (simp [mayB, mayP, *]; done) | (rw [Bool.eq_iff_iff]; simp [mayB, mayP, *] <;> omega)

set_option maxHeartbeats 400000 in
theorem may_4 (n hi : Int) (t : ByteArray) (w : World) :
    Calls Try.prog 48 #[.agg #[.int .u8 4, .int .i64 n, .int .i64 hi, .string t]] w fun e w' => e = .returned (.bool (mayB 4 n hi t.data.toList)) ∧ Below w.heap.size w w' := by
  go_enter Try.func48, Try.ntmps48
  go_wp2
  all_goals
    go_ret
    refine ⟨may_end ?_, Below.allocs _ _⟩
    (try simp only [ByteArray.toList_eq] at *)
    first | (simp [mayB, mayP, *]; done) | (rw [Bool.eq_iff_iff]; simp [mayB, mayP, *] <;> omega)

set_option maxHeartbeats 400000 in
theorem may_other (k n hi : Int) (t : ByteArray) (w : World) (h0 : (k == 0) = false) (h1 : (k == 1) = false) (h2 : (k == 2) = false) (h3 : (k == 3) = false) (h4 : (k == 4) = false) :
    Calls Try.prog 48 #[.agg #[.int .u8 k, .int .i64 n, .int .i64 hi, .string t]] w fun e w' => e = .returned (.bool (mayB k n hi t.data.toList)) ∧ Below w.heap.size w w' := by
  go_enter Try.func48, Try.ntmps48
  go_wp2
  all_goals
    go_ret
    refine ⟨may_end ?_, Below.allocs _ _⟩
    simp only [beq_eq_false_iff_ne, ne_eq] at h0 h1 h2 h3 h4
    first | (simp [mayB, mayP, *]; done) | (rw [Bool.eq_iff_iff]; simp [mayB, mayP, *] <;> omega)

theorem may_any (k n hi : Int) (t : ByteArray) (w : World) :
    Calls Try.prog 48 #[.agg #[.int .u8 k, .int .i64 n, .int .i64 hi, .string t]] w fun e w' => e = .returned (.bool (mayB k n hi t.data.toList)) ∧ Below w.heap.size w w' := by
  by_cases h0 : k = 0
  · rw [h0]; exact may_0 n hi t w
  by_cases h1 : k = 1
  · rw [h1]; exact may_1 n hi t w
  by_cases h2 : k = 2
  · rw [h2]; exact may_2 n hi t w
  by_cases h3 : k = 3
  · rw [h3]; exact may_3 n hi t w
  by_cases h4 : k = 4
  · rw [h4]; exact may_4 n hi t w
  exact may_other k n hi t w (by simpa using h0) (by simpa using h1) (by simpa using h2) (by simpa using h3) (by simpa using h4)

theorem may_is (k n hi : Int) (t : ByteArray) (w : World) (b : Bool) (h : mayB k n hi t.data.toList = b) :
    Calls Try.prog 48 #[.agg #[.int .u8 k, .int .i64 n, .int .i64 hi, .string t]] w fun e w' => e = .returned (.bool b) ∧ Below w.heap.size w w' := by
  rw [← h]; exact may_any k n hi t w

def fitsB (k n hi : Int) (t : List UInt8) (kind : Int) : Bool := decide (1 ≤ kind ∧ kind ≤ 4) && (mayB k n hi t && (decide (k = 0) || decide (k = kind)))

set_option maxHeartbeats 400000 in
theorem fits_out (k n hi : Int) (t : ByteArray) (kind : Int) (h : kind < 1 ∨ 4 < kind) (w : World) :
    Calls Try.prog 29 #[.agg #[.int .u8 k, .int .i64 n, .int .i64 hi, .string t], .int .u8 kind] w fun e w' => e = .returned (.bool false) ∧ Below w.heap.size w w' := by
  rcases h with h | h
  · go_enter Try.func29, Try.ntmps29
    go_wp2_with fail
    go_ret
    exact ⟨rfl, Below.allocs _ _⟩
  · have h2 : ¬ kind < 1 := by omega
    go_enter Try.func29, Try.ntmps29
    go_wp2_with fail
    go_ret
    exact ⟨rfl, Below.allocs _ _⟩

set_option maxHeartbeats 400000 in
theorem fits_bad (k n hi : Int) (t : ByteArray) (kind : Int) (l1 : 1 ≤ kind) (l2 : kind ≤ 4) (hm : mayB k n hi t.data.toList = false) (w : World) :
    Calls Try.prog 29 #[.agg #[.int .u8 k, .int .i64 n, .int .i64 hi, .string t], .int .u8 kind] w fun e w' => e = .returned (.bool false) ∧ Below w.heap.size w w' := by
  have HM := Lib.hid hm
  clear hm
  go_enter Try.func29, Try.ntmps29
  go_wp2_with fail
  refine (may_is k n hi t _ false HM.out).mono ?_
  rintro e w1 ⟨rfl, hb1⟩
  go_wp2_with fail
  go_ret
  exact ⟨rfl, below_tr (Below.allocs _ _) hb1⟩

set_option maxHeartbeats 400000 in
theorem fits_good (k n hi : Int) (t : ByteArray) (kind : Int) (l1 : 1 ≤ kind) (l2 : kind ≤ 4) (hm : mayB k n hi t.data.toList = true) (b : Bool) (hk : (decide (k = 0) || decide (k = kind)) = b) (w : World) :
    Calls Try.prog 29 #[.agg #[.int .u8 k, .int .i64 n, .int .i64 hi, .string t], .int .u8 kind] w fun e w' => e = .returned (.bool b) ∧ Below w.heap.size w w' := by
  have HM := Lib.hid hm
  have HK := Lib.hid hk
  clear hm hk
  go_enter Try.func29, Try.ntmps29
  go_wp2_with fail
  refine (may_is k n hi t _ true HM.out).mono ?_
  rintro e w1 ⟨rfl, hb1⟩
  obtain ⟨c0, c1, c2, c3, c4⟩ := (Boxed.new w k n hi t 24).below hb1
  by_cases h0 : k = 0
  · have e0 : (k == 0) = true := by simpa using h0
    have hb : b = true := by rw [← HK.out]; simp [h0]
    have HB := Lib.hid hb
    clear h0 hb
    go_wp2_with fail
    go_ret
    exact ⟨by rw [HB.out]; rfl, below_tr (Below.allocs _ _) hb1⟩
  · have e0 : (k == 0) = false := by simpa using h0
    by_cases h1 : k = kind
    · have e1 : (k == kind) = true := by simpa using h1
      have hb : b = true := by rw [← HK.out]; simp [h1]
      have HB := Lib.hid hb
      clear h0 hb h1
      go_wp2_with fail
      go_ret
      exact ⟨by rw [HB.out]; rfl, below_tr (Below.allocs _ _) hb1⟩
    · have e1 : (k == kind) = false := by simpa using h1
      have hb : b = false := by rw [← HK.out]; simp [h0, h1]
      have HB := Lib.hid hb
      clear h0 hb h1
      go_wp2_with fail
      go_ret
      exact ⟨by rw [HB.out]; rfl, below_tr (Below.allocs _ _) hb1⟩

theorem fits_is (k n hi : Int) (t : ByteArray) (kind : Int) (b : Bool) (hf : fitsB k n hi t.data.toList kind = b) (w : World) :
    Calls Try.prog 29 #[.agg #[.int .u8 k, .int .i64 n, .int .i64 hi, .string t], .int .u8 kind] w fun e w' => e = .returned (.bool b) ∧ Below w.heap.size w w' := by
  unfold fitsB at hf
  by_cases h : 1 ≤ kind ∧ kind ≤ 4
  · cases hm : mayB k n hi t.data.toList
    · rw [hm] at hf
      obtain rfl : b = false := by rw [← hf]; simp
      exact fits_bad k n hi t kind h.1 h.2 hm w
    · rw [hm] at hf
      refine fits_good k n hi t kind h.1 h.2 hm b ?_ w
      rw [← hf]
      simp [h]
  · obtain rfl : b = false := by rw [← hf]; simp [h]
    exact fits_out k n hi t kind (by omega) w


/-- May a value be? -/
def mayV (v : Val) : Bool := mayB v.k v.n v.u v.t.data.toList
theorem mayv_is (v : Val) (b : Bool) (h : mayV v = b) (w : World) : Calls Try.prog 48 #[.agg #[.int .u8 v.k, .int .i64 v.n, .int .i64 v.u, .string v.t]] w fun e w' => e = .returned (.bool b) ∧ Below w.heap.size w w' :=
  may_is v.k v.n v.u v.t w b h
end Go.Proofs.Ytkipnkbmpgjcoaa
