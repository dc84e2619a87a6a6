/-
  What value.Fits answers, as walks over this translation.
-/
import Derived.Test.YtoglaibcmfjclaaDoorVText
namespace Go.Proofs.YtoglaibcmfjclaaDoor
open Go.RowKit

def fitsB (k n hi : Int) (t : List UInt8) (kind : Int) : Bool := decide (1 ≤ kind ∧ kind ≤ 4) && (mayB k n hi t && (decide (k = 0) || decide (k = kind)))

set_option maxHeartbeats 400000 in
theorem fits_out (k n hi : Int) (t : ByteArray) (kind : Int) (h : kind < 1 ∨ 4 < kind) (w : World) :
    Calls Tryd.prog 28 #[.agg #[.int .u8 k, .int .i64 n, .int .i64 hi, .string t], .int .u8 kind] w fun e w' => e = .returned (.bool false) ∧ Below w.heap.size w w' := by
  rcases h with h | h
  · go_enter Tryd.func28, Tryd.ntmps28
    go_wp2_with fail
    go_ret
    exact ⟨rfl, Below.allocs _ _⟩
  · have h2 : ¬ kind < 1 := by omega
    go_enter Tryd.func28, Tryd.ntmps28
    go_wp2_with fail
    go_ret
    exact ⟨rfl, Below.allocs _ _⟩

set_option maxHeartbeats 400000 in
theorem fits_bad (k n hi : Int) (t : ByteArray) (kind : Int) (l1 : 1 ≤ kind) (l2 : kind ≤ 4) (hm : mayB k n hi t.data.toList = false) (w : World) :
    Calls Tryd.prog 28 #[.agg #[.int .u8 k, .int .i64 n, .int .i64 hi, .string t], .int .u8 kind] w fun e w' => e = .returned (.bool false) ∧ Below w.heap.size w w' := by
  have HM := Lib.hid hm
  clear hm
  go_enter Tryd.func28, Tryd.ntmps28
  go_wp2_with fail
  refine (may_is k n hi t _ false HM.out).mono ?_
  rintro e w1 ⟨rfl, hb1⟩
  go_wp2_with fail
  go_ret
  exact ⟨rfl, below_tr (Below.allocs _ _) hb1⟩

set_option maxHeartbeats 400000 in
theorem fits_good (k n hi : Int) (t : ByteArray) (kind : Int) (l1 : 1 ≤ kind) (l2 : kind ≤ 4) (hm : mayB k n hi t.data.toList = true) (b : Bool) (hk : (decide (k = 0) || decide (k = kind)) = b) (w : World) :
    Calls Tryd.prog 28 #[.agg #[.int .u8 k, .int .i64 n, .int .i64 hi, .string t], .int .u8 kind] w fun e w' => e = .returned (.bool b) ∧ Below w.heap.size w w' := by
  have HM := Lib.hid hm
  have HK := Lib.hid hk
  clear hm hk
  go_enter Tryd.func28, Tryd.ntmps28
  go_wp2_with fail
  refine (may_is k n hi t _ true HM.out).mono ?_
  rintro e w1 ⟨rfl, hb1⟩
  obtain ⟨c0, c1, c2, c3, c4⟩ := (Boxed.new w k n hi t 25).below hb1
  by_cases h0 : k = 0
  · have e0 : (k == 0) = true := by simpa using h0
    have hb : b = true := by rw [← HK.out]; simp [h0]
    have HB := Lib.hid hb
    clear h0 hb
    go_wp2_with fail
    go_ret
    exact ⟨by rw [HB.out]; rfl, below_tr (Below.allocs _ _) hb1⟩
  · have e0 : (k == 0) = false := by simpa using h0
    by_cases h1 : k = kind
    · have e1 : (k == kind) = true := by simpa using h1
      have hb : b = true := by rw [← HK.out]; simp [h1]
      have HB := Lib.hid hb
      clear h0 hb h1
      go_wp2_with fail
      go_ret
      exact ⟨by rw [HB.out]; rfl, below_tr (Below.allocs _ _) hb1⟩
    · have e1 : (k == kind) = false := by simpa using h1
      have hb : b = false := by rw [← HK.out]; simp [h0, h1]
      have HB := Lib.hid hb
      clear h0 hb h1
      go_wp2_with fail
      go_ret
      exact ⟨by rw [HB.out]; rfl, below_tr (Below.allocs _ _) hb1⟩

theorem fits_is (k n hi : Int) (t : ByteArray) (kind : Int) (b : Bool) (hf : fitsB k n hi t.data.toList kind = b) (w : World) :
    Calls Tryd.prog 28 #[.agg #[.int .u8 k, .int .i64 n, .int .i64 hi, .string t], .int .u8 kind] w fun e w' => e = .returned (.bool b) ∧ Below w.heap.size w w' := by
  unfold fitsB at hf
  by_cases h : 1 ≤ kind ∧ kind ≤ 4
  · cases hm : mayB k n hi t.data.toList
    · rw [hm] at hf
      obtain rfl : b = false := by rw [← hf]; simp
      exact fits_bad k n hi t kind h.1 h.2 hm w
    · rw [hm] at hf
      refine fits_good k n hi t kind h.1 h.2 hm b ?_ w
      rw [← hf]
      simp [h]
  · obtain rfl : b = false := by rw [← hf]; simp [h]
    exact fits_out k n hi t kind (by omega) w

end Go.Proofs.YtoglaibcmfjclaaDoor
