/-
  The document's own Not, And, Or, IsNull, Add, Sub, Equal and Less answer what package logic's do.
-/
import Derived.Test.YtmbjhahlbbhdaaaQRef
import Derived.Test.YtmbjhahlbbhdaaaQOrd
namespace Go.Proofs.Ytmbjhahlbbhdaaa
open Go.RowKit

set_option maxHeartbeats 4000000 in
theorem truth_0 (k n u : Int) (t : ByteArray) (h1 : (k == 2) = true) (w : World) :
    Calls Try.prog 42 #[.agg #[.int .u8 k, .int .i64 n, .int .i64 u, .string t]] w fun e w' => e = .returned (.bool true) ∧ Below w.heap.size w w' := by
  have hw0 := Below.refl w.heap.size w
  go_enter Try.func42, Try.ntmps42
  go_wp2_with fail
  have hn0 := Below.allocs w (.cells #[.int .u8 k, .int .i64 n, .int .i64 u, .string t] 23)
  have An := Boxed.new w k n u t 23
  have hw1 := below_tr hw0 hn0
  have A1 := An
  clear An hn0
  go_ret
  exact ⟨by simp, hw1⟩

set_option maxHeartbeats 4000000 in
theorem truth_1 (k n u : Int) (t : ByteArray) (h1 : (k == 2) = false) (h2 : (k == 0) = true) (w : World) :
    Calls Try.prog 42 #[.agg #[.int .u8 k, .int .i64 n, .int .i64 u, .string t]] w fun e w' => e = .returned (.bool true) ∧ Below w.heap.size w w' := by
  have hw0 := Below.refl w.heap.size w
  go_enter Try.func42, Try.ntmps42
  go_wp2_with fail
  have hn0 := Below.allocs w (.cells #[.int .u8 k, .int .i64 n, .int .i64 u, .string t] 23)
  have An := Boxed.new w k n u t 23
  have hw1 := below_tr hw0 hn0
  have A1 := An
  clear An hn0
  go_ret
  exact ⟨by simp, hw1⟩

set_option maxHeartbeats 4000000 in
theorem truth_2 (k n u : Int) (t : ByteArray) (h1 : (k == 2) = false) (h2 : (k == 0) = false) (w : World) :
    Calls Try.prog 42 #[.agg #[.int .u8 k, .int .i64 n, .int .i64 u, .string t]] w fun e w' => e = .returned (.bool false) ∧ Below w.heap.size w w' := by
  have hw0 := Below.refl w.heap.size w
  go_enter Try.func42, Try.ntmps42
  go_wp2_with fail
  have hn0 := Below.allocs w (.cells #[.int .u8 k, .int .i64 n, .int .i64 u, .string t] 23)
  have An := Boxed.new w k n u t 23
  have hw1 := below_tr hw0 hn0
  have A1 := An
  clear An hn0
  go_ret
  exact ⟨by simp, hw1⟩

theorem truth_is (k n u : Int) (t : ByteArray) (b : Bool) (h : fitB 2 k = b) (w : World) :
    Calls Try.prog 42 #[.agg #[.int .u8 k, .int .i64 n, .int .i64 u, .string t]] w fun e w' => e = .returned (.bool b) ∧ Below w.heap.size w w' := by
  subst h
  by_cases h1 : k = 2
  · rw [show fitB 2 k = true by simp [fitB, h1]]; exact truth_0 k n u t (by simpa using h1) w
  · by_cases h2 : k = 0
    · rw [show fitB 2 k = true by simp [fitB, h2]]; exact truth_1 k n u t (by simpa using h1) (by simpa using h2) w
    · rw [show fitB 2 k = false by simp [fitB, h1, h2]]; exact truth_2 k n u t (by simpa using h1) (by simpa using h2) w

set_option maxHeartbeats 4000000 in
theorem number_0 (k n u : Int) (t : ByteArray) (h1 : (k == 1) = true) (w : World) :
    Calls Try.prog 55 #[.agg #[.int .u8 k, .int .i64 n, .int .i64 u, .string t]] w fun e w' => e = .returned (.bool true) ∧ Below w.heap.size w w' := by
  have hw0 := Below.refl w.heap.size w
  go_enter Try.func55, Try.ntmps55
  go_wp2_with fail
  have hn0 := Below.allocs w (.cells #[.int .u8 k, .int .i64 n, .int .i64 u, .string t] 23)
  have An := Boxed.new w k n u t 23
  have hw1 := below_tr hw0 hn0
  have A1 := An
  clear An hn0
  go_ret
  exact ⟨by simp, hw1⟩

set_option maxHeartbeats 4000000 in
theorem number_1 (k n u : Int) (t : ByteArray) (h1 : (k == 1) = false) (h2 : (k == 0) = true) (w : World) :
    Calls Try.prog 55 #[.agg #[.int .u8 k, .int .i64 n, .int .i64 u, .string t]] w fun e w' => e = .returned (.bool true) ∧ Below w.heap.size w w' := by
  have hw0 := Below.refl w.heap.size w
  go_enter Try.func55, Try.ntmps55
  go_wp2_with fail
  have hn0 := Below.allocs w (.cells #[.int .u8 k, .int .i64 n, .int .i64 u, .string t] 23)
  have An := Boxed.new w k n u t 23
  have hw1 := below_tr hw0 hn0
  have A1 := An
  clear An hn0
  go_ret
  exact ⟨by simp, hw1⟩

set_option maxHeartbeats 4000000 in
theorem number_2 (k n u : Int) (t : ByteArray) (h1 : (k == 1) = false) (h2 : (k == 0) = false) (w : World) :
    Calls Try.prog 55 #[.agg #[.int .u8 k, .int .i64 n, .int .i64 u, .string t]] w fun e w' => e = .returned (.bool false) ∧ Below w.heap.size w w' := by
  have hw0 := Below.refl w.heap.size w
  go_enter Try.func55, Try.ntmps55
  go_wp2_with fail
  have hn0 := Below.allocs w (.cells #[.int .u8 k, .int .i64 n, .int .i64 u, .string t] 23)
  have An := Boxed.new w k n u t 23
  have hw1 := below_tr hw0 hn0
  have A1 := An
  clear An hn0
  go_ret
  exact ⟨by simp, hw1⟩

theorem number_is (k n u : Int) (t : ByteArray) (b : Bool) (h : fitB 1 k = b) (w : World) :
    Calls Try.prog 55 #[.agg #[.int .u8 k, .int .i64 n, .int .i64 u, .string t]] w fun e w' => e = .returned (.bool b) ∧ Below w.heap.size w w' := by
  subst h
  by_cases h1 : k = 1
  · rw [show fitB 1 k = true by simp [fitB, h1]]; exact number_0 k n u t (by simpa using h1) w
  · by_cases h2 : k = 0
    · rw [show fitB 1 k = true by simp [fitB, h2]]; exact number_1 k n u t (by simpa using h1) (by simpa using h2) w
    · rw [show fitB 1 k = false by simp [fitB, h1, h2]]; exact number_2 k n u t (by simpa using h1) (by simpa using h2) w

set_option maxHeartbeats 4000000 in
theorem rnull_true (k n u : Int) (t : ByteArray) (h1 : (k == 0) = true) (w : World) :
    Calls Try.prog 17 #[.agg #[.int .u8 k, .int .i64 n, .int .i64 u, .string t]] w fun e w' => e = .returned (.agg #[.int .u8 2, .int .i64 (ofN true), .int .i64 0, .string ⟨#[]⟩]) ∧ Below w.heap.size w w' := by
  have hw0 := Below.refl w.heap.size w
  go_enter Try.func17, Try.ntmps17
  go_wp2_with fail
  have hn0 := Below.allocs w (.cells #[.int .u8 k, .int .i64 n, .int .i64 u, .string t] 23)
  have An := Boxed.new w k n u t 23
  have hw1 := below_tr hw0 hn0
  have A1 := An
  clear An hn0
  have hn1 := Below.allocs (w.alloc (.cells #[.int .u8 k, .int .i64 n, .int .i64 u, .string t] 23)) (.cells #[.int .u8 0, .int .i64 0, .int .i64 0, .string ⟨#[]⟩] 23)
  have Rn := Boxed.new (w.alloc (.cells #[.int .u8 k, .int .i64 n, .int .i64 u, .string t] 23)) 0 0 0 ⟨#[]⟩ 23
  have SRn := Soft.new (w.alloc (.cells #[.int .u8 k, .int .i64 n, .int .i64 u, .string t] 23)) 0 0 0 ⟨#[]⟩ 23
  rw [show (w.alloc (.cells #[.int .u8 k, .int .i64 n, .int .i64 u, .string t] 23)).heap.size = w.heap.size + 1 by simp] at Rn SRn
  have A2 := A1.below hn1
  have hw2 := below_tr hw1 hn1
  clear A1
  have R2 := Rn
  clear Rn hn1
  have SR2 := SRn
  clear SRn
  refine (rof_is true _).mono ?_
  rintro e v1 ⟨rfl, hv1⟩
  have A3 := A2.below hv1
  have R3 := R2.below hv1
  have SR3 := SR2.below hv1
  have hw3 := below_tr hw2 hv1
  clear A2 R2 SR2
  clear hv1
  have r' := R3
  obtain ⟨r0, r1, r2, r3, r4⟩ := r'
  have sr' := SR3
  obtain ⟨s0, s1, s2, s3, s4⟩ := sr'
  go_wp2_with fail
  have hwz := below_put4 hw3 (by omega : w.heap.size ≤ w.heap.size + 1) 2 (ofN true) 0 ⟨#[]⟩
  obtain ⟨q0, q1, q2, q3, q4⟩ := boxed_put4 R3 2 (ofN true) 0 ⟨#[]⟩
  exact bodyPost_ret (w := put4 v1 (w.heap.size + 1) 2 (ofN true) 0 ⟨#[]⟩) (v := .agg #[.int .u8 2, .int .i64 (ofN true), .int .i64 0, .string ⟨#[]⟩]) (by simp [results, Try.results17, go_sem, q0, q1, q2, q3]) rfl ⟨rfl, hwz⟩

set_option maxHeartbeats 4000000 in
theorem rnull_false (k n u : Int) (t : ByteArray) (h1 : (k == 0) = false) (w : World) :
    Calls Try.prog 17 #[.agg #[.int .u8 k, .int .i64 n, .int .i64 u, .string t]] w fun e w' => e = .returned (.agg #[.int .u8 2, .int .i64 (ofN false), .int .i64 0, .string ⟨#[]⟩]) ∧ Below w.heap.size w w' := by
  have hw0 := Below.refl w.heap.size w
  go_enter Try.func17, Try.ntmps17
  go_wp2_with fail
  have hn0 := Below.allocs w (.cells #[.int .u8 k, .int .i64 n, .int .i64 u, .string t] 23)
  have An := Boxed.new w k n u t 23
  have hw1 := below_tr hw0 hn0
  have A1 := An
  clear An hn0
  have hn1 := Below.allocs (w.alloc (.cells #[.int .u8 k, .int .i64 n, .int .i64 u, .string t] 23)) (.cells #[.int .u8 0, .int .i64 0, .int .i64 0, .string ⟨#[]⟩] 23)
  have Rn := Boxed.new (w.alloc (.cells #[.int .u8 k, .int .i64 n, .int .i64 u, .string t] 23)) 0 0 0 ⟨#[]⟩ 23
  have SRn := Soft.new (w.alloc (.cells #[.int .u8 k, .int .i64 n, .int .i64 u, .string t] 23)) 0 0 0 ⟨#[]⟩ 23
  rw [show (w.alloc (.cells #[.int .u8 k, .int .i64 n, .int .i64 u, .string t] 23)).heap.size = w.heap.size + 1 by simp] at Rn SRn
  have A2 := A1.below hn1
  have hw2 := below_tr hw1 hn1
  clear A1
  have R2 := Rn
  clear Rn hn1
  have SR2 := SRn
  clear SRn
  refine (rof_is false _).mono ?_
  rintro e v1 ⟨rfl, hv1⟩
  have A3 := A2.below hv1
  have R3 := R2.below hv1
  have SR3 := SR2.below hv1
  have hw3 := below_tr hw2 hv1
  clear A2 R2 SR2
  clear hv1
  have r' := R3
  obtain ⟨r0, r1, r2, r3, r4⟩ := r'
  have sr' := SR3
  obtain ⟨s0, s1, s2, s3, s4⟩ := sr'
  go_wp2_with fail
  have hwz := below_put4 hw3 (by omega : w.heap.size ≤ w.heap.size + 1) 2 (ofN false) 0 ⟨#[]⟩
  obtain ⟨q0, q1, q2, q3, q4⟩ := boxed_put4 R3 2 (ofN false) 0 ⟨#[]⟩
  exact bodyPost_ret (w := put4 v1 (w.heap.size + 1) 2 (ofN false) 0 ⟨#[]⟩) (v := .agg #[.int .u8 2, .int .i64 (ofN false), .int .i64 0, .string ⟨#[]⟩]) (by simp [results, Try.results17, go_sem, q0, q1, q2, q3]) rfl ⟨rfl, hwz⟩

theorem risnull_is (k n hi : Int) (t : ByteArray) (b : Bool) (h : nullB k = b) (w : World) :
    Calls Try.prog 17 #[.agg #[.int .u8 k, .int .i64 n, .int .i64 hi, .string t]] w fun e w' => e = .returned (.agg #[.int .u8 2, .int .i64 (ofN b), .int .i64 0, .string ⟨#[]⟩]) ∧ Below w.heap.size w w' := by
  subst h
  by_cases h1 : k = 0
  · rw [show nullB k = true by simp [nullB, h1]]; exact rnull_true k n hi t (by simpa using h1) w
  · rw [show nullB k = false by simp [nullB, h1]]; exact rnull_false k n hi t (by simpa using h1) w

set_option maxHeartbeats 4000000 in
theorem rnot_0 (k n u : Int) (t : ByteArray) (f : fitB 2 k = false) (w : World) :
    Calls Try.prog 19 #[.agg #[.int .u8 k, .int .i64 n, .int .i64 u, .string t]] w fun e w' => e = .returned (.tuple #[.agg #[.int .u8 0, .int .i64 0, .int .i64 0, .string ⟨#[]⟩], .int .i64 60]) ∧ Below w.heap.size w w' := by
  have Hf := Lib.hid f
  clear f
  have hw0 := Below.refl w.heap.size w
  go_enter Try.func19, Try.ntmps19
  go_wp2_with fail
  have hn0 := Below.allocs w (.cells #[.int .u8 k, .int .i64 n, .int .i64 u, .string t] 23)
  have An := Boxed.new w k n u t 23
  have hw1 := below_tr hw0 hn0
  have A1 := An
  clear An hn0
  have hn1 := Below.allocs (w.alloc (.cells #[.int .u8 k, .int .i64 n, .int .i64 u, .string t] 23)) (.cells #[.int .u8 0, .int .i64 0, .int .i64 0, .string ⟨#[]⟩] 23)
  have Rn := Boxed.new (w.alloc (.cells #[.int .u8 k, .int .i64 n, .int .i64 u, .string t] 23)) 0 0 0 ⟨#[]⟩ 23
  have SRn := Soft.new (w.alloc (.cells #[.int .u8 k, .int .i64 n, .int .i64 u, .string t] 23)) 0 0 0 ⟨#[]⟩ 23
  rw [show (w.alloc (.cells #[.int .u8 k, .int .i64 n, .int .i64 u, .string t] 23)).heap.size = w.heap.size + 1 by simp] at Rn SRn
  have A2 := A1.below hn1
  have hw2 := below_tr hw1 hn1
  clear A1
  have R2 := Rn
  clear Rn hn1
  have SR2 := SRn
  clear SRn
  refine (truth_is k n u t false Hf.out _).mono ?_
  rintro e v1 ⟨rfl, hv1⟩
  have A3 := A2.below hv1
  have R3 := R2.below hv1
  have SR3 := SR2.below hv1
  have hw3 := below_tr hw2 hv1
  clear A2 R2 SR2
  clear hv1
  have a' := A3
  obtain ⟨a0, a1, a2, a3, a4⟩ := a'
  have r' := R3
  obtain ⟨r0, r1, r2, r3, r4⟩ := r'
  have sr' := SR3
  obtain ⟨s0, s1, s2, s3, s4⟩ := sr'
  go_wp2_with fail
  have hwz := below_put4 hw3 (by omega : w.heap.size ≤ w.heap.size + 1) 0 0 0 ⟨#[]⟩
  obtain ⟨q0, q1, q2, q3, q4⟩ := boxed_put4 R3 0 0 0 ⟨#[]⟩
  exact bodyPost_ret (w := put4 v1 (w.heap.size + 1) 0 0 0 ⟨#[]⟩) (v := .tuple #[.agg #[.int .u8 0, .int .i64 0, .int .i64 0, .string ⟨#[]⟩], .int .i64 60]) (by simp [results, Try.results19, go_sem, q0, q1, q2, q3]) rfl ⟨rfl, hwz⟩

set_option maxHeartbeats 4000000 in
theorem rnot_1 (k n u : Int) (t : ByteArray) (f : fitB 2 k = true) (h1 : (k == 0) = true) (w : World) :
    Calls Try.prog 19 #[.agg #[.int .u8 k, .int .i64 n, .int .i64 u, .string t]] w fun e w' => e = .returned (.tuple #[.agg #[.int .u8 0, .int .i64 0, .int .i64 0, .string ⟨#[]⟩], .int .i64 0]) ∧ Below w.heap.size w w' := by
  have Hf := Lib.hid f
  clear f
  have hw0 := Below.refl w.heap.size w
  go_enter Try.func19, Try.ntmps19
  go_wp2_with fail
  have hn0 := Below.allocs w (.cells #[.int .u8 k, .int .i64 n, .int .i64 u, .string t] 23)
  have An := Boxed.new w k n u t 23
  have hw1 := below_tr hw0 hn0
  have A1 := An
  clear An hn0
  have hn1 := Below.allocs (w.alloc (.cells #[.int .u8 k, .int .i64 n, .int .i64 u, .string t] 23)) (.cells #[.int .u8 0, .int .i64 0, .int .i64 0, .string ⟨#[]⟩] 23)
  have Rn := Boxed.new (w.alloc (.cells #[.int .u8 k, .int .i64 n, .int .i64 u, .string t] 23)) 0 0 0 ⟨#[]⟩ 23
  have SRn := Soft.new (w.alloc (.cells #[.int .u8 k, .int .i64 n, .int .i64 u, .string t] 23)) 0 0 0 ⟨#[]⟩ 23
  rw [show (w.alloc (.cells #[.int .u8 k, .int .i64 n, .int .i64 u, .string t] 23)).heap.size = w.heap.size + 1 by simp] at Rn SRn
  have A2 := A1.below hn1
  have hw2 := below_tr hw1 hn1
  clear A1
  have R2 := Rn
  clear Rn hn1
  have SR2 := SRn
  clear SRn
  refine (truth_is k n u t true Hf.out _).mono ?_
  rintro e v1 ⟨rfl, hv1⟩
  have A3 := A2.below hv1
  have R3 := R2.below hv1
  have SR3 := SR2.below hv1
  have hw3 := below_tr hw2 hv1
  clear A2 R2 SR2
  clear hv1
  have a' := A3
  obtain ⟨a0, a1, a2, a3, a4⟩ := a'
  have r' := R3
  obtain ⟨r0, r1, r2, r3, r4⟩ := r'
  have sr' := SR3
  obtain ⟨s0, s1, s2, s3, s4⟩ := sr'
  go_wp2_with fail
  have hwz := below_put4 hw3 (by omega : w.heap.size ≤ w.heap.size + 1) 0 0 0 ⟨#[]⟩
  obtain ⟨q0, q1, q2, q3, q4⟩ := boxed_put4 R3 0 0 0 ⟨#[]⟩
  exact bodyPost_ret (w := put4 v1 (w.heap.size + 1) 0 0 0 ⟨#[]⟩) (v := .tuple #[.agg #[.int .u8 0, .int .i64 0, .int .i64 0, .string ⟨#[]⟩], .int .i64 0]) (by simp [results, Try.results19, go_sem, q0, q1, q2, q3]) rfl ⟨rfl, hwz⟩

set_option maxHeartbeats 4000000 in
theorem rnot_2 (k n u : Int) (t : ByteArray) (f : fitB 2 k = true) (h1 : (k == 0) = false) (y : Bool) (hy : yesB k n = y) (w : World) :
    Calls Try.prog 19 #[.agg #[.int .u8 k, .int .i64 n, .int .i64 u, .string t]] w fun e w' => e = .returned (.tuple #[.agg #[.int .u8 2, .int .i64 (ofN (!y)), .int .i64 0, .string ⟨#[]⟩], .int .i64 0]) ∧ Below w.heap.size w w' := by
  have Hf := Lib.hid f
  clear f
  have Hhy := Lib.hid hy
  clear hy
  have hw0 := Below.refl w.heap.size w
  go_enter Try.func19, Try.ntmps19
  go_wp2_with fail
  have hn0 := Below.allocs w (.cells #[.int .u8 k, .int .i64 n, .int .i64 u, .string t] 23)
  have An := Boxed.new w k n u t 23
  have hw1 := below_tr hw0 hn0
  have A1 := An
  clear An hn0
  have hn1 := Below.allocs (w.alloc (.cells #[.int .u8 k, .int .i64 n, .int .i64 u, .string t] 23)) (.cells #[.int .u8 0, .int .i64 0, .int .i64 0, .string ⟨#[]⟩] 23)
  have Rn := Boxed.new (w.alloc (.cells #[.int .u8 k, .int .i64 n, .int .i64 u, .string t] 23)) 0 0 0 ⟨#[]⟩ 23
  have SRn := Soft.new (w.alloc (.cells #[.int .u8 k, .int .i64 n, .int .i64 u, .string t] 23)) 0 0 0 ⟨#[]⟩ 23
  rw [show (w.alloc (.cells #[.int .u8 k, .int .i64 n, .int .i64 u, .string t] 23)).heap.size = w.heap.size + 1 by simp] at Rn SRn
  have A2 := A1.below hn1
  have hw2 := below_tr hw1 hn1
  clear A1
  have R2 := Rn
  clear Rn hn1
  have SR2 := SRn
  clear SRn
  refine (truth_is k n u t true Hf.out _).mono ?_
  rintro e v1 ⟨rfl, hv1⟩
  have A3 := A2.below hv1
  have R3 := R2.below hv1
  have SR3 := SR2.below hv1
  have hw3 := below_tr hw2 hv1
  clear A2 R2 SR2
  clear hv1
  have a' := A3
  obtain ⟨a0, a1, a2, a3, a4⟩ := a'
  have r' := R3
  obtain ⟨r0, r1, r2, r3, r4⟩ := r'
  go_wp2_with fail
  clear a0 a1 a2 a3 a4 r0 r1 r2 r3 r4
  refine (ryes_is k n u t y Hhy.out _).mono ?_
  rintro e v2 ⟨rfl, hv2⟩
  have A4 := A3.below hv2
  have R4 := R3.below hv2
  have SR4 := SR3.below hv2
  have hw4 := below_tr hw3 hv2
  clear A3 R3 SR3
  clear hv2
  have a' := A4
  obtain ⟨a0, a1, a2, a3, a4⟩ := a'
  have r' := R4
  obtain ⟨r0, r1, r2, r3, r4⟩ := r'
  go_wp2_with fail
  clear a0 a1 a2 a3 a4 r0 r1 r2 r3 r4
  refine (rof_is (!y) _).mono ?_
  rintro e v3 ⟨rfl, hv3⟩
  have A5 := A4.below hv3
  have R5 := R4.below hv3
  have SR5 := SR4.below hv3
  have hw5 := below_tr hw4 hv3
  clear A4 R4 SR4
  clear hv3
  have a' := A5
  obtain ⟨a0, a1, a2, a3, a4⟩ := a'
  have r' := R5
  obtain ⟨r0, r1, r2, r3, r4⟩ := r'
  have sr' := SR5
  obtain ⟨s0, s1, s2, s3, s4⟩ := sr'
  go_wp2_with fail
  have hwz := below_put4 hw5 (by omega : w.heap.size ≤ w.heap.size + 1) 2 (ofN (!y)) 0 ⟨#[]⟩
  obtain ⟨q0, q1, q2, q3, q4⟩ := boxed_put4 R5 2 (ofN (!y)) 0 ⟨#[]⟩
  exact bodyPost_ret (w := put4 v3 (w.heap.size + 1) 2 (ofN (!y)) 0 ⟨#[]⟩) (v := .tuple #[.agg #[.int .u8 2, .int .i64 (ofN (!y)), .int .i64 0, .string ⟨#[]⟩], .int .i64 0]) (by simp [results, Try.results19, go_sem, q0, q1, q2, q3]) rfl ⟨rfl, hwz⟩

theorem rnot_is (k n u : Int) (t : ByteArray) (r : Res) (hr : notR k n = r) (w : World) :
    Calls Try.prog 19 #[.agg #[.int .u8 k, .int .i64 n, .int .i64 u, .string t]] w fun e w' => e = .returned (.tuple #[.agg #[.int .u8 r.k, .int .i64 r.n, .int .i64 0, .string ⟨#[]⟩], .int .i64 r.e]) ∧ Below w.heap.size w w' := by
  subst hr
  unfold notR
  cases hf : fitB 2 k
  · exact rnot_0 k n u t hf w
  · cases hz : nullB k
    · exact rnot_2 k n u t hf (by simpa [nullB] using hz) _ rfl w
    · exact rnot_1 k n u t hf (by simpa [nullB] using hz) w

set_option maxHeartbeats 4000000 in
theorem rand_0 (k n u : Int) (t : ByteArray) (k' n' u' : Int) (t' : ByteArray) (fa : fitB 2 k = false) (w : World) :
    Calls Try.prog 23 #[.agg #[.int .u8 k, .int .i64 n, .int .i64 u, .string t], .agg #[.int .u8 k', .int .i64 n', .int .i64 u', .string t']] w fun e w' => e = .returned (.tuple #[.agg #[.int .u8 0, .int .i64 0, .int .i64 0, .string ⟨#[]⟩], .int .i64 60]) ∧ Below w.heap.size w w' := by
  have Hfa := Lib.hid fa
  clear fa
  have hw0 := Below.refl w.heap.size w
  go_enter Try.func23, Try.ntmps23
  go_wp2_with fail
  have hn0 := Below.allocs w (.cells #[.int .u8 k, .int .i64 n, .int .i64 u, .string t] 23)
  have An := Boxed.new w k n u t 23
  have hw1 := below_tr hw0 hn0
  have A1 := An
  clear An hn0
  have hn1 := Below.allocs (w.alloc (.cells #[.int .u8 k, .int .i64 n, .int .i64 u, .string t] 23)) (.cells #[.int .u8 k', .int .i64 n', .int .i64 u', .string t'] 23)
  have Bn := Boxed.new (w.alloc (.cells #[.int .u8 k, .int .i64 n, .int .i64 u, .string t] 23)) k' n' u' t' 23
  rw [show (w.alloc (.cells #[.int .u8 k, .int .i64 n, .int .i64 u, .string t] 23)).heap.size = w.heap.size + 1 by simp] at Bn
  have A2 := A1.below hn1
  have hw2 := below_tr hw1 hn1
  clear A1
  have B2 := Bn
  clear Bn hn1
  have hn2 := Below.allocs ((w.alloc (.cells #[.int .u8 k, .int .i64 n, .int .i64 u, .string t] 23)).alloc (.cells #[.int .u8 k', .int .i64 n', .int .i64 u', .string t'] 23)) (.cells #[.int .u8 0, .int .i64 0, .int .i64 0, .string ⟨#[]⟩] 23)
  have Rn := Boxed.new ((w.alloc (.cells #[.int .u8 k, .int .i64 n, .int .i64 u, .string t] 23)).alloc (.cells #[.int .u8 k', .int .i64 n', .int .i64 u', .string t'] 23)) 0 0 0 ⟨#[]⟩ 23
  have SRn := Soft.new ((w.alloc (.cells #[.int .u8 k, .int .i64 n, .int .i64 u, .string t] 23)).alloc (.cells #[.int .u8 k', .int .i64 n', .int .i64 u', .string t'] 23)) 0 0 0 ⟨#[]⟩ 23
  rw [show ((w.alloc (.cells #[.int .u8 k, .int .i64 n, .int .i64 u, .string t] 23)).alloc (.cells #[.int .u8 k', .int .i64 n', .int .i64 u', .string t'] 23)).heap.size = w.heap.size + 1 + 1 by simp] at Rn SRn
  have A3 := A2.below hn2
  have B3 := B2.below hn2
  have hw3 := below_tr hw2 hn2
  clear A2 B2
  have R3 := Rn
  clear Rn hn2
  have SR3 := SRn
  clear SRn
  refine (truth_is k n u t false Hfa.out _).mono ?_
  rintro e v1 ⟨rfl, hv1⟩
  have A4 := A3.below hv1
  have B4 := B3.below hv1
  have R4 := R3.below hv1
  have SR4 := SR3.below hv1
  have hw4 := below_tr hw3 hv1
  clear A3 B3 R3 SR3
  clear hv1
  have a' := A4
  obtain ⟨a0, a1, a2, a3, a4⟩ := a'
  have b' := B4
  obtain ⟨b0, b1, b2, b3, b4⟩ := b'
  have r' := R4
  obtain ⟨r0, r1, r2, r3, r4⟩ := r'
  have sr' := SR4
  obtain ⟨s0, s1, s2, s3, s4⟩ := sr'
  go_wp2_with fail
  have hwz := below_put4 hw4 (by omega : w.heap.size ≤ w.heap.size + 1 + 1) 0 0 0 ⟨#[]⟩
  obtain ⟨q0, q1, q2, q3, q4⟩ := boxed_put4 R4 0 0 0 ⟨#[]⟩
  exact bodyPost_ret (w := put4 v1 (w.heap.size + 1 + 1) 0 0 0 ⟨#[]⟩) (v := .tuple #[.agg #[.int .u8 0, .int .i64 0, .int .i64 0, .string ⟨#[]⟩], .int .i64 60]) (by simp [results, Try.results23, go_sem, q0, q1, q2, q3]) rfl ⟨rfl, hwz⟩

set_option maxHeartbeats 4000000 in
theorem rand_1 (k n u : Int) (t : ByteArray) (k' n' u' : Int) (t' : ByteArray) (fa : fitB 2 k = true) (fb : fitB 2 k' = false) (w : World) :
    Calls Try.prog 23 #[.agg #[.int .u8 k, .int .i64 n, .int .i64 u, .string t], .agg #[.int .u8 k', .int .i64 n', .int .i64 u', .string t']] w fun e w' => e = .returned (.tuple #[.agg #[.int .u8 0, .int .i64 0, .int .i64 0, .string ⟨#[]⟩], .int .i64 60]) ∧ Below w.heap.size w w' := by
  have Hfa := Lib.hid fa
  clear fa
  have Hfb := Lib.hid fb
  clear fb
  have hw0 := Below.refl w.heap.size w
  go_enter Try.func23, Try.ntmps23
  go_wp2_with fail
  have hn0 := Below.allocs w (.cells #[.int .u8 k, .int .i64 n, .int .i64 u, .string t] 23)
  have An := Boxed.new w k n u t 23
  have hw1 := below_tr hw0 hn0
  have A1 := An
  clear An hn0
  have hn1 := Below.allocs (w.alloc (.cells #[.int .u8 k, .int .i64 n, .int .i64 u, .string t] 23)) (.cells #[.int .u8 k', .int .i64 n', .int .i64 u', .string t'] 23)
  have Bn := Boxed.new (w.alloc (.cells #[.int .u8 k, .int .i64 n, .int .i64 u, .string t] 23)) k' n' u' t' 23
  rw [show (w.alloc (.cells #[.int .u8 k, .int .i64 n, .int .i64 u, .string t] 23)).heap.size = w.heap.size + 1 by simp] at Bn
  have A2 := A1.below hn1
  have hw2 := below_tr hw1 hn1
  clear A1
  have B2 := Bn
  clear Bn hn1
  have hn2 := Below.allocs ((w.alloc (.cells #[.int .u8 k, .int .i64 n, .int .i64 u, .string t] 23)).alloc (.cells #[.int .u8 k', .int .i64 n', .int .i64 u', .string t'] 23)) (.cells #[.int .u8 0, .int .i64 0, .int .i64 0, .string ⟨#[]⟩] 23)
  have Rn := Boxed.new ((w.alloc (.cells #[.int .u8 k, .int .i64 n, .int .i64 u, .string t] 23)).alloc (.cells #[.int .u8 k', .int .i64 n', .int .i64 u', .string t'] 23)) 0 0 0 ⟨#[]⟩ 23
  have SRn := Soft.new ((w.alloc (.cells #[.int .u8 k, .int .i64 n, .int .i64 u, .string t] 23)).alloc (.cells #[.int .u8 k', .int .i64 n', .int .i64 u', .string t'] 23)) 0 0 0 ⟨#[]⟩ 23
  rw [show ((w.alloc (.cells #[.int .u8 k, .int .i64 n, .int .i64 u, .string t] 23)).alloc (.cells #[.int .u8 k', .int .i64 n', .int .i64 u', .string t'] 23)).heap.size = w.heap.size + 1 + 1 by simp] at Rn SRn
  have A3 := A2.below hn2
  have B3 := B2.below hn2
  have hw3 := below_tr hw2 hn2
  clear A2 B2
  have R3 := Rn
  clear Rn hn2
  have SR3 := SRn
  clear SRn
  refine (truth_is k n u t true Hfa.out _).mono ?_
  rintro e v1 ⟨rfl, hv1⟩
  have A4 := A3.below hv1
  have B4 := B3.below hv1
  have R4 := R3.below hv1
  have SR4 := SR3.below hv1
  have hw4 := below_tr hw3 hv1
  clear A3 B3 R3 SR3
  clear hv1
  have a' := A4
  obtain ⟨a0, a1, a2, a3, a4⟩ := a'
  have b' := B4
  obtain ⟨b0, b1, b2, b3, b4⟩ := b'
  have r' := R4
  obtain ⟨r0, r1, r2, r3, r4⟩ := r'
  go_wp2_with fail
  clear a0 a1 a2 a3 a4 b0 b1 b2 b3 b4 r0 r1 r2 r3 r4
  refine (truth_is k' n' u' t' false Hfb.out _).mono ?_
  rintro e v2 ⟨rfl, hv2⟩
  have A5 := A4.below hv2
  have B5 := B4.below hv2
  have R5 := R4.below hv2
  have SR5 := SR4.below hv2
  have hw5 := below_tr hw4 hv2
  clear A4 B4 R4 SR4
  clear hv2
  have a' := A5
  obtain ⟨a0, a1, a2, a3, a4⟩ := a'
  have b' := B5
  obtain ⟨b0, b1, b2, b3, b4⟩ := b'
  have r' := R5
  obtain ⟨r0, r1, r2, r3, r4⟩ := r'
  have sr' := SR5
  obtain ⟨s0, s1, s2, s3, s4⟩ := sr'
  go_wp2_with fail
  have hwz := below_put4 hw5 (by omega : w.heap.size ≤ w.heap.size + 1 + 1) 0 0 0 ⟨#[]⟩
  obtain ⟨q0, q1, q2, q3, q4⟩ := boxed_put4 R5 0 0 0 ⟨#[]⟩
  exact bodyPost_ret (w := put4 v2 (w.heap.size + 1 + 1) 0 0 0 ⟨#[]⟩) (v := .tuple #[.agg #[.int .u8 0, .int .i64 0, .int .i64 0, .string ⟨#[]⟩], .int .i64 60]) (by simp [results, Try.results23, go_sem, q0, q1, q2, q3]) rfl ⟨rfl, hwz⟩

set_option maxHeartbeats 4000000 in
theorem rand_2 (k n u : Int) (t : ByteArray) (k' n' u' : Int) (t' : ByteArray) (fa : fitB 2 k = true) (fb : fitB 2 k' = true) (k2a : (k == 2) = true) (ya : yesB k n = false) (w : World) :
    Calls Try.prog 23 #[.agg #[.int .u8 k, .int .i64 n, .int .i64 u, .string t], .agg #[.int .u8 k', .int .i64 n', .int .i64 u', .string t']] w fun e w' => e = .returned (.tuple #[.agg #[.int .u8 2, .int .i64 (ofN false), .int .i64 0, .string ⟨#[]⟩], .int .i64 0]) ∧ Below w.heap.size w w' := by
  have Hfa := Lib.hid fa
  clear fa
  have Hfb := Lib.hid fb
  clear fb
  have Hya := Lib.hid ya
  clear ya
  have hw0 := Below.refl w.heap.size w
  go_enter Try.func23, Try.ntmps23
  go_wp2_with fail
  have hn0 := Below.allocs w (.cells #[.int .u8 k, .int .i64 n, .int .i64 u, .string t] 23)
  have An := Boxed.new w k n u t 23
  have hw1 := below_tr hw0 hn0
  have A1 := An
  clear An hn0
  have hn1 := Below.allocs (w.alloc (.cells #[.int .u8 k, .int .i64 n, .int .i64 u, .string t] 23)) (.cells #[.int .u8 k', .int .i64 n', .int .i64 u', .string t'] 23)
  have Bn := Boxed.new (w.alloc (.cells #[.int .u8 k, .int .i64 n, .int .i64 u, .string t] 23)) k' n' u' t' 23
  rw [show (w.alloc (.cells #[.int .u8 k, .int .i64 n, .int .i64 u, .string t] 23)).heap.size = w.heap.size + 1 by simp] at Bn
  have A2 := A1.below hn1
  have hw2 := below_tr hw1 hn1
  clear A1
  have B2 := Bn
  clear Bn hn1
  have hn2 := Below.allocs ((w.alloc (.cells #[.int .u8 k, .int .i64 n, .int .i64 u, .string t] 23)).alloc (.cells #[.int .u8 k', .int .i64 n', .int .i64 u', .string t'] 23)) (.cells #[.int .u8 0, .int .i64 0, .int .i64 0, .string ⟨#[]⟩] 23)
  have Rn := Boxed.new ((w.alloc (.cells #[.int .u8 k, .int .i64 n, .int .i64 u, .string t] 23)).alloc (.cells #[.int .u8 k', .int .i64 n', .int .i64 u', .string t'] 23)) 0 0 0 ⟨#[]⟩ 23
  have SRn := Soft.new ((w.alloc (.cells #[.int .u8 k, .int .i64 n, .int .i64 u, .string t] 23)).alloc (.cells #[.int .u8 k', .int .i64 n', .int .i64 u', .string t'] 23)) 0 0 0 ⟨#[]⟩ 23
  rw [show ((w.alloc (.cells #[.int .u8 k, .int .i64 n, .int .i64 u, .string t] 23)).alloc (.cells #[.int .u8 k', .int .i64 n', .int .i64 u', .string t'] 23)).heap.size = w.heap.size + 1 + 1 by simp] at Rn SRn
  have A3 := A2.below hn2
  have B3 := B2.below hn2
  have hw3 := below_tr hw2 hn2
  clear A2 B2
  have R3 := Rn
  clear Rn hn2
  have SR3 := SRn
  clear SRn
  refine (truth_is k n u t true Hfa.out _).mono ?_
  rintro e v1 ⟨rfl, hv1⟩
  have A4 := A3.below hv1
  have B4 := B3.below hv1
  have R4 := R3.below hv1
  have SR4 := SR3.below hv1
  have hw4 := below_tr hw3 hv1
  clear A3 B3 R3 SR3
  clear hv1
  have a' := A4
  obtain ⟨a0, a1, a2, a3, a4⟩ := a'
  have b' := B4
  obtain ⟨b0, b1, b2, b3, b4⟩ := b'
  have r' := R4
  obtain ⟨r0, r1, r2, r3, r4⟩ := r'
  go_wp2_with fail
  clear a0 a1 a2 a3 a4 b0 b1 b2 b3 b4 r0 r1 r2 r3 r4
  refine (truth_is k' n' u' t' true Hfb.out _).mono ?_
  rintro e v2 ⟨rfl, hv2⟩
  have A5 := A4.below hv2
  have B5 := B4.below hv2
  have R5 := R4.below hv2
  have SR5 := SR4.below hv2
  have hw5 := below_tr hw4 hv2
  clear A4 B4 R4 SR4
  clear hv2
  have a' := A5
  obtain ⟨a0, a1, a2, a3, a4⟩ := a'
  have b' := B5
  obtain ⟨b0, b1, b2, b3, b4⟩ := b'
  have r' := R5
  obtain ⟨r0, r1, r2, r3, r4⟩ := r'
  go_wp2_with fail
  clear a0 a1 a2 a3 a4 b0 b1 b2 b3 b4 r0 r1 r2 r3 r4
  refine (ryes_is k n u t false Hya.out _).mono ?_
  rintro e v3 ⟨rfl, hv3⟩
  have A6 := A5.below hv3
  have B6 := B5.below hv3
  have R6 := R5.below hv3
  have SR6 := SR5.below hv3
  have hw6 := below_tr hw5 hv3
  clear A5 B5 R5 SR5
  clear hv3
  have a' := A6
  obtain ⟨a0, a1, a2, a3, a4⟩ := a'
  have b' := B6
  obtain ⟨b0, b1, b2, b3, b4⟩ := b'
  have r' := R6
  obtain ⟨r0, r1, r2, r3, r4⟩ := r'
  go_wp2_with fail
  clear a0 a1 a2 a3 a4 b0 b1 b2 b3 b4 r0 r1 r2 r3 r4
  refine (rof_is false _).mono ?_
  rintro e v4 ⟨rfl, hv4⟩
  have A7 := A6.below hv4
  have B7 := B6.below hv4
  have R7 := R6.below hv4
  have SR7 := SR6.below hv4
  have hw7 := below_tr hw6 hv4
  clear A6 B6 R6 SR6
  clear hv4
  have a' := A7
  obtain ⟨a0, a1, a2, a3, a4⟩ := a'
  have b' := B7
  obtain ⟨b0, b1, b2, b3, b4⟩ := b'
  have r' := R7
  obtain ⟨r0, r1, r2, r3, r4⟩ := r'
  have sr' := SR7
  obtain ⟨s0, s1, s2, s3, s4⟩ := sr'
  go_wp2_with fail
  have hwz := below_put4 hw7 (by omega : w.heap.size ≤ w.heap.size + 1 + 1) 2 (ofN false) 0 ⟨#[]⟩
  obtain ⟨q0, q1, q2, q3, q4⟩ := boxed_put4 R7 2 (ofN false) 0 ⟨#[]⟩
  exact bodyPost_ret (w := put4 v4 (w.heap.size + 1 + 1) 2 (ofN false) 0 ⟨#[]⟩) (v := .tuple #[.agg #[.int .u8 2, .int .i64 (ofN false), .int .i64 0, .string ⟨#[]⟩], .int .i64 0]) (by simp [results, Try.results23, go_sem, q0, q1, q2, q3]) rfl ⟨rfl, hwz⟩

set_option maxHeartbeats 4000000 in
theorem rand_3 (k n u : Int) (t : ByteArray) (k' n' u' : Int) (t' : ByteArray) (fa : fitB 2 k = true) (fb : fitB 2 k' = true) (k2a : (k == 2) = true) (ya : yesB k n = true) (k2b : (k' == 2) = true) (yb : yesB k' n' = false) (w : World) :
    Calls Try.prog 23 #[.agg #[.int .u8 k, .int .i64 n, .int .i64 u, .string t], .agg #[.int .u8 k', .int .i64 n', .int .i64 u', .string t']] w fun e w' => e = .returned (.tuple #[.agg #[.int .u8 2, .int .i64 (ofN false), .int .i64 0, .string ⟨#[]⟩], .int .i64 0]) ∧ Below w.heap.size w w' := by
  have Hfa := Lib.hid fa
  clear fa
  have Hfb := Lib.hid fb
  clear fb
  have Hya := Lib.hid ya
  clear ya
  have Hyb := Lib.hid yb
  clear yb
  have hw0 := Below.refl w.heap.size w
  go_enter Try.func23, Try.ntmps23
  go_wp2_with fail
  have hn0 := Below.allocs w (.cells #[.int .u8 k, .int .i64 n, .int .i64 u, .string t] 23)
  have An := Boxed.new w k n u t 23
  have hw1 := below_tr hw0 hn0
  have A1 := An
  clear An hn0
  have hn1 := Below.allocs (w.alloc (.cells #[.int .u8 k, .int .i64 n, .int .i64 u, .string t] 23)) (.cells #[.int .u8 k', .int .i64 n', .int .i64 u', .string t'] 23)
  have Bn := Boxed.new (w.alloc (.cells #[.int .u8 k, .int .i64 n, .int .i64 u, .string t] 23)) k' n' u' t' 23
  rw [show (w.alloc (.cells #[.int .u8 k, .int .i64 n, .int .i64 u, .string t] 23)).heap.size = w.heap.size + 1 by simp] at Bn
  have A2 := A1.below hn1
  have hw2 := below_tr hw1 hn1
  clear A1
  have B2 := Bn
  clear Bn hn1
  have hn2 := Below.allocs ((w.alloc (.cells #[.int .u8 k, .int .i64 n, .int .i64 u, .string t] 23)).alloc (.cells #[.int .u8 k', .int .i64 n', .int .i64 u', .string t'] 23)) (.cells #[.int .u8 0, .int .i64 0, .int .i64 0, .string ⟨#[]⟩] 23)
  have Rn := Boxed.new ((w.alloc (.cells #[.int .u8 k, .int .i64 n, .int .i64 u, .string t] 23)).alloc (.cells #[.int .u8 k', .int .i64 n', .int .i64 u', .string t'] 23)) 0 0 0 ⟨#[]⟩ 23
  have SRn := Soft.new ((w.alloc (.cells #[.int .u8 k, .int .i64 n, .int .i64 u, .string t] 23)).alloc (.cells #[.int .u8 k', .int .i64 n', .int .i64 u', .string t'] 23)) 0 0 0 ⟨#[]⟩ 23
  rw [show ((w.alloc (.cells #[.int .u8 k, .int .i64 n, .int .i64 u, .string t] 23)).alloc (.cells #[.int .u8 k', .int .i64 n', .int .i64 u', .string t'] 23)).heap.size = w.heap.size + 1 + 1 by simp] at Rn SRn
  have A3 := A2.below hn2
  have B3 := B2.below hn2
  have hw3 := below_tr hw2 hn2
  clear A2 B2
  have R3 := Rn
  clear Rn hn2
  have SR3 := SRn
  clear SRn
  refine (truth_is k n u t true Hfa.out _).mono ?_
  rintro e v1 ⟨rfl, hv1⟩
  have A4 := A3.below hv1
  have B4 := B3.below hv1
  have R4 := R3.below hv1
  have SR4 := SR3.below hv1
  have hw4 := below_tr hw3 hv1
  clear A3 B3 R3 SR3
  clear hv1
  have a' := A4
  obtain ⟨a0, a1, a2, a3, a4⟩ := a'
  have b' := B4
  obtain ⟨b0, b1, b2, b3, b4⟩ := b'
  have r' := R4
  obtain ⟨r0, r1, r2, r3, r4⟩ := r'
  go_wp2_with fail
  clear a0 a1 a2 a3 a4 b0 b1 b2 b3 b4 r0 r1 r2 r3 r4
  refine (truth_is k' n' u' t' true Hfb.out _).mono ?_
  rintro e v2 ⟨rfl, hv2⟩
  have A5 := A4.below hv2
  have B5 := B4.below hv2
  have R5 := R4.below hv2
  have SR5 := SR4.below hv2
  have hw5 := below_tr hw4 hv2
  clear A4 B4 R4 SR4
  clear hv2
  have a' := A5
  obtain ⟨a0, a1, a2, a3, a4⟩ := a'
  have b' := B5
  obtain ⟨b0, b1, b2, b3, b4⟩ := b'
  have r' := R5
  obtain ⟨r0, r1, r2, r3, r4⟩ := r'
  go_wp2_with fail
  clear a0 a1 a2 a3 a4 b0 b1 b2 b3 b4 r0 r1 r2 r3 r4
  refine (ryes_is k n u t true Hya.out _).mono ?_
  rintro e v3 ⟨rfl, hv3⟩
  have A6 := A5.below hv3
  have B6 := B5.below hv3
  have R6 := R5.below hv3
  have SR6 := SR5.below hv3
  have hw6 := below_tr hw5 hv3
  clear A5 B5 R5 SR5
  clear hv3
  have a' := A6
  obtain ⟨a0, a1, a2, a3, a4⟩ := a'
  have b' := B6
  obtain ⟨b0, b1, b2, b3, b4⟩ := b'
  have r' := R6
  obtain ⟨r0, r1, r2, r3, r4⟩ := r'
  go_wp2_with fail
  clear a0 a1 a2 a3 a4 b0 b1 b2 b3 b4 r0 r1 r2 r3 r4
  refine (ryes_is k' n' u' t' false Hyb.out _).mono ?_
  rintro e v4 ⟨rfl, hv4⟩
  have A7 := A6.below hv4
  have B7 := B6.below hv4
  have R7 := R6.below hv4
  have SR7 := SR6.below hv4
  have hw7 := below_tr hw6 hv4
  clear A6 B6 R6 SR6
  clear hv4
  have a' := A7
  obtain ⟨a0, a1, a2, a3, a4⟩ := a'
  have b' := B7
  obtain ⟨b0, b1, b2, b3, b4⟩ := b'
  have r' := R7
  obtain ⟨r0, r1, r2, r3, r4⟩ := r'
  go_wp2_with fail
  clear a0 a1 a2 a3 a4 b0 b1 b2 b3 b4 r0 r1 r2 r3 r4
  refine (rof_is false _).mono ?_
  rintro e v5 ⟨rfl, hv5⟩
  have A8 := A7.below hv5
  have B8 := B7.below hv5
  have R8 := R7.below hv5
  have SR8 := SR7.below hv5
  have hw8 := below_tr hw7 hv5
  clear A7 B7 R7 SR7
  clear hv5
  have a' := A8
  obtain ⟨a0, a1, a2, a3, a4⟩ := a'
  have b' := B8
  obtain ⟨b0, b1, b2, b3, b4⟩ := b'
  have r' := R8
  obtain ⟨r0, r1, r2, r3, r4⟩ := r'
  have sr' := SR8
  obtain ⟨s0, s1, s2, s3, s4⟩ := sr'
  go_wp2_with fail
  have hwz := below_put4 hw8 (by omega : w.heap.size ≤ w.heap.size + 1 + 1) 2 (ofN false) 0 ⟨#[]⟩
  obtain ⟨q0, q1, q2, q3, q4⟩ := boxed_put4 R8 2 (ofN false) 0 ⟨#[]⟩
  exact bodyPost_ret (w := put4 v5 (w.heap.size + 1 + 1) 2 (ofN false) 0 ⟨#[]⟩) (v := .tuple #[.agg #[.int .u8 2, .int .i64 (ofN false), .int .i64 0, .string ⟨#[]⟩], .int .i64 0]) (by simp [results, Try.results23, go_sem, q0, q1, q2, q3]) rfl ⟨rfl, hwz⟩

set_option maxHeartbeats 4000000 in
theorem rand_4 (k n u : Int) (t : ByteArray) (k' n' u' : Int) (t' : ByteArray) (fa : fitB 2 k = true) (fb : fitB 2 k' = true) (k2a : (k == 2) = false) (k2b : (k' == 2) = true) (yb : yesB k' n' = false) (w : World) :
    Calls Try.prog 23 #[.agg #[.int .u8 k, .int .i64 n, .int .i64 u, .string t], .agg #[.int .u8 k', .int .i64 n', .int .i64 u', .string t']] w fun e w' => e = .returned (.tuple #[.agg #[.int .u8 2, .int .i64 (ofN false), .int .i64 0, .string ⟨#[]⟩], .int .i64 0]) ∧ Below w.heap.size w w' := by
  have Hfa := Lib.hid fa
  clear fa
  have Hfb := Lib.hid fb
  clear fb
  have Hyb := Lib.hid yb
  clear yb
  have hw0 := Below.refl w.heap.size w
  go_enter Try.func23, Try.ntmps23
  go_wp2_with fail
  have hn0 := Below.allocs w (.cells #[.int .u8 k, .int .i64 n, .int .i64 u, .string t] 23)
  have An := Boxed.new w k n u t 23
  have hw1 := below_tr hw0 hn0
  have A1 := An
  clear An hn0
  have hn1 := Below.allocs (w.alloc (.cells #[.int .u8 k, .int .i64 n, .int .i64 u, .string t] 23)) (.cells #[.int .u8 k', .int .i64 n', .int .i64 u', .string t'] 23)
  have Bn := Boxed.new (w.alloc (.cells #[.int .u8 k, .int .i64 n, .int .i64 u, .string t] 23)) k' n' u' t' 23
  rw [show (w.alloc (.cells #[.int .u8 k, .int .i64 n, .int .i64 u, .string t] 23)).heap.size = w.heap.size + 1 by simp] at Bn
  have A2 := A1.below hn1
  have hw2 := below_tr hw1 hn1
  clear A1
  have B2 := Bn
  clear Bn hn1
  have hn2 := Below.allocs ((w.alloc (.cells #[.int .u8 k, .int .i64 n, .int .i64 u, .string t] 23)).alloc (.cells #[.int .u8 k', .int .i64 n', .int .i64 u', .string t'] 23)) (.cells #[.int .u8 0, .int .i64 0, .int .i64 0, .string ⟨#[]⟩] 23)
  have Rn := Boxed.new ((w.alloc (.cells #[.int .u8 k, .int .i64 n, .int .i64 u, .string t] 23)).alloc (.cells #[.int .u8 k', .int .i64 n', .int .i64 u', .string t'] 23)) 0 0 0 ⟨#[]⟩ 23
  have SRn := Soft.new ((w.alloc (.cells #[.int .u8 k, .int .i64 n, .int .i64 u, .string t] 23)).alloc (.cells #[.int .u8 k', .int .i64 n', .int .i64 u', .string t'] 23)) 0 0 0 ⟨#[]⟩ 23
  rw [show ((w.alloc (.cells #[.int .u8 k, .int .i64 n, .int .i64 u, .string t] 23)).alloc (.cells #[.int .u8 k', .int .i64 n', .int .i64 u', .string t'] 23)).heap.size = w.heap.size + 1 + 1 by simp] at Rn SRn
  have A3 := A2.below hn2
  have B3 := B2.below hn2
  have hw3 := below_tr hw2 hn2
  clear A2 B2
  have R3 := Rn
  clear Rn hn2
  have SR3 := SRn
  clear SRn
  refine (truth_is k n u t true Hfa.out _).mono ?_
  rintro e v1 ⟨rfl, hv1⟩
  have A4 := A3.below hv1
  have B4 := B3.below hv1
  have R4 := R3.below hv1
  have SR4 := SR3.below hv1
  have hw4 := below_tr hw3 hv1
  clear A3 B3 R3 SR3
  clear hv1
  have a' := A4
  obtain ⟨a0, a1, a2, a3, a4⟩ := a'
  have b' := B4
  obtain ⟨b0, b1, b2, b3, b4⟩ := b'
  have r' := R4
  obtain ⟨r0, r1, r2, r3, r4⟩ := r'
  go_wp2_with fail
  clear a0 a1 a2 a3 a4 b0 b1 b2 b3 b4 r0 r1 r2 r3 r4
  refine (truth_is k' n' u' t' true Hfb.out _).mono ?_
  rintro e v2 ⟨rfl, hv2⟩
  have A5 := A4.below hv2
  have B5 := B4.below hv2
  have R5 := R4.below hv2
  have SR5 := SR4.below hv2
  have hw5 := below_tr hw4 hv2
  clear A4 B4 R4 SR4
  clear hv2
  have a' := A5
  obtain ⟨a0, a1, a2, a3, a4⟩ := a'
  have b' := B5
  obtain ⟨b0, b1, b2, b3, b4⟩ := b'
  have r' := R5
  obtain ⟨r0, r1, r2, r3, r4⟩ := r'
  go_wp2_with fail
  clear a0 a1 a2 a3 a4 b0 b1 b2 b3 b4 r0 r1 r2 r3 r4
  refine (ryes_is k' n' u' t' false Hyb.out _).mono ?_
  rintro e v3 ⟨rfl, hv3⟩
  have A6 := A5.below hv3
  have B6 := B5.below hv3
  have R6 := R5.below hv3
  have SR6 := SR5.below hv3
  have hw6 := below_tr hw5 hv3
  clear A5 B5 R5 SR5
  clear hv3
  have a' := A6
  obtain ⟨a0, a1, a2, a3, a4⟩ := a'
  have b' := B6
  obtain ⟨b0, b1, b2, b3, b4⟩ := b'
  have r' := R6
  obtain ⟨r0, r1, r2, r3, r4⟩ := r'
  go_wp2_with fail
  clear a0 a1 a2 a3 a4 b0 b1 b2 b3 b4 r0 r1 r2 r3 r4
  refine (rof_is false _).mono ?_
  rintro e v4 ⟨rfl, hv4⟩
  have A7 := A6.below hv4
  have B7 := B6.below hv4
  have R7 := R6.below hv4
  have SR7 := SR6.below hv4
  have hw7 := below_tr hw6 hv4
  clear A6 B6 R6 SR6
  clear hv4
  have a' := A7
  obtain ⟨a0, a1, a2, a3, a4⟩ := a'
  have b' := B7
  obtain ⟨b0, b1, b2, b3, b4⟩ := b'
  have r' := R7
  obtain ⟨r0, r1, r2, r3, r4⟩ := r'
  have sr' := SR7
  obtain ⟨s0, s1, s2, s3, s4⟩ := sr'
  go_wp2_with fail
  have hwz := below_put4 hw7 (by omega : w.heap.size ≤ w.heap.size + 1 + 1) 2 (ofN false) 0 ⟨#[]⟩
  obtain ⟨q0, q1, q2, q3, q4⟩ := boxed_put4 R7 2 (ofN false) 0 ⟨#[]⟩
  exact bodyPost_ret (w := put4 v4 (w.heap.size + 1 + 1) 2 (ofN false) 0 ⟨#[]⟩) (v := .tuple #[.agg #[.int .u8 2, .int .i64 (ofN false), .int .i64 0, .string ⟨#[]⟩], .int .i64 0]) (by simp [results, Try.results23, go_sem, q0, q1, q2, q3]) rfl ⟨rfl, hwz⟩

set_option maxHeartbeats 4000000 in
theorem rand_5 (k n u : Int) (t : ByteArray) (k' n' u' : Int) (t' : ByteArray) (fa : fitB 2 k = true) (fb : fitB 2 k' = true) (k2a : (k == 2) = true) (ya : yesB k n = true) (k2b : (k' == 2) = true) (yb : yesB k' n' = true) (k0a : (k == 0) = false) (k0b : (k' == 0) = false) (w : World) :
    Calls Try.prog 23 #[.agg #[.int .u8 k, .int .i64 n, .int .i64 u, .string t], .agg #[.int .u8 k', .int .i64 n', .int .i64 u', .string t']] w fun e w' => e = .returned (.tuple #[.agg #[.int .u8 2, .int .i64 (ofN true), .int .i64 0, .string ⟨#[]⟩], .int .i64 0]) ∧ Below w.heap.size w w' := by
  have Hfa := Lib.hid fa
  clear fa
  have Hfb := Lib.hid fb
  clear fb
  have Hya := Lib.hid ya
  clear ya
  have Hyb := Lib.hid yb
  clear yb
  have hw0 := Below.refl w.heap.size w
  go_enter Try.func23, Try.ntmps23
  go_wp2_with fail
  have hn0 := Below.allocs w (.cells #[.int .u8 k, .int .i64 n, .int .i64 u, .string t] 23)
  have An := Boxed.new w k n u t 23
  have hw1 := below_tr hw0 hn0
  have A1 := An
  clear An hn0
  have hn1 := Below.allocs (w.alloc (.cells #[.int .u8 k, .int .i64 n, .int .i64 u, .string t] 23)) (.cells #[.int .u8 k', .int .i64 n', .int .i64 u', .string t'] 23)
  have Bn := Boxed.new (w.alloc (.cells #[.int .u8 k, .int .i64 n, .int .i64 u, .string t] 23)) k' n' u' t' 23
  rw [show (w.alloc (.cells #[.int .u8 k, .int .i64 n, .int .i64 u, .string t] 23)).heap.size = w.heap.size + 1 by simp] at Bn
  have A2 := A1.below hn1
  have hw2 := below_tr hw1 hn1
  clear A1
  have B2 := Bn
  clear Bn hn1
  have hn2 := Below.allocs ((w.alloc (.cells #[.int .u8 k, .int .i64 n, .int .i64 u, .string t] 23)).alloc (.cells #[.int .u8 k', .int .i64 n', .int .i64 u', .string t'] 23)) (.cells #[.int .u8 0, .int .i64 0, .int .i64 0, .string ⟨#[]⟩] 23)
  have Rn := Boxed.new ((w.alloc (.cells #[.int .u8 k, .int .i64 n, .int .i64 u, .string t] 23)).alloc (.cells #[.int .u8 k', .int .i64 n', .int .i64 u', .string t'] 23)) 0 0 0 ⟨#[]⟩ 23
  have SRn := Soft.new ((w.alloc (.cells #[.int .u8 k, .int .i64 n, .int .i64 u, .string t] 23)).alloc (.cells #[.int .u8 k', .int .i64 n', .int .i64 u', .string t'] 23)) 0 0 0 ⟨#[]⟩ 23
  rw [show ((w.alloc (.cells #[.int .u8 k, .int .i64 n, .int .i64 u, .string t] 23)).alloc (.cells #[.int .u8 k', .int .i64 n', .int .i64 u', .string t'] 23)).heap.size = w.heap.size + 1 + 1 by simp] at Rn SRn
  have A3 := A2.below hn2
  have B3 := B2.below hn2
  have hw3 := below_tr hw2 hn2
  clear A2 B2
  have R3 := Rn
  clear Rn hn2
  have SR3 := SRn
  clear SRn
  refine (truth_is k n u t true Hfa.out _).mono ?_
  rintro e v1 ⟨rfl, hv1⟩
  have A4 := A3.below hv1
  have B4 := B3.below hv1
  have R4 := R3.below hv1
  have SR4 := SR3.below hv1
  have hw4 := below_tr hw3 hv1
  clear A3 B3 R3 SR3
  clear hv1
  have a' := A4
  obtain ⟨a0, a1, a2, a3, a4⟩ := a'
  have b' := B4
  obtain ⟨b0, b1, b2, b3, b4⟩ := b'
  have r' := R4
  obtain ⟨r0, r1, r2, r3, r4⟩ := r'
  go_wp2_with fail
  clear a0 a1 a2 a3 a4 b0 b1 b2 b3 b4 r0 r1 r2 r3 r4
  refine (truth_is k' n' u' t' true Hfb.out _).mono ?_
  rintro e v2 ⟨rfl, hv2⟩
  have A5 := A4.below hv2
  have B5 := B4.below hv2
  have R5 := R4.below hv2
  have SR5 := SR4.below hv2
  have hw5 := below_tr hw4 hv2
  clear A4 B4 R4 SR4
  clear hv2
  have a' := A5
  obtain ⟨a0, a1, a2, a3, a4⟩ := a'
  have b' := B5
  obtain ⟨b0, b1, b2, b3, b4⟩ := b'
  have r' := R5
  obtain ⟨r0, r1, r2, r3, r4⟩ := r'
  go_wp2_with fail
  clear a0 a1 a2 a3 a4 b0 b1 b2 b3 b4 r0 r1 r2 r3 r4
  refine (ryes_is k n u t true Hya.out _).mono ?_
  rintro e v3 ⟨rfl, hv3⟩
  have A6 := A5.below hv3
  have B6 := B5.below hv3
  have R6 := R5.below hv3
  have SR6 := SR5.below hv3
  have hw6 := below_tr hw5 hv3
  clear A5 B5 R5 SR5
  clear hv3
  have a' := A6
  obtain ⟨a0, a1, a2, a3, a4⟩ := a'
  have b' := B6
  obtain ⟨b0, b1, b2, b3, b4⟩ := b'
  have r' := R6
  obtain ⟨r0, r1, r2, r3, r4⟩ := r'
  go_wp2_with fail
  clear a0 a1 a2 a3 a4 b0 b1 b2 b3 b4 r0 r1 r2 r3 r4
  refine (ryes_is k' n' u' t' true Hyb.out _).mono ?_
  rintro e v4 ⟨rfl, hv4⟩
  have A7 := A6.below hv4
  have B7 := B6.below hv4
  have R7 := R6.below hv4
  have SR7 := SR6.below hv4
  have hw7 := below_tr hw6 hv4
  clear A6 B6 R6 SR6
  clear hv4
  have a' := A7
  obtain ⟨a0, a1, a2, a3, a4⟩ := a'
  have b' := B7
  obtain ⟨b0, b1, b2, b3, b4⟩ := b'
  have r' := R7
  obtain ⟨r0, r1, r2, r3, r4⟩ := r'
  go_wp2_with fail
  clear a0 a1 a2 a3 a4 b0 b1 b2 b3 b4 r0 r1 r2 r3 r4
  refine (rof_is true _).mono ?_
  rintro e v5 ⟨rfl, hv5⟩
  have A8 := A7.below hv5
  have B8 := B7.below hv5
  have R8 := R7.below hv5
  have SR8 := SR7.below hv5
  have hw8 := below_tr hw7 hv5
  clear A7 B7 R7 SR7
  clear hv5
  have a' := A8
  obtain ⟨a0, a1, a2, a3, a4⟩ := a'
  have b' := B8
  obtain ⟨b0, b1, b2, b3, b4⟩ := b'
  have r' := R8
  obtain ⟨r0, r1, r2, r3, r4⟩ := r'
  have sr' := SR8
  obtain ⟨s0, s1, s2, s3, s4⟩ := sr'
  go_wp2_with fail
  have hwz := below_put4 hw8 (by omega : w.heap.size ≤ w.heap.size + 1 + 1) 2 (ofN true) 0 ⟨#[]⟩
  obtain ⟨q0, q1, q2, q3, q4⟩ := boxed_put4 R8 2 (ofN true) 0 ⟨#[]⟩
  exact bodyPost_ret (w := put4 v5 (w.heap.size + 1 + 1) 2 (ofN true) 0 ⟨#[]⟩) (v := .tuple #[.agg #[.int .u8 2, .int .i64 (ofN true), .int .i64 0, .string ⟨#[]⟩], .int .i64 0]) (by simp [results, Try.results23, go_sem, q0, q1, q2, q3]) rfl ⟨rfl, hwz⟩

set_option maxHeartbeats 4000000 in
theorem rand_6 (k n u : Int) (t : ByteArray) (k' n' u' : Int) (t' : ByteArray) (fa : fitB 2 k = true) (fb : fitB 2 k' = true) (k2a : (k == 2) = true) (ya : yesB k n = true) (k2b : (k' == 2) = false) (k0a : (k == 0) = false) (k0b : (k' == 0) = true) (w : World) :
    Calls Try.prog 23 #[.agg #[.int .u8 k, .int .i64 n, .int .i64 u, .string t], .agg #[.int .u8 k', .int .i64 n', .int .i64 u', .string t']] w fun e w' => e = .returned (.tuple #[.agg #[.int .u8 0, .int .i64 0, .int .i64 0, .string ⟨#[]⟩], .int .i64 0]) ∧ Below w.heap.size w w' := by
  have Hfa := Lib.hid fa
  clear fa
  have Hfb := Lib.hid fb
  clear fb
  have Hya := Lib.hid ya
  clear ya
  have hw0 := Below.refl w.heap.size w
  go_enter Try.func23, Try.ntmps23
  go_wp2_with fail
  have hn0 := Below.allocs w (.cells #[.int .u8 k, .int .i64 n, .int .i64 u, .string t] 23)
  have An := Boxed.new w k n u t 23
  have hw1 := below_tr hw0 hn0
  have A1 := An
  clear An hn0
  have hn1 := Below.allocs (w.alloc (.cells #[.int .u8 k, .int .i64 n, .int .i64 u, .string t] 23)) (.cells #[.int .u8 k', .int .i64 n', .int .i64 u', .string t'] 23)
  have Bn := Boxed.new (w.alloc (.cells #[.int .u8 k, .int .i64 n, .int .i64 u, .string t] 23)) k' n' u' t' 23
  rw [show (w.alloc (.cells #[.int .u8 k, .int .i64 n, .int .i64 u, .string t] 23)).heap.size = w.heap.size + 1 by simp] at Bn
  have A2 := A1.below hn1
  have hw2 := below_tr hw1 hn1
  clear A1
  have B2 := Bn
  clear Bn hn1
  have hn2 := Below.allocs ((w.alloc (.cells #[.int .u8 k, .int .i64 n, .int .i64 u, .string t] 23)).alloc (.cells #[.int .u8 k', .int .i64 n', .int .i64 u', .string t'] 23)) (.cells #[.int .u8 0, .int .i64 0, .int .i64 0, .string ⟨#[]⟩] 23)
  have Rn := Boxed.new ((w.alloc (.cells #[.int .u8 k, .int .i64 n, .int .i64 u, .string t] 23)).alloc (.cells #[.int .u8 k', .int .i64 n', .int .i64 u', .string t'] 23)) 0 0 0 ⟨#[]⟩ 23
  have SRn := Soft.new ((w.alloc (.cells #[.int .u8 k, .int .i64 n, .int .i64 u, .string t] 23)).alloc (.cells #[.int .u8 k', .int .i64 n', .int .i64 u', .string t'] 23)) 0 0 0 ⟨#[]⟩ 23
  rw [show ((w.alloc (.cells #[.int .u8 k, .int .i64 n, .int .i64 u, .string t] 23)).alloc (.cells #[.int .u8 k', .int .i64 n', .int .i64 u', .string t'] 23)).heap.size = w.heap.size + 1 + 1 by simp] at Rn SRn
  have A3 := A2.below hn2
  have B3 := B2.below hn2
  have hw3 := below_tr hw2 hn2
  clear A2 B2
  have R3 := Rn
  clear Rn hn2
  have SR3 := SRn
  clear SRn
  refine (truth_is k n u t true Hfa.out _).mono ?_
  rintro e v1 ⟨rfl, hv1⟩
  have A4 := A3.below hv1
  have B4 := B3.below hv1
  have R4 := R3.below hv1
  have SR4 := SR3.below hv1
  have hw4 := below_tr hw3 hv1
  clear A3 B3 R3 SR3
  clear hv1
  have a' := A4
  obtain ⟨a0, a1, a2, a3, a4⟩ := a'
  have b' := B4
  obtain ⟨b0, b1, b2, b3, b4⟩ := b'
  have r' := R4
  obtain ⟨r0, r1, r2, r3, r4⟩ := r'
  go_wp2_with fail
  clear a0 a1 a2 a3 a4 b0 b1 b2 b3 b4 r0 r1 r2 r3 r4
  refine (truth_is k' n' u' t' true Hfb.out _).mono ?_
  rintro e v2 ⟨rfl, hv2⟩
  have A5 := A4.below hv2
  have B5 := B4.below hv2
  have R5 := R4.below hv2
  have SR5 := SR4.below hv2
  have hw5 := below_tr hw4 hv2
  clear A4 B4 R4 SR4
  clear hv2
  have a' := A5
  obtain ⟨a0, a1, a2, a3, a4⟩ := a'
  have b' := B5
  obtain ⟨b0, b1, b2, b3, b4⟩ := b'
  have r' := R5
  obtain ⟨r0, r1, r2, r3, r4⟩ := r'
  go_wp2_with fail
  clear a0 a1 a2 a3 a4 b0 b1 b2 b3 b4 r0 r1 r2 r3 r4
  refine (ryes_is k n u t true Hya.out _).mono ?_
  rintro e v3 ⟨rfl, hv3⟩
  have A6 := A5.below hv3
  have B6 := B5.below hv3
  have R6 := R5.below hv3
  have SR6 := SR5.below hv3
  have hw6 := below_tr hw5 hv3
  clear A5 B5 R5 SR5
  clear hv3
  have a' := A6
  obtain ⟨a0, a1, a2, a3, a4⟩ := a'
  have b' := B6
  obtain ⟨b0, b1, b2, b3, b4⟩ := b'
  have r' := R6
  obtain ⟨r0, r1, r2, r3, r4⟩ := r'
  have sr' := SR6
  obtain ⟨s0, s1, s2, s3, s4⟩ := sr'
  go_wp2_with fail
  have hwz := below_put4 hw6 (by omega : w.heap.size ≤ w.heap.size + 1 + 1) 0 0 0 ⟨#[]⟩
  obtain ⟨q0, q1, q2, q3, q4⟩ := boxed_put4 R6 0 0 0 ⟨#[]⟩
  exact bodyPost_ret (w := put4 v3 (w.heap.size + 1 + 1) 0 0 0 ⟨#[]⟩) (v := .tuple #[.agg #[.int .u8 0, .int .i64 0, .int .i64 0, .string ⟨#[]⟩], .int .i64 0]) (by simp [results, Try.results23, go_sem, q0, q1, q2, q3]) rfl ⟨rfl, hwz⟩

set_option maxHeartbeats 4000000 in
theorem rand_7 (k n u : Int) (t : ByteArray) (k' n' u' : Int) (t' : ByteArray) (fa : fitB 2 k = true) (fb : fitB 2 k' = true) (k2a : (k == 2) = false) (k2b : (k' == 2) = true) (yb : yesB k' n' = true) (k0a : (k == 0) = true) (w : World) :
    Calls Try.prog 23 #[.agg #[.int .u8 k, .int .i64 n, .int .i64 u, .string t], .agg #[.int .u8 k', .int .i64 n', .int .i64 u', .string t']] w fun e w' => e = .returned (.tuple #[.agg #[.int .u8 0, .int .i64 0, .int .i64 0, .string ⟨#[]⟩], .int .i64 0]) ∧ Below w.heap.size w w' := by
  have Hfa := Lib.hid fa
  clear fa
  have Hfb := Lib.hid fb
  clear fb
  have Hyb := Lib.hid yb
  clear yb
  have hw0 := Below.refl w.heap.size w
  go_enter Try.func23, Try.ntmps23
  go_wp2_with fail
  have hn0 := Below.allocs w (.cells #[.int .u8 k, .int .i64 n, .int .i64 u, .string t] 23)
  have An := Boxed.new w k n u t 23
  have hw1 := below_tr hw0 hn0
  have A1 := An
  clear An hn0
  have hn1 := Below.allocs (w.alloc (.cells #[.int .u8 k, .int .i64 n, .int .i64 u, .string t] 23)) (.cells #[.int .u8 k', .int .i64 n', .int .i64 u', .string t'] 23)
  have Bn := Boxed.new (w.alloc (.cells #[.int .u8 k, .int .i64 n, .int .i64 u, .string t] 23)) k' n' u' t' 23
  rw [show (w.alloc (.cells #[.int .u8 k, .int .i64 n, .int .i64 u, .string t] 23)).heap.size = w.heap.size + 1 by simp] at Bn
  have A2 := A1.below hn1
  have hw2 := below_tr hw1 hn1
  clear A1
  have B2 := Bn
  clear Bn hn1
  have hn2 := Below.allocs ((w.alloc (.cells #[.int .u8 k, .int .i64 n, .int .i64 u, .string t] 23)).alloc (.cells #[.int .u8 k', .int .i64 n', .int .i64 u', .string t'] 23)) (.cells #[.int .u8 0, .int .i64 0, .int .i64 0, .string ⟨#[]⟩] 23)
  have Rn := Boxed.new ((w.alloc (.cells #[.int .u8 k, .int .i64 n, .int .i64 u, .string t] 23)).alloc (.cells #[.int .u8 k', .int .i64 n', .int .i64 u', .string t'] 23)) 0 0 0 ⟨#[]⟩ 23
  have SRn := Soft.new ((w.alloc (.cells #[.int .u8 k, .int .i64 n, .int .i64 u, .string t] 23)).alloc (.cells #[.int .u8 k', .int .i64 n', .int .i64 u', .string t'] 23)) 0 0 0 ⟨#[]⟩ 23
  rw [show ((w.alloc (.cells #[.int .u8 k, .int .i64 n, .int .i64 u, .string t] 23)).alloc (.cells #[.int .u8 k', .int .i64 n', .int .i64 u', .string t'] 23)).heap.size = w.heap.size + 1 + 1 by simp] at Rn SRn
  have A3 := A2.below hn2
  have B3 := B2.below hn2
  have hw3 := below_tr hw2 hn2
  clear A2 B2
  have R3 := Rn
  clear Rn hn2
  have SR3 := SRn
  clear SRn
  refine (truth_is k n u t true Hfa.out _).mono ?_
  rintro e v1 ⟨rfl, hv1⟩
  have A4 := A3.below hv1
  have B4 := B3.below hv1
  have R4 := R3.below hv1
  have SR4 := SR3.below hv1
  have hw4 := below_tr hw3 hv1
  clear A3 B3 R3 SR3
  clear hv1
  have a' := A4
  obtain ⟨a0, a1, a2, a3, a4⟩ := a'
  have b' := B4
  obtain ⟨b0, b1, b2, b3, b4⟩ := b'
  have r' := R4
  obtain ⟨r0, r1, r2, r3, r4⟩ := r'
  go_wp2_with fail
  clear a0 a1 a2 a3 a4 b0 b1 b2 b3 b4 r0 r1 r2 r3 r4
  refine (truth_is k' n' u' t' true Hfb.out _).mono ?_
  rintro e v2 ⟨rfl, hv2⟩
  have A5 := A4.below hv2
  have B5 := B4.below hv2
  have R5 := R4.below hv2
  have SR5 := SR4.below hv2
  have hw5 := below_tr hw4 hv2
  clear A4 B4 R4 SR4
  clear hv2
  have a' := A5
  obtain ⟨a0, a1, a2, a3, a4⟩ := a'
  have b' := B5
  obtain ⟨b0, b1, b2, b3, b4⟩ := b'
  have r' := R5
  obtain ⟨r0, r1, r2, r3, r4⟩ := r'
  go_wp2_with fail
  clear a0 a1 a2 a3 a4 b0 b1 b2 b3 b4 r0 r1 r2 r3 r4
  refine (ryes_is k' n' u' t' true Hyb.out _).mono ?_
  rintro e v3 ⟨rfl, hv3⟩
  have A6 := A5.below hv3
  have B6 := B5.below hv3
  have R6 := R5.below hv3
  have SR6 := SR5.below hv3
  have hw6 := below_tr hw5 hv3
  clear A5 B5 R5 SR5
  clear hv3
  have a' := A6
  obtain ⟨a0, a1, a2, a3, a4⟩ := a'
  have b' := B6
  obtain ⟨b0, b1, b2, b3, b4⟩ := b'
  have r' := R6
  obtain ⟨r0, r1, r2, r3, r4⟩ := r'
  have sr' := SR6
  obtain ⟨s0, s1, s2, s3, s4⟩ := sr'
  go_wp2_with fail
  have hwz := below_put4 hw6 (by omega : w.heap.size ≤ w.heap.size + 1 + 1) 0 0 0 ⟨#[]⟩
  obtain ⟨q0, q1, q2, q3, q4⟩ := boxed_put4 R6 0 0 0 ⟨#[]⟩
  exact bodyPost_ret (w := put4 v3 (w.heap.size + 1 + 1) 0 0 0 ⟨#[]⟩) (v := .tuple #[.agg #[.int .u8 0, .int .i64 0, .int .i64 0, .string ⟨#[]⟩], .int .i64 0]) (by simp [results, Try.results23, go_sem, q0, q1, q2, q3]) rfl ⟨rfl, hwz⟩

set_option maxHeartbeats 4000000 in
theorem rand_8 (k n u : Int) (t : ByteArray) (k' n' u' : Int) (t' : ByteArray) (fa : fitB 2 k = true) (fb : fitB 2 k' = true) (k2a : (k == 2) = false) (k2b : (k' == 2) = false) (k0a : (k == 0) = true) (w : World) :
    Calls Try.prog 23 #[.agg #[.int .u8 k, .int .i64 n, .int .i64 u, .string t], .agg #[.int .u8 k', .int .i64 n', .int .i64 u', .string t']] w fun e w' => e = .returned (.tuple #[.agg #[.int .u8 0, .int .i64 0, .int .i64 0, .string ⟨#[]⟩], .int .i64 0]) ∧ Below w.heap.size w w' := by
  have Hfa := Lib.hid fa
  clear fa
  have Hfb := Lib.hid fb
  clear fb
  have hw0 := Below.refl w.heap.size w
  go_enter Try.func23, Try.ntmps23
  go_wp2_with fail
  have hn0 := Below.allocs w (.cells #[.int .u8 k, .int .i64 n, .int .i64 u, .string t] 23)
  have An := Boxed.new w k n u t 23
  have hw1 := below_tr hw0 hn0
  have A1 := An
  clear An hn0
  have hn1 := Below.allocs (w.alloc (.cells #[.int .u8 k, .int .i64 n, .int .i64 u, .string t] 23)) (.cells #[.int .u8 k', .int .i64 n', .int .i64 u', .string t'] 23)
  have Bn := Boxed.new (w.alloc (.cells #[.int .u8 k, .int .i64 n, .int .i64 u, .string t] 23)) k' n' u' t' 23
  rw [show (w.alloc (.cells #[.int .u8 k, .int .i64 n, .int .i64 u, .string t] 23)).heap.size = w.heap.size + 1 by simp] at Bn
  have A2 := A1.below hn1
  have hw2 := below_tr hw1 hn1
  clear A1
  have B2 := Bn
  clear Bn hn1
  have hn2 := Below.allocs ((w.alloc (.cells #[.int .u8 k, .int .i64 n, .int .i64 u, .string t] 23)).alloc (.cells #[.int .u8 k', .int .i64 n', .int .i64 u', .string t'] 23)) (.cells #[.int .u8 0, .int .i64 0, .int .i64 0, .string ⟨#[]⟩] 23)
  have Rn := Boxed.new ((w.alloc (.cells #[.int .u8 k, .int .i64 n, .int .i64 u, .string t] 23)).alloc (.cells #[.int .u8 k', .int .i64 n', .int .i64 u', .string t'] 23)) 0 0 0 ⟨#[]⟩ 23
  have SRn := Soft.new ((w.alloc (.cells #[.int .u8 k, .int .i64 n, .int .i64 u, .string t] 23)).alloc (.cells #[.int .u8 k', .int .i64 n', .int .i64 u', .string t'] 23)) 0 0 0 ⟨#[]⟩ 23
  rw [show ((w.alloc (.cells #[.int .u8 k, .int .i64 n, .int .i64 u, .string t] 23)).alloc (.cells #[.int .u8 k', .int .i64 n', .int .i64 u', .string t'] 23)).heap.size = w.heap.size + 1 + 1 by simp] at Rn SRn
  have A3 := A2.below hn2
  have B3 := B2.below hn2
  have hw3 := below_tr hw2 hn2
  clear A2 B2
  have R3 := Rn
  clear Rn hn2
  have SR3 := SRn
  clear SRn
  refine (truth_is k n u t true Hfa.out _).mono ?_
  rintro e v1 ⟨rfl, hv1⟩
  have A4 := A3.below hv1
  have B4 := B3.below hv1
  have R4 := R3.below hv1
  have SR4 := SR3.below hv1
  have hw4 := below_tr hw3 hv1
  clear A3 B3 R3 SR3
  clear hv1
  have a' := A4
  obtain ⟨a0, a1, a2, a3, a4⟩ := a'
  have b' := B4
  obtain ⟨b0, b1, b2, b3, b4⟩ := b'
  have r' := R4
  obtain ⟨r0, r1, r2, r3, r4⟩ := r'
  go_wp2_with fail
  clear a0 a1 a2 a3 a4 b0 b1 b2 b3 b4 r0 r1 r2 r3 r4
  refine (truth_is k' n' u' t' true Hfb.out _).mono ?_
  rintro e v2 ⟨rfl, hv2⟩
  have A5 := A4.below hv2
  have B5 := B4.below hv2
  have R5 := R4.below hv2
  have SR5 := SR4.below hv2
  have hw5 := below_tr hw4 hv2
  clear A4 B4 R4 SR4
  clear hv2
  have a' := A5
  obtain ⟨a0, a1, a2, a3, a4⟩ := a'
  have b' := B5
  obtain ⟨b0, b1, b2, b3, b4⟩ := b'
  have r' := R5
  obtain ⟨r0, r1, r2, r3, r4⟩ := r'
  have sr' := SR5
  obtain ⟨s0, s1, s2, s3, s4⟩ := sr'
  go_wp2_with fail
  have hwz := below_put4 hw5 (by omega : w.heap.size ≤ w.heap.size + 1 + 1) 0 0 0 ⟨#[]⟩
  obtain ⟨q0, q1, q2, q3, q4⟩ := boxed_put4 R5 0 0 0 ⟨#[]⟩
  exact bodyPost_ret (w := put4 v2 (w.heap.size + 1 + 1) 0 0 0 ⟨#[]⟩) (v := .tuple #[.agg #[.int .u8 0, .int .i64 0, .int .i64 0, .string ⟨#[]⟩], .int .i64 0]) (by simp [results, Try.results23, go_sem, q0, q1, q2, q3]) rfl ⟨rfl, hwz⟩

set_option maxHeartbeats 4000000 in
theorem ror_0 (k n u : Int) (t : ByteArray) (k' n' u' : Int) (t' : ByteArray) (fa : fitB 2 k = false) (w : World) :
    Calls Try.prog 25 #[.agg #[.int .u8 k, .int .i64 n, .int .i64 u, .string t], .agg #[.int .u8 k', .int .i64 n', .int .i64 u', .string t']] w fun e w' => e = .returned (.tuple #[.agg #[.int .u8 0, .int .i64 0, .int .i64 0, .string ⟨#[]⟩], .int .i64 60]) ∧ Below w.heap.size w w' := by
  have Hfa := Lib.hid fa
  clear fa
  have hw0 := Below.refl w.heap.size w
  go_enter Try.func25, Try.ntmps25
  go_wp2_with fail
  have hn0 := Below.allocs w (.cells #[.int .u8 k, .int .i64 n, .int .i64 u, .string t] 23)
  have An := Boxed.new w k n u t 23
  have hw1 := below_tr hw0 hn0
  have A1 := An
  clear An hn0
  have hn1 := Below.allocs (w.alloc (.cells #[.int .u8 k, .int .i64 n, .int .i64 u, .string t] 23)) (.cells #[.int .u8 k', .int .i64 n', .int .i64 u', .string t'] 23)
  have Bn := Boxed.new (w.alloc (.cells #[.int .u8 k, .int .i64 n, .int .i64 u, .string t] 23)) k' n' u' t' 23
  rw [show (w.alloc (.cells #[.int .u8 k, .int .i64 n, .int .i64 u, .string t] 23)).heap.size = w.heap.size + 1 by simp] at Bn
  have A2 := A1.below hn1
  have hw2 := below_tr hw1 hn1
  clear A1
  have B2 := Bn
  clear Bn hn1
  have hn2 := Below.allocs ((w.alloc (.cells #[.int .u8 k, .int .i64 n, .int .i64 u, .string t] 23)).alloc (.cells #[.int .u8 k', .int .i64 n', .int .i64 u', .string t'] 23)) (.cells #[.int .u8 0, .int .i64 0, .int .i64 0, .string ⟨#[]⟩] 23)
  have Rn := Boxed.new ((w.alloc (.cells #[.int .u8 k, .int .i64 n, .int .i64 u, .string t] 23)).alloc (.cells #[.int .u8 k', .int .i64 n', .int .i64 u', .string t'] 23)) 0 0 0 ⟨#[]⟩ 23
  have SRn := Soft.new ((w.alloc (.cells #[.int .u8 k, .int .i64 n, .int .i64 u, .string t] 23)).alloc (.cells #[.int .u8 k', .int .i64 n', .int .i64 u', .string t'] 23)) 0 0 0 ⟨#[]⟩ 23
  rw [show ((w.alloc (.cells #[.int .u8 k, .int .i64 n, .int .i64 u, .string t] 23)).alloc (.cells #[.int .u8 k', .int .i64 n', .int .i64 u', .string t'] 23)).heap.size = w.heap.size + 1 + 1 by simp] at Rn SRn
  have A3 := A2.below hn2
  have B3 := B2.below hn2
  have hw3 := below_tr hw2 hn2
  clear A2 B2
  have R3 := Rn
  clear Rn hn2
  have SR3 := SRn
  clear SRn
  refine (truth_is k n u t false Hfa.out _).mono ?_
  rintro e v1 ⟨rfl, hv1⟩
  have A4 := A3.below hv1
  have B4 := B3.below hv1
  have R4 := R3.below hv1
  have SR4 := SR3.below hv1
  have hw4 := below_tr hw3 hv1
  clear A3 B3 R3 SR3
  clear hv1
  have a' := A4
  obtain ⟨a0, a1, a2, a3, a4⟩ := a'
  have b' := B4
  obtain ⟨b0, b1, b2, b3, b4⟩ := b'
  have r' := R4
  obtain ⟨r0, r1, r2, r3, r4⟩ := r'
  have sr' := SR4
  obtain ⟨s0, s1, s2, s3, s4⟩ := sr'
  go_wp2_with fail
  have hwz := below_put4 hw4 (by omega : w.heap.size ≤ w.heap.size + 1 + 1) 0 0 0 ⟨#[]⟩
  obtain ⟨q0, q1, q2, q3, q4⟩ := boxed_put4 R4 0 0 0 ⟨#[]⟩
  exact bodyPost_ret (w := put4 v1 (w.heap.size + 1 + 1) 0 0 0 ⟨#[]⟩) (v := .tuple #[.agg #[.int .u8 0, .int .i64 0, .int .i64 0, .string ⟨#[]⟩], .int .i64 60]) (by simp [results, Try.results25, go_sem, q0, q1, q2, q3]) rfl ⟨rfl, hwz⟩

set_option maxHeartbeats 4000000 in
theorem ror_1 (k n u : Int) (t : ByteArray) (k' n' u' : Int) (t' : ByteArray) (fa : fitB 2 k = true) (fb : fitB 2 k' = false) (w : World) :
    Calls Try.prog 25 #[.agg #[.int .u8 k, .int .i64 n, .int .i64 u, .string t], .agg #[.int .u8 k', .int .i64 n', .int .i64 u', .string t']] w fun e w' => e = .returned (.tuple #[.agg #[.int .u8 0, .int .i64 0, .int .i64 0, .string ⟨#[]⟩], .int .i64 60]) ∧ Below w.heap.size w w' := by
  have Hfa := Lib.hid fa
  clear fa
  have Hfb := Lib.hid fb
  clear fb
  have hw0 := Below.refl w.heap.size w
  go_enter Try.func25, Try.ntmps25
  go_wp2_with fail
  have hn0 := Below.allocs w (.cells #[.int .u8 k, .int .i64 n, .int .i64 u, .string t] 23)
  have An := Boxed.new w k n u t 23
  have hw1 := below_tr hw0 hn0
  have A1 := An
  clear An hn0
  have hn1 := Below.allocs (w.alloc (.cells #[.int .u8 k, .int .i64 n, .int .i64 u, .string t] 23)) (.cells #[.int .u8 k', .int .i64 n', .int .i64 u', .string t'] 23)
  have Bn := Boxed.new (w.alloc (.cells #[.int .u8 k, .int .i64 n, .int .i64 u, .string t] 23)) k' n' u' t' 23
  rw [show (w.alloc (.cells #[.int .u8 k, .int .i64 n, .int .i64 u, .string t] 23)).heap.size = w.heap.size + 1 by simp] at Bn
  have A2 := A1.below hn1
  have hw2 := below_tr hw1 hn1
  clear A1
  have B2 := Bn
  clear Bn hn1
  have hn2 := Below.allocs ((w.alloc (.cells #[.int .u8 k, .int .i64 n, .int .i64 u, .string t] 23)).alloc (.cells #[.int .u8 k', .int .i64 n', .int .i64 u', .string t'] 23)) (.cells #[.int .u8 0, .int .i64 0, .int .i64 0, .string ⟨#[]⟩] 23)
  have Rn := Boxed.new ((w.alloc (.cells #[.int .u8 k, .int .i64 n, .int .i64 u, .string t] 23)).alloc (.cells #[.int .u8 k', .int .i64 n', .int .i64 u', .string t'] 23)) 0 0 0 ⟨#[]⟩ 23
  have SRn := Soft.new ((w.alloc (.cells #[.int .u8 k, .int .i64 n, .int .i64 u, .string t] 23)).alloc (.cells #[.int .u8 k', .int .i64 n', .int .i64 u', .string t'] 23)) 0 0 0 ⟨#[]⟩ 23
  rw [show ((w.alloc (.cells #[.int .u8 k, .int .i64 n, .int .i64 u, .string t] 23)).alloc (.cells #[.int .u8 k', .int .i64 n', .int .i64 u', .string t'] 23)).heap.size = w.heap.size + 1 + 1 by simp] at Rn SRn
  have A3 := A2.below hn2
  have B3 := B2.below hn2
  have hw3 := below_tr hw2 hn2
  clear A2 B2
  have R3 := Rn
  clear Rn hn2
  have SR3 := SRn
  clear SRn
  refine (truth_is k n u t true Hfa.out _).mono ?_
  rintro e v1 ⟨rfl, hv1⟩
  have A4 := A3.below hv1
  have B4 := B3.below hv1
  have R4 := R3.below hv1
  have SR4 := SR3.below hv1
  have hw4 := below_tr hw3 hv1
  clear A3 B3 R3 SR3
  clear hv1
  have a' := A4
  obtain ⟨a0, a1, a2, a3, a4⟩ := a'
  have b' := B4
  obtain ⟨b0, b1, b2, b3, b4⟩ := b'
  have r' := R4
  obtain ⟨r0, r1, r2, r3, r4⟩ := r'
  go_wp2_with fail
  clear a0 a1 a2 a3 a4 b0 b1 b2 b3 b4 r0 r1 r2 r3 r4
  refine (truth_is k' n' u' t' false Hfb.out _).mono ?_
  rintro e v2 ⟨rfl, hv2⟩
  have A5 := A4.below hv2
  have B5 := B4.below hv2
  have R5 := R4.below hv2
  have SR5 := SR4.below hv2
  have hw5 := below_tr hw4 hv2
  clear A4 B4 R4 SR4
  clear hv2
  have a' := A5
  obtain ⟨a0, a1, a2, a3, a4⟩ := a'
  have b' := B5
  obtain ⟨b0, b1, b2, b3, b4⟩ := b'
  have r' := R5
  obtain ⟨r0, r1, r2, r3, r4⟩ := r'
  have sr' := SR5
  obtain ⟨s0, s1, s2, s3, s4⟩ := sr'
  go_wp2_with fail
  have hwz := below_put4 hw5 (by omega : w.heap.size ≤ w.heap.size + 1 + 1) 0 0 0 ⟨#[]⟩
  obtain ⟨q0, q1, q2, q3, q4⟩ := boxed_put4 R5 0 0 0 ⟨#[]⟩
  exact bodyPost_ret (w := put4 v2 (w.heap.size + 1 + 1) 0 0 0 ⟨#[]⟩) (v := .tuple #[.agg #[.int .u8 0, .int .i64 0, .int .i64 0, .string ⟨#[]⟩], .int .i64 60]) (by simp [results, Try.results25, go_sem, q0, q1, q2, q3]) rfl ⟨rfl, hwz⟩

set_option maxHeartbeats 4000000 in
theorem ror_2 (k n u : Int) (t : ByteArray) (k' n' u' : Int) (t' : ByteArray) (fa : fitB 2 k = true) (fb : fitB 2 k' = true) (ya : yesB k n = true) (w : World) :
    Calls Try.prog 25 #[.agg #[.int .u8 k, .int .i64 n, .int .i64 u, .string t], .agg #[.int .u8 k', .int .i64 n', .int .i64 u', .string t']] w fun e w' => e = .returned (.tuple #[.agg #[.int .u8 2, .int .i64 (ofN true), .int .i64 0, .string ⟨#[]⟩], .int .i64 0]) ∧ Below w.heap.size w w' := by
  have Hfa := Lib.hid fa
  clear fa
  have Hfb := Lib.hid fb
  clear fb
  have Hya := Lib.hid ya
  clear ya
  have hw0 := Below.refl w.heap.size w
  go_enter Try.func25, Try.ntmps25
  go_wp2_with fail
  have hn0 := Below.allocs w (.cells #[.int .u8 k, .int .i64 n, .int .i64 u, .string t] 23)
  have An := Boxed.new w k n u t 23
  have hw1 := below_tr hw0 hn0
  have A1 := An
  clear An hn0
  have hn1 := Below.allocs (w.alloc (.cells #[.int .u8 k, .int .i64 n, .int .i64 u, .string t] 23)) (.cells #[.int .u8 k', .int .i64 n', .int .i64 u', .string t'] 23)
  have Bn := Boxed.new (w.alloc (.cells #[.int .u8 k, .int .i64 n, .int .i64 u, .string t] 23)) k' n' u' t' 23
  rw [show (w.alloc (.cells #[.int .u8 k, .int .i64 n, .int .i64 u, .string t] 23)).heap.size = w.heap.size + 1 by simp] at Bn
  have A2 := A1.below hn1
  have hw2 := below_tr hw1 hn1
  clear A1
  have B2 := Bn
  clear Bn hn1
  have hn2 := Below.allocs ((w.alloc (.cells #[.int .u8 k, .int .i64 n, .int .i64 u, .string t] 23)).alloc (.cells #[.int .u8 k', .int .i64 n', .int .i64 u', .string t'] 23)) (.cells #[.int .u8 0, .int .i64 0, .int .i64 0, .string ⟨#[]⟩] 23)
  have Rn := Boxed.new ((w.alloc (.cells #[.int .u8 k, .int .i64 n, .int .i64 u, .string t] 23)).alloc (.cells #[.int .u8 k', .int .i64 n', .int .i64 u', .string t'] 23)) 0 0 0 ⟨#[]⟩ 23
  have SRn := Soft.new ((w.alloc (.cells #[.int .u8 k, .int .i64 n, .int .i64 u, .string t] 23)).alloc (.cells #[.int .u8 k', .int .i64 n', .int .i64 u', .string t'] 23)) 0 0 0 ⟨#[]⟩ 23
  rw [show ((w.alloc (.cells #[.int .u8 k, .int .i64 n, .int .i64 u, .string t] 23)).alloc (.cells #[.int .u8 k', .int .i64 n', .int .i64 u', .string t'] 23)).heap.size = w.heap.size + 1 + 1 by simp] at Rn SRn
  have A3 := A2.below hn2
  have B3 := B2.below hn2
  have hw3 := below_tr hw2 hn2
  clear A2 B2
  have R3 := Rn
  clear Rn hn2
  have SR3 := SRn
  clear SRn
  refine (truth_is k n u t true Hfa.out _).mono ?_
  rintro e v1 ⟨rfl, hv1⟩
  have A4 := A3.below hv1
  have B4 := B3.below hv1
  have R4 := R3.below hv1
  have SR4 := SR3.below hv1
  have hw4 := below_tr hw3 hv1
  clear A3 B3 R3 SR3
  clear hv1
  have a' := A4
  obtain ⟨a0, a1, a2, a3, a4⟩ := a'
  have b' := B4
  obtain ⟨b0, b1, b2, b3, b4⟩ := b'
  have r' := R4
  obtain ⟨r0, r1, r2, r3, r4⟩ := r'
  go_wp2_with fail
  clear a0 a1 a2 a3 a4 b0 b1 b2 b3 b4 r0 r1 r2 r3 r4
  refine (truth_is k' n' u' t' true Hfb.out _).mono ?_
  rintro e v2 ⟨rfl, hv2⟩
  have A5 := A4.below hv2
  have B5 := B4.below hv2
  have R5 := R4.below hv2
  have SR5 := SR4.below hv2
  have hw5 := below_tr hw4 hv2
  clear A4 B4 R4 SR4
  clear hv2
  have a' := A5
  obtain ⟨a0, a1, a2, a3, a4⟩ := a'
  have b' := B5
  obtain ⟨b0, b1, b2, b3, b4⟩ := b'
  have r' := R5
  obtain ⟨r0, r1, r2, r3, r4⟩ := r'
  go_wp2_with fail
  clear a0 a1 a2 a3 a4 b0 b1 b2 b3 b4 r0 r1 r2 r3 r4
  refine (ryes_is k n u t true Hya.out _).mono ?_
  rintro e v3 ⟨rfl, hv3⟩
  have A6 := A5.below hv3
  have B6 := B5.below hv3
  have R6 := R5.below hv3
  have SR6 := SR5.below hv3
  have hw6 := below_tr hw5 hv3
  clear A5 B5 R5 SR5
  clear hv3
  have a' := A6
  obtain ⟨a0, a1, a2, a3, a4⟩ := a'
  have b' := B6
  obtain ⟨b0, b1, b2, b3, b4⟩ := b'
  have r' := R6
  obtain ⟨r0, r1, r2, r3, r4⟩ := r'
  go_wp2_with fail
  clear a0 a1 a2 a3 a4 b0 b1 b2 b3 b4 r0 r1 r2 r3 r4
  refine (rof_is true _).mono ?_
  rintro e v4 ⟨rfl, hv4⟩
  have A7 := A6.below hv4
  have B7 := B6.below hv4
  have R7 := R6.below hv4
  have SR7 := SR6.below hv4
  have hw7 := below_tr hw6 hv4
  clear A6 B6 R6 SR6
  clear hv4
  have a' := A7
  obtain ⟨a0, a1, a2, a3, a4⟩ := a'
  have b' := B7
  obtain ⟨b0, b1, b2, b3, b4⟩ := b'
  have r' := R7
  obtain ⟨r0, r1, r2, r3, r4⟩ := r'
  have sr' := SR7
  obtain ⟨s0, s1, s2, s3, s4⟩ := sr'
  go_wp2_with fail
  have hwz := below_put4 hw7 (by omega : w.heap.size ≤ w.heap.size + 1 + 1) 2 (ofN true) 0 ⟨#[]⟩
  obtain ⟨q0, q1, q2, q3, q4⟩ := boxed_put4 R7 2 (ofN true) 0 ⟨#[]⟩
  exact bodyPost_ret (w := put4 v4 (w.heap.size + 1 + 1) 2 (ofN true) 0 ⟨#[]⟩) (v := .tuple #[.agg #[.int .u8 2, .int .i64 (ofN true), .int .i64 0, .string ⟨#[]⟩], .int .i64 0]) (by simp [results, Try.results25, go_sem, q0, q1, q2, q3]) rfl ⟨rfl, hwz⟩

set_option maxHeartbeats 4000000 in
theorem ror_3 (k n u : Int) (t : ByteArray) (k' n' u' : Int) (t' : ByteArray) (fa : fitB 2 k = true) (fb : fitB 2 k' = true) (ya : yesB k n = false) (yb : yesB k' n' = true) (w : World) :
    Calls Try.prog 25 #[.agg #[.int .u8 k, .int .i64 n, .int .i64 u, .string t], .agg #[.int .u8 k', .int .i64 n', .int .i64 u', .string t']] w fun e w' => e = .returned (.tuple #[.agg #[.int .u8 2, .int .i64 (ofN true), .int .i64 0, .string ⟨#[]⟩], .int .i64 0]) ∧ Below w.heap.size w w' := by
  have Hfa := Lib.hid fa
  clear fa
  have Hfb := Lib.hid fb
  clear fb
  have Hya := Lib.hid ya
  clear ya
  have Hyb := Lib.hid yb
  clear yb
  have hw0 := Below.refl w.heap.size w
  go_enter Try.func25, Try.ntmps25
  go_wp2_with fail
  have hn0 := Below.allocs w (.cells #[.int .u8 k, .int .i64 n, .int .i64 u, .string t] 23)
  have An := Boxed.new w k n u t 23
  have hw1 := below_tr hw0 hn0
  have A1 := An
  clear An hn0
  have hn1 := Below.allocs (w.alloc (.cells #[.int .u8 k, .int .i64 n, .int .i64 u, .string t] 23)) (.cells #[.int .u8 k', .int .i64 n', .int .i64 u', .string t'] 23)
  have Bn := Boxed.new (w.alloc (.cells #[.int .u8 k, .int .i64 n, .int .i64 u, .string t] 23)) k' n' u' t' 23
  rw [show (w.alloc (.cells #[.int .u8 k, .int .i64 n, .int .i64 u, .string t] 23)).heap.size = w.heap.size + 1 by simp] at Bn
  have A2 := A1.below hn1
  have hw2 := below_tr hw1 hn1
  clear A1
  have B2 := Bn
  clear Bn hn1
  have hn2 := Below.allocs ((w.alloc (.cells #[.int .u8 k, .int .i64 n, .int .i64 u, .string t] 23)).alloc (.cells #[.int .u8 k', .int .i64 n', .int .i64 u', .string t'] 23)) (.cells #[.int .u8 0, .int .i64 0, .int .i64 0, .string ⟨#[]⟩] 23)
  have Rn := Boxed.new ((w.alloc (.cells #[.int .u8 k, .int .i64 n, .int .i64 u, .string t] 23)).alloc (.cells #[.int .u8 k', .int .i64 n', .int .i64 u', .string t'] 23)) 0 0 0 ⟨#[]⟩ 23
  have SRn := Soft.new ((w.alloc (.cells #[.int .u8 k, .int .i64 n, .int .i64 u, .string t] 23)).alloc (.cells #[.int .u8 k', .int .i64 n', .int .i64 u', .string t'] 23)) 0 0 0 ⟨#[]⟩ 23
  rw [show ((w.alloc (.cells #[.int .u8 k, .int .i64 n, .int .i64 u, .string t] 23)).alloc (.cells #[.int .u8 k', .int .i64 n', .int .i64 u', .string t'] 23)).heap.size = w.heap.size + 1 + 1 by simp] at Rn SRn
  have A3 := A2.below hn2
  have B3 := B2.below hn2
  have hw3 := below_tr hw2 hn2
  clear A2 B2
  have R3 := Rn
  clear Rn hn2
  have SR3 := SRn
  clear SRn
  refine (truth_is k n u t true Hfa.out _).mono ?_
  rintro e v1 ⟨rfl, hv1⟩
  have A4 := A3.below hv1
  have B4 := B3.below hv1
  have R4 := R3.below hv1
  have SR4 := SR3.below hv1
  have hw4 := below_tr hw3 hv1
  clear A3 B3 R3 SR3
  clear hv1
  have a' := A4
  obtain ⟨a0, a1, a2, a3, a4⟩ := a'
  have b' := B4
  obtain ⟨b0, b1, b2, b3, b4⟩ := b'
  have r' := R4
  obtain ⟨r0, r1, r2, r3, r4⟩ := r'
  go_wp2_with fail
  clear a0 a1 a2 a3 a4 b0 b1 b2 b3 b4 r0 r1 r2 r3 r4
  refine (truth_is k' n' u' t' true Hfb.out _).mono ?_
  rintro e v2 ⟨rfl, hv2⟩
  have A5 := A4.below hv2
  have B5 := B4.below hv2
  have R5 := R4.below hv2
  have SR5 := SR4.below hv2
  have hw5 := below_tr hw4 hv2
  clear A4 B4 R4 SR4
  clear hv2
  have a' := A5
  obtain ⟨a0, a1, a2, a3, a4⟩ := a'
  have b' := B5
  obtain ⟨b0, b1, b2, b3, b4⟩ := b'
  have r' := R5
  obtain ⟨r0, r1, r2, r3, r4⟩ := r'
  go_wp2_with fail
  clear a0 a1 a2 a3 a4 b0 b1 b2 b3 b4 r0 r1 r2 r3 r4
  refine (ryes_is k n u t false Hya.out _).mono ?_
  rintro e v3 ⟨rfl, hv3⟩
  have A6 := A5.below hv3
  have B6 := B5.below hv3
  have R6 := R5.below hv3
  have SR6 := SR5.below hv3
  have hw6 := below_tr hw5 hv3
  clear A5 B5 R5 SR5
  clear hv3
  have a' := A6
  obtain ⟨a0, a1, a2, a3, a4⟩ := a'
  have b' := B6
  obtain ⟨b0, b1, b2, b3, b4⟩ := b'
  have r' := R6
  obtain ⟨r0, r1, r2, r3, r4⟩ := r'
  go_wp2_with fail
  clear a0 a1 a2 a3 a4 b0 b1 b2 b3 b4 r0 r1 r2 r3 r4
  refine (ryes_is k' n' u' t' true Hyb.out _).mono ?_
  rintro e v4 ⟨rfl, hv4⟩
  have A7 := A6.below hv4
  have B7 := B6.below hv4
  have R7 := R6.below hv4
  have SR7 := SR6.below hv4
  have hw7 := below_tr hw6 hv4
  clear A6 B6 R6 SR6
  clear hv4
  have a' := A7
  obtain ⟨a0, a1, a2, a3, a4⟩ := a'
  have b' := B7
  obtain ⟨b0, b1, b2, b3, b4⟩ := b'
  have r' := R7
  obtain ⟨r0, r1, r2, r3, r4⟩ := r'
  go_wp2_with fail
  clear a0 a1 a2 a3 a4 b0 b1 b2 b3 b4 r0 r1 r2 r3 r4
  refine (rof_is true _).mono ?_
  rintro e v5 ⟨rfl, hv5⟩
  have A8 := A7.below hv5
  have B8 := B7.below hv5
  have R8 := R7.below hv5
  have SR8 := SR7.below hv5
  have hw8 := below_tr hw7 hv5
  clear A7 B7 R7 SR7
  clear hv5
  have a' := A8
  obtain ⟨a0, a1, a2, a3, a4⟩ := a'
  have b' := B8
  obtain ⟨b0, b1, b2, b3, b4⟩ := b'
  have r' := R8
  obtain ⟨r0, r1, r2, r3, r4⟩ := r'
  have sr' := SR8
  obtain ⟨s0, s1, s2, s3, s4⟩ := sr'
  go_wp2_with fail
  have hwz := below_put4 hw8 (by omega : w.heap.size ≤ w.heap.size + 1 + 1) 2 (ofN true) 0 ⟨#[]⟩
  obtain ⟨q0, q1, q2, q3, q4⟩ := boxed_put4 R8 2 (ofN true) 0 ⟨#[]⟩
  exact bodyPost_ret (w := put4 v5 (w.heap.size + 1 + 1) 2 (ofN true) 0 ⟨#[]⟩) (v := .tuple #[.agg #[.int .u8 2, .int .i64 (ofN true), .int .i64 0, .string ⟨#[]⟩], .int .i64 0]) (by simp [results, Try.results25, go_sem, q0, q1, q2, q3]) rfl ⟨rfl, hwz⟩

set_option maxHeartbeats 4000000 in
theorem ror_4 (k n u : Int) (t : ByteArray) (k' n' u' : Int) (t' : ByteArray) (fa : fitB 2 k = true) (fb : fitB 2 k' = true) (ya : yesB k n = false) (yb : yesB k' n' = false) (k0a : (k == 0) = true) (w : World) :
    Calls Try.prog 25 #[.agg #[.int .u8 k, .int .i64 n, .int .i64 u, .string t], .agg #[.int .u8 k', .int .i64 n', .int .i64 u', .string t']] w fun e w' => e = .returned (.tuple #[.agg #[.int .u8 0, .int .i64 0, .int .i64 0, .string ⟨#[]⟩], .int .i64 0]) ∧ Below w.heap.size w w' := by
  have Hfa := Lib.hid fa
  clear fa
  have Hfb := Lib.hid fb
  clear fb
  have Hya := Lib.hid ya
  clear ya
  have Hyb := Lib.hid yb
  clear yb
  have hw0 := Below.refl w.heap.size w
  go_enter Try.func25, Try.ntmps25
  go_wp2_with fail
  have hn0 := Below.allocs w (.cells #[.int .u8 k, .int .i64 n, .int .i64 u, .string t] 23)
  have An := Boxed.new w k n u t 23
  have hw1 := below_tr hw0 hn0
  have A1 := An
  clear An hn0
  have hn1 := Below.allocs (w.alloc (.cells #[.int .u8 k, .int .i64 n, .int .i64 u, .string t] 23)) (.cells #[.int .u8 k', .int .i64 n', .int .i64 u', .string t'] 23)
  have Bn := Boxed.new (w.alloc (.cells #[.int .u8 k, .int .i64 n, .int .i64 u, .string t] 23)) k' n' u' t' 23
  rw [show (w.alloc (.cells #[.int .u8 k, .int .i64 n, .int .i64 u, .string t] 23)).heap.size = w.heap.size + 1 by simp] at Bn
  have A2 := A1.below hn1
  have hw2 := below_tr hw1 hn1
  clear A1
  have B2 := Bn
  clear Bn hn1
  have hn2 := Below.allocs ((w.alloc (.cells #[.int .u8 k, .int .i64 n, .int .i64 u, .string t] 23)).alloc (.cells #[.int .u8 k', .int .i64 n', .int .i64 u', .string t'] 23)) (.cells #[.int .u8 0, .int .i64 0, .int .i64 0, .string ⟨#[]⟩] 23)
  have Rn := Boxed.new ((w.alloc (.cells #[.int .u8 k, .int .i64 n, .int .i64 u, .string t] 23)).alloc (.cells #[.int .u8 k', .int .i64 n', .int .i64 u', .string t'] 23)) 0 0 0 ⟨#[]⟩ 23
  have SRn := Soft.new ((w.alloc (.cells #[.int .u8 k, .int .i64 n, .int .i64 u, .string t] 23)).alloc (.cells #[.int .u8 k', .int .i64 n', .int .i64 u', .string t'] 23)) 0 0 0 ⟨#[]⟩ 23
  rw [show ((w.alloc (.cells #[.int .u8 k, .int .i64 n, .int .i64 u, .string t] 23)).alloc (.cells #[.int .u8 k', .int .i64 n', .int .i64 u', .string t'] 23)).heap.size = w.heap.size + 1 + 1 by simp] at Rn SRn
  have A3 := A2.below hn2
  have B3 := B2.below hn2
  have hw3 := below_tr hw2 hn2
  clear A2 B2
  have R3 := Rn
  clear Rn hn2
  have SR3 := SRn
  clear SRn
  refine (truth_is k n u t true Hfa.out _).mono ?_
  rintro e v1 ⟨rfl, hv1⟩
  have A4 := A3.below hv1
  have B4 := B3.below hv1
  have R4 := R3.below hv1
  have SR4 := SR3.below hv1
  have hw4 := below_tr hw3 hv1
  clear A3 B3 R3 SR3
  clear hv1
  have a' := A4
  obtain ⟨a0, a1, a2, a3, a4⟩ := a'
  have b' := B4
  obtain ⟨b0, b1, b2, b3, b4⟩ := b'
  have r' := R4
  obtain ⟨r0, r1, r2, r3, r4⟩ := r'
  go_wp2_with fail
  clear a0 a1 a2 a3 a4 b0 b1 b2 b3 b4 r0 r1 r2 r3 r4
  refine (truth_is k' n' u' t' true Hfb.out _).mono ?_
  rintro e v2 ⟨rfl, hv2⟩
  have A5 := A4.below hv2
  have B5 := B4.below hv2
  have R5 := R4.below hv2
  have SR5 := SR4.below hv2
  have hw5 := below_tr hw4 hv2
  clear A4 B4 R4 SR4
  clear hv2
  have a' := A5
  obtain ⟨a0, a1, a2, a3, a4⟩ := a'
  have b' := B5
  obtain ⟨b0, b1, b2, b3, b4⟩ := b'
  have r' := R5
  obtain ⟨r0, r1, r2, r3, r4⟩ := r'
  go_wp2_with fail
  clear a0 a1 a2 a3 a4 b0 b1 b2 b3 b4 r0 r1 r2 r3 r4
  refine (ryes_is k n u t false Hya.out _).mono ?_
  rintro e v3 ⟨rfl, hv3⟩
  have A6 := A5.below hv3
  have B6 := B5.below hv3
  have R6 := R5.below hv3
  have SR6 := SR5.below hv3
  have hw6 := below_tr hw5 hv3
  clear A5 B5 R5 SR5
  clear hv3
  have a' := A6
  obtain ⟨a0, a1, a2, a3, a4⟩ := a'
  have b' := B6
  obtain ⟨b0, b1, b2, b3, b4⟩ := b'
  have r' := R6
  obtain ⟨r0, r1, r2, r3, r4⟩ := r'
  go_wp2_with fail
  clear a0 a1 a2 a3 a4 b0 b1 b2 b3 b4 r0 r1 r2 r3 r4
  refine (ryes_is k' n' u' t' false Hyb.out _).mono ?_
  rintro e v4 ⟨rfl, hv4⟩
  have A7 := A6.below hv4
  have B7 := B6.below hv4
  have R7 := R6.below hv4
  have SR7 := SR6.below hv4
  have hw7 := below_tr hw6 hv4
  clear A6 B6 R6 SR6
  clear hv4
  have a' := A7
  obtain ⟨a0, a1, a2, a3, a4⟩ := a'
  have b' := B7
  obtain ⟨b0, b1, b2, b3, b4⟩ := b'
  have r' := R7
  obtain ⟨r0, r1, r2, r3, r4⟩ := r'
  have sr' := SR7
  obtain ⟨s0, s1, s2, s3, s4⟩ := sr'
  go_wp2_with fail
  have hwz := below_put4 hw7 (by omega : w.heap.size ≤ w.heap.size + 1 + 1) 0 0 0 ⟨#[]⟩
  obtain ⟨q0, q1, q2, q3, q4⟩ := boxed_put4 R7 0 0 0 ⟨#[]⟩
  exact bodyPost_ret (w := put4 v4 (w.heap.size + 1 + 1) 0 0 0 ⟨#[]⟩) (v := .tuple #[.agg #[.int .u8 0, .int .i64 0, .int .i64 0, .string ⟨#[]⟩], .int .i64 0]) (by simp [results, Try.results25, go_sem, q0, q1, q2, q3]) rfl ⟨rfl, hwz⟩

set_option maxHeartbeats 4000000 in
theorem ror_5 (k n u : Int) (t : ByteArray) (k' n' u' : Int) (t' : ByteArray) (fa : fitB 2 k = true) (fb : fitB 2 k' = true) (ya : yesB k n = false) (yb : yesB k' n' = false) (k0a : (k == 0) = false) (k0b : (k' == 0) = true) (w : World) :
    Calls Try.prog 25 #[.agg #[.int .u8 k, .int .i64 n, .int .i64 u, .string t], .agg #[.int .u8 k', .int .i64 n', .int .i64 u', .string t']] w fun e w' => e = .returned (.tuple #[.agg #[.int .u8 0, .int .i64 0, .int .i64 0, .string ⟨#[]⟩], .int .i64 0]) ∧ Below w.heap.size w w' := by
  have Hfa := Lib.hid fa
  clear fa
  have Hfb := Lib.hid fb
  clear fb
  have Hya := Lib.hid ya
  clear ya
  have Hyb := Lib.hid yb
  clear yb
  have hw0 := Below.refl w.heap.size w
  go_enter Try.func25, Try.ntmps25
  go_wp2_with fail
  have hn0 := Below.allocs w (.cells #[.int .u8 k, .int .i64 n, .int .i64 u, .string t] 23)
  have An := Boxed.new w k n u t 23
  have hw1 := below_tr hw0 hn0
  have A1 := An
  clear An hn0
  have hn1 := Below.allocs (w.alloc (.cells #[.int .u8 k, .int .i64 n, .int .i64 u, .string t] 23)) (.cells #[.int .u8 k', .int .i64 n', .int .i64 u', .string t'] 23)
  have Bn := Boxed.new (w.alloc (.cells #[.int .u8 k, .int .i64 n, .int .i64 u, .string t] 23)) k' n' u' t' 23
  rw [show (w.alloc (.cells #[.int .u8 k, .int .i64 n, .int .i64 u, .string t] 23)).heap.size = w.heap.size + 1 by simp] at Bn
  have A2 := A1.below hn1
  have hw2 := below_tr hw1 hn1
  clear A1
  have B2 := Bn
  clear Bn hn1
  have hn2 := Below.allocs ((w.alloc (.cells #[.int .u8 k, .int .i64 n, .int .i64 u, .string t] 23)).alloc (.cells #[.int .u8 k', .int .i64 n', .int .i64 u', .string t'] 23)) (.cells #[.int .u8 0, .int .i64 0, .int .i64 0, .string ⟨#[]⟩] 23)
  have Rn := Boxed.new ((w.alloc (.cells #[.int .u8 k, .int .i64 n, .int .i64 u, .string t] 23)).alloc (.cells #[.int .u8 k', .int .i64 n', .int .i64 u', .string t'] 23)) 0 0 0 ⟨#[]⟩ 23
  have SRn := Soft.new ((w.alloc (.cells #[.int .u8 k, .int .i64 n, .int .i64 u, .string t] 23)).alloc (.cells #[.int .u8 k', .int .i64 n', .int .i64 u', .string t'] 23)) 0 0 0 ⟨#[]⟩ 23
  rw [show ((w.alloc (.cells #[.int .u8 k, .int .i64 n, .int .i64 u, .string t] 23)).alloc (.cells #[.int .u8 k', .int .i64 n', .int .i64 u', .string t'] 23)).heap.size = w.heap.size + 1 + 1 by simp] at Rn SRn
  have A3 := A2.below hn2
  have B3 := B2.below hn2
  have hw3 := below_tr hw2 hn2
  clear A2 B2
  have R3 := Rn
  clear Rn hn2
  have SR3 := SRn
  clear SRn
  refine (truth_is k n u t true Hfa.out _).mono ?_
  rintro e v1 ⟨rfl, hv1⟩
  have A4 := A3.below hv1
  have B4 := B3.below hv1
  have R4 := R3.below hv1
  have SR4 := SR3.below hv1
  have hw4 := below_tr hw3 hv1
  clear A3 B3 R3 SR3
  clear hv1
  have a' := A4
  obtain ⟨a0, a1, a2, a3, a4⟩ := a'
  have b' := B4
  obtain ⟨b0, b1, b2, b3, b4⟩ := b'
  have r' := R4
  obtain ⟨r0, r1, r2, r3, r4⟩ := r'
  go_wp2_with fail
  clear a0 a1 a2 a3 a4 b0 b1 b2 b3 b4 r0 r1 r2 r3 r4
  refine (truth_is k' n' u' t' true Hfb.out _).mono ?_
  rintro e v2 ⟨rfl, hv2⟩
  have A5 := A4.below hv2
  have B5 := B4.below hv2
  have R5 := R4.below hv2
  have SR5 := SR4.below hv2
  have hw5 := below_tr hw4 hv2
  clear A4 B4 R4 SR4
  clear hv2
  have a' := A5
  obtain ⟨a0, a1, a2, a3, a4⟩ := a'
  have b' := B5
  obtain ⟨b0, b1, b2, b3, b4⟩ := b'
  have r' := R5
  obtain ⟨r0, r1, r2, r3, r4⟩ := r'
  go_wp2_with fail
  clear a0 a1 a2 a3 a4 b0 b1 b2 b3 b4 r0 r1 r2 r3 r4
  refine (ryes_is k n u t false Hya.out _).mono ?_
  rintro e v3 ⟨rfl, hv3⟩
  have A6 := A5.below hv3
  have B6 := B5.below hv3
  have R6 := R5.below hv3
  have SR6 := SR5.below hv3
  have hw6 := below_tr hw5 hv3
  clear A5 B5 R5 SR5
  clear hv3
  have a' := A6
  obtain ⟨a0, a1, a2, a3, a4⟩ := a'
  have b' := B6
  obtain ⟨b0, b1, b2, b3, b4⟩ := b'
  have r' := R6
  obtain ⟨r0, r1, r2, r3, r4⟩ := r'
  go_wp2_with fail
  clear a0 a1 a2 a3 a4 b0 b1 b2 b3 b4 r0 r1 r2 r3 r4
  refine (ryes_is k' n' u' t' false Hyb.out _).mono ?_
  rintro e v4 ⟨rfl, hv4⟩
  have A7 := A6.below hv4
  have B7 := B6.below hv4
  have R7 := R6.below hv4
  have SR7 := SR6.below hv4
  have hw7 := below_tr hw6 hv4
  clear A6 B6 R6 SR6
  clear hv4
  have a' := A7
  obtain ⟨a0, a1, a2, a3, a4⟩ := a'
  have b' := B7
  obtain ⟨b0, b1, b2, b3, b4⟩ := b'
  have r' := R7
  obtain ⟨r0, r1, r2, r3, r4⟩ := r'
  have sr' := SR7
  obtain ⟨s0, s1, s2, s3, s4⟩ := sr'
  go_wp2_with fail
  have hwz := below_put4 hw7 (by omega : w.heap.size ≤ w.heap.size + 1 + 1) 0 0 0 ⟨#[]⟩
  obtain ⟨q0, q1, q2, q3, q4⟩ := boxed_put4 R7 0 0 0 ⟨#[]⟩
  exact bodyPost_ret (w := put4 v4 (w.heap.size + 1 + 1) 0 0 0 ⟨#[]⟩) (v := .tuple #[.agg #[.int .u8 0, .int .i64 0, .int .i64 0, .string ⟨#[]⟩], .int .i64 0]) (by simp [results, Try.results25, go_sem, q0, q1, q2, q3]) rfl ⟨rfl, hwz⟩

set_option maxHeartbeats 4000000 in
theorem ror_6 (k n u : Int) (t : ByteArray) (k' n' u' : Int) (t' : ByteArray) (fa : fitB 2 k = true) (fb : fitB 2 k' = true) (ya : yesB k n = false) (yb : yesB k' n' = false) (k0a : (k == 0) = false) (k0b : (k' == 0) = false) (w : World) :
    Calls Try.prog 25 #[.agg #[.int .u8 k, .int .i64 n, .int .i64 u, .string t], .agg #[.int .u8 k', .int .i64 n', .int .i64 u', .string t']] w fun e w' => e = .returned (.tuple #[.agg #[.int .u8 2, .int .i64 (ofN false), .int .i64 0, .string ⟨#[]⟩], .int .i64 0]) ∧ Below w.heap.size w w' := by
  have Hfa := Lib.hid fa
  clear fa
  have Hfb := Lib.hid fb
  clear fb
  have Hya := Lib.hid ya
  clear ya
  have Hyb := Lib.hid yb
  clear yb
  have hw0 := Below.refl w.heap.size w
  go_enter Try.func25, Try.ntmps25
  go_wp2_with fail
  have hn0 := Below.allocs w (.cells #[.int .u8 k, .int .i64 n, .int .i64 u, .string t] 23)
  have An := Boxed.new w k n u t 23
  have hw1 := below_tr hw0 hn0
  have A1 := An
  clear An hn0
  have hn1 := Below.allocs (w.alloc (.cells #[.int .u8 k, .int .i64 n, .int .i64 u, .string t] 23)) (.cells #[.int .u8 k', .int .i64 n', .int .i64 u', .string t'] 23)
  have Bn := Boxed.new (w.alloc (.cells #[.int .u8 k, .int .i64 n, .int .i64 u, .string t] 23)) k' n' u' t' 23
  rw [show (w.alloc (.cells #[.int .u8 k, .int .i64 n, .int .i64 u, .string t] 23)).heap.size = w.heap.size + 1 by simp] at Bn
  have A2 := A1.below hn1
  have hw2 := below_tr hw1 hn1
  clear A1
  have B2 := Bn
  clear Bn hn1
  have hn2 := Below.allocs ((w.alloc (.cells #[.int .u8 k, .int .i64 n, .int .i64 u, .string t] 23)).alloc (.cells #[.int .u8 k', .int .i64 n', .int .i64 u', .string t'] 23)) (.cells #[.int .u8 0, .int .i64 0, .int .i64 0, .string ⟨#[]⟩] 23)
  have Rn := Boxed.new ((w.alloc (.cells #[.int .u8 k, .int .i64 n, .int .i64 u, .string t] 23)).alloc (.cells #[.int .u8 k', .int .i64 n', .int .i64 u', .string t'] 23)) 0 0 0 ⟨#[]⟩ 23
  have SRn := Soft.new ((w.alloc (.cells #[.int .u8 k, .int .i64 n, .int .i64 u, .string t] 23)).alloc (.cells #[.int .u8 k', .int .i64 n', .int .i64 u', .string t'] 23)) 0 0 0 ⟨#[]⟩ 23
  rw [show ((w.alloc (.cells #[.int .u8 k, .int .i64 n, .int .i64 u, .string t] 23)).alloc (.cells #[.int .u8 k', .int .i64 n', .int .i64 u', .string t'] 23)).heap.size = w.heap.size + 1 + 1 by simp] at Rn SRn
  have A3 := A2.below hn2
  have B3 := B2.below hn2
  have hw3 := below_tr hw2 hn2
  clear A2 B2
  have R3 := Rn
  clear Rn hn2
  have SR3 := SRn
  clear SRn
  refine (truth_is k n u t true Hfa.out _).mono ?_
  rintro e v1 ⟨rfl, hv1⟩
  have A4 := A3.below hv1
  have B4 := B3.below hv1
  have R4 := R3.below hv1
  have SR4 := SR3.below hv1
  have hw4 := below_tr hw3 hv1
  clear A3 B3 R3 SR3
  clear hv1
  have a' := A4
  obtain ⟨a0, a1, a2, a3, a4⟩ := a'
  have b' := B4
  obtain ⟨b0, b1, b2, b3, b4⟩ := b'
  have r' := R4
  obtain ⟨r0, r1, r2, r3, r4⟩ := r'
  go_wp2_with fail
  clear a0 a1 a2 a3 a4 b0 b1 b2 b3 b4 r0 r1 r2 r3 r4
  refine (truth_is k' n' u' t' true Hfb.out _).mono ?_
  rintro e v2 ⟨rfl, hv2⟩
  have A5 := A4.below hv2
  have B5 := B4.below hv2
  have R5 := R4.below hv2
  have SR5 := SR4.below hv2
  have hw5 := below_tr hw4 hv2
  clear A4 B4 R4 SR4
  clear hv2
  have a' := A5
  obtain ⟨a0, a1, a2, a3, a4⟩ := a'
  have b' := B5
  obtain ⟨b0, b1, b2, b3, b4⟩ := b'
  have r' := R5
  obtain ⟨r0, r1, r2, r3, r4⟩ := r'
  go_wp2_with fail
  clear a0 a1 a2 a3 a4 b0 b1 b2 b3 b4 r0 r1 r2 r3 r4
  refine (ryes_is k n u t false Hya.out _).mono ?_
  rintro e v3 ⟨rfl, hv3⟩
  have A6 := A5.below hv3
  have B6 := B5.below hv3
  have R6 := R5.below hv3
  have SR6 := SR5.below hv3
  have hw6 := below_tr hw5 hv3
  clear A5 B5 R5 SR5
  clear hv3
  have a' := A6
  obtain ⟨a0, a1, a2, a3, a4⟩ := a'
  have b' := B6
  obtain ⟨b0, b1, b2, b3, b4⟩ := b'
  have r' := R6
  obtain ⟨r0, r1, r2, r3, r4⟩ := r'
  go_wp2_with fail
  clear a0 a1 a2 a3 a4 b0 b1 b2 b3 b4 r0 r1 r2 r3 r4
  refine (ryes_is k' n' u' t' false Hyb.out _).mono ?_
  rintro e v4 ⟨rfl, hv4⟩
  have A7 := A6.below hv4
  have B7 := B6.below hv4
  have R7 := R6.below hv4
  have SR7 := SR6.below hv4
  have hw7 := below_tr hw6 hv4
  clear A6 B6 R6 SR6
  clear hv4
  have a' := A7
  obtain ⟨a0, a1, a2, a3, a4⟩ := a'
  have b' := B7
  obtain ⟨b0, b1, b2, b3, b4⟩ := b'
  have r' := R7
  obtain ⟨r0, r1, r2, r3, r4⟩ := r'
  go_wp2_with fail
  clear a0 a1 a2 a3 a4 b0 b1 b2 b3 b4 r0 r1 r2 r3 r4
  refine (rof_is false _).mono ?_
  rintro e v5 ⟨rfl, hv5⟩
  have A8 := A7.below hv5
  have B8 := B7.below hv5
  have R8 := R7.below hv5
  have SR8 := SR7.below hv5
  have hw8 := below_tr hw7 hv5
  clear A7 B7 R7 SR7
  clear hv5
  have a' := A8
  obtain ⟨a0, a1, a2, a3, a4⟩ := a'
  have b' := B8
  obtain ⟨b0, b1, b2, b3, b4⟩ := b'
  have r' := R8
  obtain ⟨r0, r1, r2, r3, r4⟩ := r'
  have sr' := SR8
  obtain ⟨s0, s1, s2, s3, s4⟩ := sr'
  go_wp2_with fail
  have hwz := below_put4 hw8 (by omega : w.heap.size ≤ w.heap.size + 1 + 1) 2 (ofN false) 0 ⟨#[]⟩
  obtain ⟨q0, q1, q2, q3, q4⟩ := boxed_put4 R8 2 (ofN false) 0 ⟨#[]⟩
  exact bodyPost_ret (w := put4 v5 (w.heap.size + 1 + 1) 2 (ofN false) 0 ⟨#[]⟩) (v := .tuple #[.agg #[.int .u8 2, .int .i64 (ofN false), .int .i64 0, .string ⟨#[]⟩], .int .i64 0]) (by simp [results, Try.results25, go_sem, q0, q1, q2, q3]) rfl ⟨rfl, hwz⟩

theorem fit2_cases {k : Int} (h : fitB 2 k = true) : k = 2 ∨ k = 0 := by unfold fitB at h; exact of_decide_eq_true h

theorem rand_is (k n u : Int) (t : ByteArray) (k' n' u' : Int) (t' : ByteArray) (r : Res) (hr : connectR k n k' n' false = r) (w : World) :
    Calls Try.prog 23 #[.agg #[.int .u8 k, .int .i64 n, .int .i64 u, .string t], .agg #[.int .u8 k', .int .i64 n', .int .i64 u', .string t']] w fun e w' => e = .returned (.tuple #[.agg #[.int .u8 r.k, .int .i64 r.n, .int .i64 0, .string ⟨#[]⟩], .int .i64 r.e]) ∧ Below w.heap.size w w' := by
  subst hr
  cases hf : fitB 2 k
  · rw [show connectR k n k' n' false = ⟨0, 0, 60⟩ by simp [connectR, hf]]; exact rand_0 k n u t k' n' u' t' hf w
  · cases hf' : fitB 2 k'
    · rw [show connectR k n k' n' false = ⟨0, 0, 60⟩ by simp [connectR, hf']]; exact rand_1 k n u t k' n' u' t' hf hf' w
    · have z2 : nullB 2 = false := by decide
      have z0 : nullB 0 = true := by decide
      have y0 : ∀ m, yesB 0 m = false := fun m => by simp [yesB]
      rcases fit2_cases hf with rfl | rfl <;> rcases fit2_cases hf' with rfl | rfl
      · cases hy : yesB 2 n
        · rw [show connectR 2 n 2 n' false = ⟨2, ofN false, 0⟩ by simp [connectR, hf, knownB, z2, hy]]; exact rand_2 2 n u t 2 n' u' t' hf hf' rfl hy w
        · cases hy' : yesB 2 n'
          · rw [show connectR 2 n 2 n' false = ⟨2, ofN false, 0⟩ by simp [connectR, hf, knownB, z2, hy, hy']]; exact rand_3 2 n u t 2 n' u' t' hf hf' rfl hy rfl hy' w
          · rw [show connectR 2 n 2 n' false = ⟨2, ofN true, 0⟩ by simp [connectR, hf, knownB, z2, hy, hy']]; exact rand_5 2 n u t 2 n' u' t' hf hf' rfl hy rfl hy' rfl rfl w
      · cases hy : yesB 2 n
        · rw [show connectR 2 n 0 n' false = ⟨2, ofN false, 0⟩ by simp [connectR, hf, hf', knownB, z2, hy]]; exact rand_2 2 n u t 0 n' u' t' hf hf' rfl hy w
        · rw [show connectR 2 n 0 n' false = ⟨0, 0, 0⟩ by simp [connectR, hf, hf', knownB, z2, z0, hy]]; exact rand_6 2 n u t 0 n' u' t' hf hf' rfl hy rfl rfl rfl w
      · cases hy' : yesB 2 n'
        · rw [show connectR 0 n 2 n' false = ⟨2, ofN false, 0⟩ by simp [connectR, hf, hf', knownB, z2, hy']]; exact rand_4 0 n u t 2 n' u' t' hf hf' rfl rfl hy' w
        · rw [show connectR 0 n 2 n' false = ⟨0, 0, 0⟩ by simp [connectR, hf, hf', knownB, z2, z0, hy']]; exact rand_7 0 n u t 2 n' u' t' hf hf' rfl rfl hy' rfl w
      · rw [show connectR 0 n 0 n' false = ⟨0, 0, 0⟩ by simp [connectR, hf, knownB, z0]]; exact rand_8 0 n u t 0 n' u' t' hf hf' rfl rfl rfl w

theorem ror_is (k n u : Int) (t : ByteArray) (k' n' u' : Int) (t' : ByteArray) (r : Res) (hr : connectR k n k' n' true = r) (w : World) :
    Calls Try.prog 25 #[.agg #[.int .u8 k, .int .i64 n, .int .i64 u, .string t], .agg #[.int .u8 k', .int .i64 n', .int .i64 u', .string t']] w fun e w' => e = .returned (.tuple #[.agg #[.int .u8 r.k, .int .i64 r.n, .int .i64 0, .string ⟨#[]⟩], .int .i64 r.e]) ∧ Below w.heap.size w w' := by
  subst hr
  cases hf : fitB 2 k
  · rw [show connectR k n k' n' true = ⟨0, 0, 60⟩ by simp [connectR, hf]]; exact ror_0 k n u t k' n' u' t' hf w
  · cases hf' : fitB 2 k'
    · rw [show connectR k n k' n' true = ⟨0, 0, 60⟩ by simp [connectR, hf']]; exact ror_1 k n u t k' n' u' t' hf hf' w
    · have z2 : nullB 2 = false := by decide
      have z0 : nullB 0 = true := by decide
      have y0 : ∀ m, yesB 0 m = false := fun m => by simp [yesB]
      rcases fit2_cases hf with rfl | rfl <;> rcases fit2_cases hf' with rfl | rfl
      · cases hy : yesB 2 n
        · cases hy' : yesB 2 n'
          · rw [show connectR 2 n 2 n' true = ⟨2, ofN false, 0⟩ by simp [connectR, hf, knownB, z2, hy, hy']]; exact ror_6 2 n u t 2 n' u' t' hf hf' hy hy' rfl rfl w
          · rw [show connectR 2 n 2 n' true = ⟨2, ofN true, 0⟩ by simp [connectR, hf, knownB, z2, hy, hy']]; exact ror_3 2 n u t 2 n' u' t' hf hf' hy hy' w
        · rw [show connectR 2 n 2 n' true = ⟨2, ofN true, 0⟩ by simp [connectR, hf, knownB, z2, hy]]; exact ror_2 2 n u t 2 n' u' t' hf hf' hy w
      · cases hy : yesB 2 n
        · rw [show connectR 2 n 0 n' true = ⟨0, 0, 0⟩ by simp [connectR, hf, hf', knownB, z2, z0, hy]]; exact ror_5 2 n u t 0 n' u' t' hf hf' hy (y0 _) rfl rfl w
        · rw [show connectR 2 n 0 n' true = ⟨2, ofN true, 0⟩ by simp [connectR, hf, hf', knownB, z2, hy]]; exact ror_2 2 n u t 0 n' u' t' hf hf' hy w
      · cases hy' : yesB 2 n'
        · rw [show connectR 0 n 2 n' true = ⟨0, 0, 0⟩ by simp [connectR, hf, hf', knownB, z2, z0, hy']]; exact ror_4 0 n u t 2 n' u' t' hf hf' (y0 _) hy' rfl w
        · rw [show connectR 0 n 2 n' true = ⟨2, ofN true, 0⟩ by simp [connectR, hf, hf', knownB, z2, hy']]; exact ror_3 0 n u t 2 n' u' t' hf hf' (y0 _) hy' w
      · rw [show connectR 0 n 0 n' true = ⟨0, 0, 0⟩ by simp [connectR, hf, knownB, z0]]; exact ror_4 0 n u t 0 n' u' t' hf hf' (y0 _) (y0 _) rfl w

end Go.Proofs.Ytmbjhahlbbhdaaa
