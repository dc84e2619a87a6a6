/-
  The document's own Add, Sub, Neg, Equal and Less answer what package logic's do.
-/
import Derived.Test.YtmbjhahlbbhdaaaQRef2
import Derived.Test.YtmbjhahlbbhdaaaQMath
namespace Go.Proofs.Ytmbjhahlbbhdaaa
open Go.RowKit

set_option maxHeartbeats 4000000 in
theorem both_0 (k n u : Int) (t : ByteArray) (k' n' u' : Int) (t' : ByteArray) (fa : fitB 1 k = false) (w : World) :
    Calls Try.prog 46 #[.agg #[.int .u8 k, .int .i64 n, .int .i64 u, .string t], .agg #[.int .u8 k', .int .i64 n', .int .i64 u', .string t']] w fun e w' => e = .returned (.tuple #[.bool false, .int .i64 60]) ∧ Below w.heap.size w w' := by
  have Hfa := Lib.hid fa
  clear fa
  have hw0 := Below.refl w.heap.size w
  go_enter Try.func46, Try.ntmps46
  go_wp2_with fail
  have hn0 := Below.allocs w (.cells #[.int .u8 k, .int .i64 n, .int .i64 u, .string t] 23)
  have An := Boxed.new w k n u t 23
  have hw1 := below_tr hw0 hn0
  have A1 := An
  clear An hn0
  have hn1 := Below.allocs (w.alloc (.cells #[.int .u8 k, .int .i64 n, .int .i64 u, .string t] 23)) (.cells #[.int .u8 k', .int .i64 n', .int .i64 u', .string t'] 23)
  have Bn := Boxed.new (w.alloc (.cells #[.int .u8 k, .int .i64 n, .int .i64 u, .string t] 23)) k' n' u' t' 23
  rw [show (w.alloc (.cells #[.int .u8 k, .int .i64 n, .int .i64 u, .string t] 23)).heap.size = w.heap.size + 1 by simp] at Bn
  have A2 := A1.below hn1
  have hw2 := below_tr hw1 hn1
  clear A1
  have B2 := Bn
  clear Bn hn1
  refine (number_is k n u t false Hfa.out _).mono ?_
  rintro e v1 ⟨rfl, hv1⟩
  have A3 := A2.below hv1
  have B3 := B2.below hv1
  have hw3 := below_tr hw2 hv1
  clear A2 B2
  clear hv1
  have a' := A3
  obtain ⟨a0, a1, a2, a3, a4⟩ := a'
  have b' := B3
  obtain ⟨b0, b1, b2, b3, b4⟩ := b'
  go_wp2_with fail
  go_ret2
  exact ⟨rfl, hw3⟩

set_option maxHeartbeats 4000000 in
theorem both_1 (k n u : Int) (t : ByteArray) (k' n' u' : Int) (t' : ByteArray) (fa : fitB 1 k = true) (fb : fitB 1 k' = false) (w : World) :
    Calls Try.prog 46 #[.agg #[.int .u8 k, .int .i64 n, .int .i64 u, .string t], .agg #[.int .u8 k', .int .i64 n', .int .i64 u', .string t']] w fun e w' => e = .returned (.tuple #[.bool false, .int .i64 60]) ∧ Below w.heap.size w w' := by
  have Hfa := Lib.hid fa
  clear fa
  have Hfb := Lib.hid fb
  clear fb
  have hw0 := Below.refl w.heap.size w
  go_enter Try.func46, Try.ntmps46
  go_wp2_with fail
  have hn0 := Below.allocs w (.cells #[.int .u8 k, .int .i64 n, .int .i64 u, .string t] 23)
  have An := Boxed.new w k n u t 23
  have hw1 := below_tr hw0 hn0
  have A1 := An
  clear An hn0
  have hn1 := Below.allocs (w.alloc (.cells #[.int .u8 k, .int .i64 n, .int .i64 u, .string t] 23)) (.cells #[.int .u8 k', .int .i64 n', .int .i64 u', .string t'] 23)
  have Bn := Boxed.new (w.alloc (.cells #[.int .u8 k, .int .i64 n, .int .i64 u, .string t] 23)) k' n' u' t' 23
  rw [show (w.alloc (.cells #[.int .u8 k, .int .i64 n, .int .i64 u, .string t] 23)).heap.size = w.heap.size + 1 by simp] at Bn
  have A2 := A1.below hn1
  have hw2 := below_tr hw1 hn1
  clear A1
  have B2 := Bn
  clear Bn hn1
  refine (number_is k n u t true Hfa.out _).mono ?_
  rintro e v1 ⟨rfl, hv1⟩
  have A3 := A2.below hv1
  have B3 := B2.below hv1
  have hw3 := below_tr hw2 hv1
  clear A2 B2
  clear hv1
  have a' := A3
  obtain ⟨a0, a1, a2, a3, a4⟩ := a'
  have b' := B3
  obtain ⟨b0, b1, b2, b3, b4⟩ := b'
  go_wp2_with fail
  clear a0 a1 a2 a3 a4 b0 b1 b2 b3 b4
  refine (number_is k' n' u' t' false Hfb.out _).mono ?_
  rintro e v2 ⟨rfl, hv2⟩
  have A4 := A3.below hv2
  have B4 := B3.below hv2
  have hw4 := below_tr hw3 hv2
  clear A3 B3
  clear hv2
  have a' := A4
  obtain ⟨a0, a1, a2, a3, a4⟩ := a'
  have b' := B4
  obtain ⟨b0, b1, b2, b3, b4⟩ := b'
  go_wp2_with fail
  go_ret2
  exact ⟨rfl, hw4⟩

set_option maxHeartbeats 4000000 in
theorem both_2 (k n u : Int) (t : ByteArray) (k' n' u' : Int) (t' : ByteArray) (fa : fitB 1 k = true) (fb : fitB 1 k' = true) (z : (k == 0) = true) (w : World) :
    Calls Try.prog 46 #[.agg #[.int .u8 k, .int .i64 n, .int .i64 u, .string t], .agg #[.int .u8 k', .int .i64 n', .int .i64 u', .string t']] w fun e w' => e = .returned (.tuple #[.bool true, .int .i64 0]) ∧ Below w.heap.size w w' := by
  have Hfa := Lib.hid fa
  clear fa
  have Hfb := Lib.hid fb
  clear fb
  have hw0 := Below.refl w.heap.size w
  go_enter Try.func46, Try.ntmps46
  go_wp2_with fail
  have hn0 := Below.allocs w (.cells #[.int .u8 k, .int .i64 n, .int .i64 u, .string t] 23)
  have An := Boxed.new w k n u t 23
  have hw1 := below_tr hw0 hn0
  have A1 := An
  clear An hn0
  have hn1 := Below.allocs (w.alloc (.cells #[.int .u8 k, .int .i64 n, .int .i64 u, .string t] 23)) (.cells #[.int .u8 k', .int .i64 n', .int .i64 u', .string t'] 23)
  have Bn := Boxed.new (w.alloc (.cells #[.int .u8 k, .int .i64 n, .int .i64 u, .string t] 23)) k' n' u' t' 23
  rw [show (w.alloc (.cells #[.int .u8 k, .int .i64 n, .int .i64 u, .string t] 23)).heap.size = w.heap.size + 1 by simp] at Bn
  have A2 := A1.below hn1
  have hw2 := below_tr hw1 hn1
  clear A1
  have B2 := Bn
  clear Bn hn1
  refine (number_is k n u t true Hfa.out _).mono ?_
  rintro e v1 ⟨rfl, hv1⟩
  have A3 := A2.below hv1
  have B3 := B2.below hv1
  have hw3 := below_tr hw2 hv1
  clear A2 B2
  clear hv1
  have a' := A3
  obtain ⟨a0, a1, a2, a3, a4⟩ := a'
  have b' := B3
  obtain ⟨b0, b1, b2, b3, b4⟩ := b'
  go_wp2_with fail
  clear a0 a1 a2 a3 a4 b0 b1 b2 b3 b4
  refine (number_is k' n' u' t' true Hfb.out _).mono ?_
  rintro e v2 ⟨rfl, hv2⟩
  have A4 := A3.below hv2
  have B4 := B3.below hv2
  have hw4 := below_tr hw3 hv2
  clear A3 B3
  clear hv2
  have a' := A4
  obtain ⟨a0, a1, a2, a3, a4⟩ := a'
  have b' := B4
  obtain ⟨b0, b1, b2, b3, b4⟩ := b'
  go_wp2_with fail
  go_ret2
  exact ⟨rfl, hw4⟩

set_option maxHeartbeats 4000000 in
theorem both_3 (k n u : Int) (t : ByteArray) (k' n' u' : Int) (t' : ByteArray) (fa : fitB 1 k = true) (fb : fitB 1 k' = true) (z : (k == 0) = false) (z2 : (k' == 0) = true) (w : World) :
    Calls Try.prog 46 #[.agg #[.int .u8 k, .int .i64 n, .int .i64 u, .string t], .agg #[.int .u8 k', .int .i64 n', .int .i64 u', .string t']] w fun e w' => e = .returned (.tuple #[.bool true, .int .i64 0]) ∧ Below w.heap.size w w' := by
  have Hfa := Lib.hid fa
  clear fa
  have Hfb := Lib.hid fb
  clear fb
  have hw0 := Below.refl w.heap.size w
  go_enter Try.func46, Try.ntmps46
  go_wp2_with fail
  have hn0 := Below.allocs w (.cells #[.int .u8 k, .int .i64 n, .int .i64 u, .string t] 23)
  have An := Boxed.new w k n u t 23
  have hw1 := below_tr hw0 hn0
  have A1 := An
  clear An hn0
  have hn1 := Below.allocs (w.alloc (.cells #[.int .u8 k, .int .i64 n, .int .i64 u, .string t] 23)) (.cells #[.int .u8 k', .int .i64 n', .int .i64 u', .string t'] 23)
  have Bn := Boxed.new (w.alloc (.cells #[.int .u8 k, .int .i64 n, .int .i64 u, .string t] 23)) k' n' u' t' 23
  rw [show (w.alloc (.cells #[.int .u8 k, .int .i64 n, .int .i64 u, .string t] 23)).heap.size = w.heap.size + 1 by simp] at Bn
  have A2 := A1.below hn1
  have hw2 := below_tr hw1 hn1
  clear A1
  have B2 := Bn
  clear Bn hn1
  refine (number_is k n u t true Hfa.out _).mono ?_
  rintro e v1 ⟨rfl, hv1⟩
  have A3 := A2.below hv1
  have B3 := B2.below hv1
  have hw3 := below_tr hw2 hv1
  clear A2 B2
  clear hv1
  have a' := A3
  obtain ⟨a0, a1, a2, a3, a4⟩ := a'
  have b' := B3
  obtain ⟨b0, b1, b2, b3, b4⟩ := b'
  go_wp2_with fail
  clear a0 a1 a2 a3 a4 b0 b1 b2 b3 b4
  refine (number_is k' n' u' t' true Hfb.out _).mono ?_
  rintro e v2 ⟨rfl, hv2⟩
  have A4 := A3.below hv2
  have B4 := B3.below hv2
  have hw4 := below_tr hw3 hv2
  clear A3 B3
  clear hv2
  have a' := A4
  obtain ⟨a0, a1, a2, a3, a4⟩ := a'
  have b' := B4
  obtain ⟨b0, b1, b2, b3, b4⟩ := b'
  go_wp2_with fail
  go_ret2
  exact ⟨rfl, hw4⟩

set_option maxHeartbeats 4000000 in
theorem both_4 (k n u : Int) (t : ByteArray) (k' n' u' : Int) (t' : ByteArray) (fa : fitB 1 k = true) (fb : fitB 1 k' = true) (z : (k == 0) = false) (z2 : (k' == 0) = false) (w : World) :
    Calls Try.prog 46 #[.agg #[.int .u8 k, .int .i64 n, .int .i64 u, .string t], .agg #[.int .u8 k', .int .i64 n', .int .i64 u', .string t']] w fun e w' => e = .returned (.tuple #[.bool false, .int .i64 0]) ∧ Below w.heap.size w w' := by
  have Hfa := Lib.hid fa
  clear fa
  have Hfb := Lib.hid fb
  clear fb
  have hw0 := Below.refl w.heap.size w
  go_enter Try.func46, Try.ntmps46
  go_wp2_with fail
  have hn0 := Below.allocs w (.cells #[.int .u8 k, .int .i64 n, .int .i64 u, .string t] 23)
  have An := Boxed.new w k n u t 23
  have hw1 := below_tr hw0 hn0
  have A1 := An
  clear An hn0
  have hn1 := Below.allocs (w.alloc (.cells #[.int .u8 k, .int .i64 n, .int .i64 u, .string t] 23)) (.cells #[.int .u8 k', .int .i64 n', .int .i64 u', .string t'] 23)
  have Bn := Boxed.new (w.alloc (.cells #[.int .u8 k, .int .i64 n, .int .i64 u, .string t] 23)) k' n' u' t' 23
  rw [show (w.alloc (.cells #[.int .u8 k, .int .i64 n, .int .i64 u, .string t] 23)).heap.size = w.heap.size + 1 by simp] at Bn
  have A2 := A1.below hn1
  have hw2 := below_tr hw1 hn1
  clear A1
  have B2 := Bn
  clear Bn hn1
  refine (number_is k n u t true Hfa.out _).mono ?_
  rintro e v1 ⟨rfl, hv1⟩
  have A3 := A2.below hv1
  have B3 := B2.below hv1
  have hw3 := below_tr hw2 hv1
  clear A2 B2
  clear hv1
  have a' := A3
  obtain ⟨a0, a1, a2, a3, a4⟩ := a'
  have b' := B3
  obtain ⟨b0, b1, b2, b3, b4⟩ := b'
  go_wp2_with fail
  clear a0 a1 a2 a3 a4 b0 b1 b2 b3 b4
  refine (number_is k' n' u' t' true Hfb.out _).mono ?_
  rintro e v2 ⟨rfl, hv2⟩
  have A4 := A3.below hv2
  have B4 := B3.below hv2
  have hw4 := below_tr hw3 hv2
  clear A3 B3
  clear hv2
  have a' := A4
  obtain ⟨a0, a1, a2, a3, a4⟩ := a'
  have b' := B4
  obtain ⟨b0, b1, b2, b3, b4⟩ := b'
  go_wp2_with fail
  go_ret2
  exact ⟨rfl, hw4⟩

/-- What the document's both answers: is one NULL; the error. -/
def bothE (k k' : Int) : Int := cond (fitB 1 k && fitB 1 k') 0 60
def bothZ (k k' : Int) : Bool := (fitB 1 k && fitB 1 k') && (nullB k || nullB k')

theorem both_is (k n u : Int) (t : ByteArray) (k' n' u' : Int) (t' : ByteArray) (z : Bool) (e : Int) (hz : bothZ k k' = z) (he : bothE k k' = e) (w : World) :
    Calls Try.prog 46 #[.agg #[.int .u8 k, .int .i64 n, .int .i64 u, .string t], .agg #[.int .u8 k', .int .i64 n', .int .i64 u', .string t']] w fun x w' => x = .returned (.tuple #[.bool z, .int .i64 e]) ∧ Below w.heap.size w w' := by
  subst hz he
  unfold bothZ bothE
  cases fa : fitB 1 k
  · exact both_0 k n u t k' n' u' t' fa w
  · cases fb : fitB 1 k'
    · exact both_1 k n u t k' n' u' t' fa fb w
    · cases z : nullB k
      · cases z2 : nullB k'
        · exact both_4 k n u t k' n' u' t' fa fb (by simpa [nullB] using z) (by simpa [nullB] using z2) w
        · exact both_3 k n u t k' n' u' t' fa fb (by simpa [nullB] using z) (by simpa [nullB] using z2) w
      · exact both_2 k n u t k' n' u' t' fa fb (by simpa [nullB] using z) w

theorem calcR_both (k k' s : Int) : calcR k k' s = cond (bothE k k' == 0) (cond (bothZ k k') ⟨0, 0, 0⟩ (cond (inR s) ⟨1, s, 0⟩ ⟨0, 0, 61⟩)) ⟨0, 0, 60⟩ := by
  unfold calcR bothE bothZ
  cases (fitB 1 k && fitB 1 k') <;> simp
theorem bothE_cases (k k' : Int) : bothE k k' = 0 ∨ (bothE k k' = 60 ∧ bothZ k k' = false) := by
  unfold bothE bothZ
  cases (fitB 1 k && fitB 1 k') <;> simp

set_option maxHeartbeats 4000000 in
theorem radd_0 (k n u : Int) (t : ByteArray) (k' n' u' : Int) (t' : ByteArray) (hz : bothZ k k' = false) (he : bothE k k' = 60) (w : World) :
    Calls Try.prog 27 #[.agg #[.int .u8 k, .int .i64 n, .int .i64 u, .string t], .agg #[.int .u8 k', .int .i64 n', .int .i64 u', .string t']] w fun e w' => e = .returned (.tuple #[.agg #[.int .u8 0, .int .i64 0, .int .i64 0, .string ⟨#[]⟩], .int .i64 60]) ∧ Below w.heap.size w w' := by
  have Hhz := Lib.hid hz
  clear hz
  have Hhe := Lib.hid he
  clear he
  have hw0 := Below.refl w.heap.size w
  go_enter Try.func27, Try.ntmps27
  go_wp2_with fail
  have hn0 := Below.allocs w (.cells #[.int .u8 k, .int .i64 n, .int .i64 u, .string t] 23)
  have An := Boxed.new w k n u t 23
  have hw1 := below_tr hw0 hn0
  have A1 := An
  clear An hn0
  have hn1 := Below.allocs (w.alloc (.cells #[.int .u8 k, .int .i64 n, .int .i64 u, .string t] 23)) (.cells #[.int .u8 k', .int .i64 n', .int .i64 u', .string t'] 23)
  have Bn := Boxed.new (w.alloc (.cells #[.int .u8 k, .int .i64 n, .int .i64 u, .string t] 23)) k' n' u' t' 23
  rw [show (w.alloc (.cells #[.int .u8 k, .int .i64 n, .int .i64 u, .string t] 23)).heap.size = w.heap.size + 1 by simp] at Bn
  have A2 := A1.below hn1
  have hw2 := below_tr hw1 hn1
  clear A1
  have B2 := Bn
  clear Bn hn1
  have hn2 := Below.allocs ((w.alloc (.cells #[.int .u8 k, .int .i64 n, .int .i64 u, .string t] 23)).alloc (.cells #[.int .u8 k', .int .i64 n', .int .i64 u', .string t'] 23)) (.cells #[.int .u8 0, .int .i64 0, .int .i64 0, .string ⟨#[]⟩] 23)
  have Rn := Boxed.new ((w.alloc (.cells #[.int .u8 k, .int .i64 n, .int .i64 u, .string t] 23)).alloc (.cells #[.int .u8 k', .int .i64 n', .int .i64 u', .string t'] 23)) 0 0 0 ⟨#[]⟩ 23
  have SRn := Soft.new ((w.alloc (.cells #[.int .u8 k, .int .i64 n, .int .i64 u, .string t] 23)).alloc (.cells #[.int .u8 k', .int .i64 n', .int .i64 u', .string t'] 23)) 0 0 0 ⟨#[]⟩ 23
  rw [show ((w.alloc (.cells #[.int .u8 k, .int .i64 n, .int .i64 u, .string t] 23)).alloc (.cells #[.int .u8 k', .int .i64 n', .int .i64 u', .string t'] 23)).heap.size = w.heap.size + 1 + 1 by simp] at Rn SRn
  have A3 := A2.below hn2
  have B3 := B2.below hn2
  have hw3 := below_tr hw2 hn2
  clear A2 B2
  have R3 := Rn
  clear Rn hn2
  have SR3 := SRn
  clear SRn
  refine (both_is k n u t k' n' u' t' false 60 Hhz.out Hhe.out _).mono ?_
  rintro e v1 ⟨rfl, hv1⟩
  have A4 := A3.below hv1
  have B4 := B3.below hv1
  have R4 := R3.below hv1
  have SR4 := SR3.below hv1
  have hw4 := below_tr hw3 hv1
  clear A3 B3 R3 SR3
  clear hv1
  have a' := A4
  obtain ⟨a0, a1, a2, a3, a4⟩ := a'
  have b' := B4
  obtain ⟨b0, b1, b2, b3, b4⟩ := b'
  have r' := R4
  obtain ⟨r0, r1, r2, r3, r4⟩ := r'
  have sr' := SR4
  obtain ⟨s0, s1, s2, s3, s4⟩ := sr'
  go_wp2_with fail
  have hwz := below_put4 hw4 (by omega : w.heap.size ≤ w.heap.size + 1 + 1) 0 0 0 ⟨#[]⟩
  obtain ⟨q0, q1, q2, q3, q4⟩ := boxed_put4 R4 0 0 0 ⟨#[]⟩
  exact bodyPost_ret (w := put4 v1 (w.heap.size + 1 + 1) 0 0 0 ⟨#[]⟩) (v := .tuple #[.agg #[.int .u8 0, .int .i64 0, .int .i64 0, .string ⟨#[]⟩], .int .i64 60]) (by simp [results, Try.results27, go_sem, q0, q1, q2, q3]) rfl ⟨rfl, hwz⟩

set_option maxHeartbeats 4000000 in
theorem radd_1 (k n u : Int) (t : ByteArray) (k' n' u' : Int) (t' : ByteArray) (hz : bothZ k k' = true) (he : bothE k k' = 0) (w : World) :
    Calls Try.prog 27 #[.agg #[.int .u8 k, .int .i64 n, .int .i64 u, .string t], .agg #[.int .u8 k', .int .i64 n', .int .i64 u', .string t']] w fun e w' => e = .returned (.tuple #[.agg #[.int .u8 0, .int .i64 0, .int .i64 0, .string ⟨#[]⟩], .int .i64 0]) ∧ Below w.heap.size w w' := by
  have Hhz := Lib.hid hz
  clear hz
  have Hhe := Lib.hid he
  clear he
  have hw0 := Below.refl w.heap.size w
  go_enter Try.func27, Try.ntmps27
  go_wp2_with fail
  have hn0 := Below.allocs w (.cells #[.int .u8 k, .int .i64 n, .int .i64 u, .string t] 23)
  have An := Boxed.new w k n u t 23
  have hw1 := below_tr hw0 hn0
  have A1 := An
  clear An hn0
  have hn1 := Below.allocs (w.alloc (.cells #[.int .u8 k, .int .i64 n, .int .i64 u, .string t] 23)) (.cells #[.int .u8 k', .int .i64 n', .int .i64 u', .string t'] 23)
  have Bn := Boxed.new (w.alloc (.cells #[.int .u8 k, .int .i64 n, .int .i64 u, .string t] 23)) k' n' u' t' 23
  rw [show (w.alloc (.cells #[.int .u8 k, .int .i64 n, .int .i64 u, .string t] 23)).heap.size = w.heap.size + 1 by simp] at Bn
  have A2 := A1.below hn1
  have hw2 := below_tr hw1 hn1
  clear A1
  have B2 := Bn
  clear Bn hn1
  have hn2 := Below.allocs ((w.alloc (.cells #[.int .u8 k, .int .i64 n, .int .i64 u, .string t] 23)).alloc (.cells #[.int .u8 k', .int .i64 n', .int .i64 u', .string t'] 23)) (.cells #[.int .u8 0, .int .i64 0, .int .i64 0, .string ⟨#[]⟩] 23)
  have Rn := Boxed.new ((w.alloc (.cells #[.int .u8 k, .int .i64 n, .int .i64 u, .string t] 23)).alloc (.cells #[.int .u8 k', .int .i64 n', .int .i64 u', .string t'] 23)) 0 0 0 ⟨#[]⟩ 23
  have SRn := Soft.new ((w.alloc (.cells #[.int .u8 k, .int .i64 n, .int .i64 u, .string t] 23)).alloc (.cells #[.int .u8 k', .int .i64 n', .int .i64 u', .string t'] 23)) 0 0 0 ⟨#[]⟩ 23
  rw [show ((w.alloc (.cells #[.int .u8 k, .int .i64 n, .int .i64 u, .string t] 23)).alloc (.cells #[.int .u8 k', .int .i64 n', .int .i64 u', .string t'] 23)).heap.size = w.heap.size + 1 + 1 by simp] at Rn SRn
  have A3 := A2.below hn2
  have B3 := B2.below hn2
  have hw3 := below_tr hw2 hn2
  clear A2 B2
  have R3 := Rn
  clear Rn hn2
  have SR3 := SRn
  clear SRn
  refine (both_is k n u t k' n' u' t' true 0 Hhz.out Hhe.out _).mono ?_
  rintro e v1 ⟨rfl, hv1⟩
  have A4 := A3.below hv1
  have B4 := B3.below hv1
  have R4 := R3.below hv1
  have SR4 := SR3.below hv1
  have hw4 := below_tr hw3 hv1
  clear A3 B3 R3 SR3
  clear hv1
  have a' := A4
  obtain ⟨a0, a1, a2, a3, a4⟩ := a'
  have b' := B4
  obtain ⟨b0, b1, b2, b3, b4⟩ := b'
  have r' := R4
  obtain ⟨r0, r1, r2, r3, r4⟩ := r'
  have sr' := SR4
  obtain ⟨s0, s1, s2, s3, s4⟩ := sr'
  go_wp2_with fail
  have hwz := below_put4 hw4 (by omega : w.heap.size ≤ w.heap.size + 1 + 1) 0 0 0 ⟨#[]⟩
  obtain ⟨q0, q1, q2, q3, q4⟩ := boxed_put4 R4 0 0 0 ⟨#[]⟩
  exact bodyPost_ret (w := put4 v1 (w.heap.size + 1 + 1) 0 0 0 ⟨#[]⟩) (v := .tuple #[.agg #[.int .u8 0, .int .i64 0, .int .i64 0, .string ⟨#[]⟩], .int .i64 0]) (by simp [results, Try.results27, go_sem, q0, q1, q2, q3]) rfl ⟨rfl, hwz⟩

set_option maxHeartbeats 4000000 in
theorem radd_2 (k n u : Int) (t : ByteArray) (k' n' u' : Int) (t' : ByteArray) (hz : bothZ k k' = false) (he : bothE k k' = 0) (a1 : decide (0 < n') = true) (a2 : decide (wrap64 (9223372036854775807 - n') < n) = true) (w : World) :
    Calls Try.prog 27 #[.agg #[.int .u8 k, .int .i64 n, .int .i64 u, .string t], .agg #[.int .u8 k', .int .i64 n', .int .i64 u', .string t']] w fun e w' => e = .returned (.tuple #[.agg #[.int .u8 0, .int .i64 0, .int .i64 0, .string ⟨#[]⟩], .int .i64 61]) ∧ Below w.heap.size w w' := by
  have Hhz := Lib.hid hz
  clear hz
  have Hhe := Lib.hid he
  clear he
  have hw0 := Below.refl w.heap.size w
  go_enter Try.func27, Try.ntmps27
  go_wp2_with fail
  have hn0 := Below.allocs w (.cells #[.int .u8 k, .int .i64 n, .int .i64 u, .string t] 23)
  have An := Boxed.new w k n u t 23
  have hw1 := below_tr hw0 hn0
  have A1 := An
  clear An hn0
  have hn1 := Below.allocs (w.alloc (.cells #[.int .u8 k, .int .i64 n, .int .i64 u, .string t] 23)) (.cells #[.int .u8 k', .int .i64 n', .int .i64 u', .string t'] 23)
  have Bn := Boxed.new (w.alloc (.cells #[.int .u8 k, .int .i64 n, .int .i64 u, .string t] 23)) k' n' u' t' 23
  rw [show (w.alloc (.cells #[.int .u8 k, .int .i64 n, .int .i64 u, .string t] 23)).heap.size = w.heap.size + 1 by simp] at Bn
  have A2 := A1.below hn1
  have hw2 := below_tr hw1 hn1
  clear A1
  have B2 := Bn
  clear Bn hn1
  have hn2 := Below.allocs ((w.alloc (.cells #[.int .u8 k, .int .i64 n, .int .i64 u, .string t] 23)).alloc (.cells #[.int .u8 k', .int .i64 n', .int .i64 u', .string t'] 23)) (.cells #[.int .u8 0, .int .i64 0, .int .i64 0, .string ⟨#[]⟩] 23)
  have Rn := Boxed.new ((w.alloc (.cells #[.int .u8 k, .int .i64 n, .int .i64 u, .string t] 23)).alloc (.cells #[.int .u8 k', .int .i64 n', .int .i64 u', .string t'] 23)) 0 0 0 ⟨#[]⟩ 23
  have SRn := Soft.new ((w.alloc (.cells #[.int .u8 k, .int .i64 n, .int .i64 u, .string t] 23)).alloc (.cells #[.int .u8 k', .int .i64 n', .int .i64 u', .string t'] 23)) 0 0 0 ⟨#[]⟩ 23
  rw [show ((w.alloc (.cells #[.int .u8 k, .int .i64 n, .int .i64 u, .string t] 23)).alloc (.cells #[.int .u8 k', .int .i64 n', .int .i64 u', .string t'] 23)).heap.size = w.heap.size + 1 + 1 by simp] at Rn SRn
  have A3 := A2.below hn2
  have B3 := B2.below hn2
  have hw3 := below_tr hw2 hn2
  clear A2 B2
  have R3 := Rn
  clear Rn hn2
  have SR3 := SRn
  clear SRn
  refine (both_is k n u t k' n' u' t' false 0 Hhz.out Hhe.out _).mono ?_
  rintro e v1 ⟨rfl, hv1⟩
  have A4 := A3.below hv1
  have B4 := B3.below hv1
  have R4 := R3.below hv1
  have SR4 := SR3.below hv1
  have hw4 := below_tr hw3 hv1
  clear A3 B3 R3 SR3
  clear hv1
  have a' := A4
  obtain ⟨a0, a1, a2, a3, a4⟩ := a'
  have b' := B4
  obtain ⟨b0, b1, b2, b3, b4⟩ := b'
  have r' := R4
  obtain ⟨r0, r1, r2, r3, r4⟩ := r'
  have sr' := SR4
  obtain ⟨s0, s1, s2, s3, s4⟩ := sr'
  go_wp2_with fail
  have hwz := below_put4 hw4 (by omega : w.heap.size ≤ w.heap.size + 1 + 1) 0 0 0 ⟨#[]⟩
  obtain ⟨q0, q1, q2, q3, q4⟩ := boxed_put4 R4 0 0 0 ⟨#[]⟩
  exact bodyPost_ret (w := put4 v1 (w.heap.size + 1 + 1) 0 0 0 ⟨#[]⟩) (v := .tuple #[.agg #[.int .u8 0, .int .i64 0, .int .i64 0, .string ⟨#[]⟩], .int .i64 61]) (by simp [results, Try.results27, go_sem, q0, q1, q2, q3]) rfl ⟨rfl, hwz⟩

set_option maxHeartbeats 4000000 in
theorem radd_3 (k n u : Int) (t : ByteArray) (k' n' u' : Int) (t' : ByteArray) (hz : bothZ k k' = false) (he : bothE k k' = 0) (a1 : decide (0 < n') = true) (a2 : decide (wrap64 (9223372036854775807 - n') < n) = false) (a3 : decide (n' < 0) = false) (p : Int) (hp : wrap64 (n + n') = p) (w : World) :
    Calls Try.prog 27 #[.agg #[.int .u8 k, .int .i64 n, .int .i64 u, .string t], .agg #[.int .u8 k', .int .i64 n', .int .i64 u', .string t']] w fun e w' => e = .returned (.tuple #[.agg #[.int .u8 1, .int .i64 p, .int .i64 0, .string ⟨#[]⟩], .int .i64 0]) ∧ Below w.heap.size w w' := by
  have Hhz := Lib.hid hz
  clear hz
  have Hhe := Lib.hid he
  clear he
  have hw0 := Below.refl w.heap.size w
  go_enter Try.func27, Try.ntmps27
  go_wp2_with fail
  have hn0 := Below.allocs w (.cells #[.int .u8 k, .int .i64 n, .int .i64 u, .string t] 23)
  have An := Boxed.new w k n u t 23
  have hw1 := below_tr hw0 hn0
  have A1 := An
  clear An hn0
  have hn1 := Below.allocs (w.alloc (.cells #[.int .u8 k, .int .i64 n, .int .i64 u, .string t] 23)) (.cells #[.int .u8 k', .int .i64 n', .int .i64 u', .string t'] 23)
  have Bn := Boxed.new (w.alloc (.cells #[.int .u8 k, .int .i64 n, .int .i64 u, .string t] 23)) k' n' u' t' 23
  rw [show (w.alloc (.cells #[.int .u8 k, .int .i64 n, .int .i64 u, .string t] 23)).heap.size = w.heap.size + 1 by simp] at Bn
  have A2 := A1.below hn1
  have hw2 := below_tr hw1 hn1
  clear A1
  have B2 := Bn
  clear Bn hn1
  have hn2 := Below.allocs ((w.alloc (.cells #[.int .u8 k, .int .i64 n, .int .i64 u, .string t] 23)).alloc (.cells #[.int .u8 k', .int .i64 n', .int .i64 u', .string t'] 23)) (.cells #[.int .u8 0, .int .i64 0, .int .i64 0, .string ⟨#[]⟩] 23)
  have Rn := Boxed.new ((w.alloc (.cells #[.int .u8 k, .int .i64 n, .int .i64 u, .string t] 23)).alloc (.cells #[.int .u8 k', .int .i64 n', .int .i64 u', .string t'] 23)) 0 0 0 ⟨#[]⟩ 23
  have SRn := Soft.new ((w.alloc (.cells #[.int .u8 k, .int .i64 n, .int .i64 u, .string t] 23)).alloc (.cells #[.int .u8 k', .int .i64 n', .int .i64 u', .string t'] 23)) 0 0 0 ⟨#[]⟩ 23
  rw [show ((w.alloc (.cells #[.int .u8 k, .int .i64 n, .int .i64 u, .string t] 23)).alloc (.cells #[.int .u8 k', .int .i64 n', .int .i64 u', .string t'] 23)).heap.size = w.heap.size + 1 + 1 by simp] at Rn SRn
  have A3 := A2.below hn2
  have B3 := B2.below hn2
  have hw3 := below_tr hw2 hn2
  clear A2 B2
  have R3 := Rn
  clear Rn hn2
  have SR3 := SRn
  clear SRn
  refine (both_is k n u t k' n' u' t' false 0 Hhz.out Hhe.out _).mono ?_
  rintro e v1 ⟨rfl, hv1⟩
  have A4 := A3.below hv1
  have B4 := B3.below hv1
  have R4 := R3.below hv1
  have SR4 := SR3.below hv1
  have hw4 := below_tr hw3 hv1
  clear A3 B3 R3 SR3
  clear hv1
  have a' := A4
  obtain ⟨a0, a1, a2, a3, a4⟩ := a'
  have b' := B4
  obtain ⟨b0, b1, b2, b3, b4⟩ := b'
  have r' := R4
  obtain ⟨r0, r1, r2, r3, r4⟩ := r'
  go_wp2_with fail
  clear a0 a1 a2 a3 a4 b0 b1 b2 b3 b4 r0 r1 r2 r3 r4
  refine (rint_is p _).mono ?_
  rintro e v2 ⟨rfl, hv2⟩
  have A5 := A4.below hv2
  have B5 := B4.below hv2
  have R5 := R4.below hv2
  have SR5 := SR4.below hv2
  have hw5 := below_tr hw4 hv2
  clear A4 B4 R4 SR4
  clear hv2
  have a' := A5
  obtain ⟨a0, a1, a2, a3, a4⟩ := a'
  have b' := B5
  obtain ⟨b0, b1, b2, b3, b4⟩ := b'
  have r' := R5
  obtain ⟨r0, r1, r2, r3, r4⟩ := r'
  have sr' := SR5
  obtain ⟨s0, s1, s2, s3, s4⟩ := sr'
  go_wp2_with fail
  have hwz := below_put4 hw5 (by omega : w.heap.size ≤ w.heap.size + 1 + 1) 1 p 0 ⟨#[]⟩
  obtain ⟨q0, q1, q2, q3, q4⟩ := boxed_put4 R5 1 p 0 ⟨#[]⟩
  exact bodyPost_ret (w := put4 v2 (w.heap.size + 1 + 1) 1 p 0 ⟨#[]⟩) (v := .tuple #[.agg #[.int .u8 1, .int .i64 p, .int .i64 0, .string ⟨#[]⟩], .int .i64 0]) (by simp [results, Try.results27, go_sem, q0, q1, q2, q3]) rfl ⟨rfl, hwz⟩

set_option maxHeartbeats 4000000 in
theorem radd_4 (k n u : Int) (t : ByteArray) (k' n' u' : Int) (t' : ByteArray) (hz : bothZ k k' = false) (he : bothE k k' = 0) (a1 : decide (0 < n') = false) (a3 : decide (n' < 0) = true) (a4 : decide (n < wrap64 (-9223372036854775808 - n')) = true) (w : World) :
    Calls Try.prog 27 #[.agg #[.int .u8 k, .int .i64 n, .int .i64 u, .string t], .agg #[.int .u8 k', .int .i64 n', .int .i64 u', .string t']] w fun e w' => e = .returned (.tuple #[.agg #[.int .u8 0, .int .i64 0, .int .i64 0, .string ⟨#[]⟩], .int .i64 61]) ∧ Below w.heap.size w w' := by
  have Hhz := Lib.hid hz
  clear hz
  have Hhe := Lib.hid he
  clear he
  have hw0 := Below.refl w.heap.size w
  go_enter Try.func27, Try.ntmps27
  go_wp2_with fail
  have hn0 := Below.allocs w (.cells #[.int .u8 k, .int .i64 n, .int .i64 u, .string t] 23)
  have An := Boxed.new w k n u t 23
  have hw1 := below_tr hw0 hn0
  have A1 := An
  clear An hn0
  have hn1 := Below.allocs (w.alloc (.cells #[.int .u8 k, .int .i64 n, .int .i64 u, .string t] 23)) (.cells #[.int .u8 k', .int .i64 n', .int .i64 u', .string t'] 23)
  have Bn := Boxed.new (w.alloc (.cells #[.int .u8 k, .int .i64 n, .int .i64 u, .string t] 23)) k' n' u' t' 23
  rw [show (w.alloc (.cells #[.int .u8 k, .int .i64 n, .int .i64 u, .string t] 23)).heap.size = w.heap.size + 1 by simp] at Bn
  have A2 := A1.below hn1
  have hw2 := below_tr hw1 hn1
  clear A1
  have B2 := Bn
  clear Bn hn1
  have hn2 := Below.allocs ((w.alloc (.cells #[.int .u8 k, .int .i64 n, .int .i64 u, .string t] 23)).alloc (.cells #[.int .u8 k', .int .i64 n', .int .i64 u', .string t'] 23)) (.cells #[.int .u8 0, .int .i64 0, .int .i64 0, .string ⟨#[]⟩] 23)
  have Rn := Boxed.new ((w.alloc (.cells #[.int .u8 k, .int .i64 n, .int .i64 u, .string t] 23)).alloc (.cells #[.int .u8 k', .int .i64 n', .int .i64 u', .string t'] 23)) 0 0 0 ⟨#[]⟩ 23
  have SRn := Soft.new ((w.alloc (.cells #[.int .u8 k, .int .i64 n, .int .i64 u, .string t] 23)).alloc (.cells #[.int .u8 k', .int .i64 n', .int .i64 u', .string t'] 23)) 0 0 0 ⟨#[]⟩ 23
  rw [show ((w.alloc (.cells #[.int .u8 k, .int .i64 n, .int .i64 u, .string t] 23)).alloc (.cells #[.int .u8 k', .int .i64 n', .int .i64 u', .string t'] 23)).heap.size = w.heap.size + 1 + 1 by simp] at Rn SRn
  have A3 := A2.below hn2
  have B3 := B2.below hn2
  have hw3 := below_tr hw2 hn2
  clear A2 B2
  have R3 := Rn
  clear Rn hn2
  have SR3 := SRn
  clear SRn
  refine (both_is k n u t k' n' u' t' false 0 Hhz.out Hhe.out _).mono ?_
  rintro e v1 ⟨rfl, hv1⟩
  have A4 := A3.below hv1
  have B4 := B3.below hv1
  have R4 := R3.below hv1
  have SR4 := SR3.below hv1
  have hw4 := below_tr hw3 hv1
  clear A3 B3 R3 SR3
  clear hv1
  have a' := A4
  obtain ⟨a0, a1, a2, a3, a4⟩ := a'
  have b' := B4
  obtain ⟨b0, b1, b2, b3, b4⟩ := b'
  have r' := R4
  obtain ⟨r0, r1, r2, r3, r4⟩ := r'
  have sr' := SR4
  obtain ⟨s0, s1, s2, s3, s4⟩ := sr'
  go_wp2_with fail
  have hwz := below_put4 hw4 (by omega : w.heap.size ≤ w.heap.size + 1 + 1) 0 0 0 ⟨#[]⟩
  obtain ⟨q0, q1, q2, q3, q4⟩ := boxed_put4 R4 0 0 0 ⟨#[]⟩
  exact bodyPost_ret (w := put4 v1 (w.heap.size + 1 + 1) 0 0 0 ⟨#[]⟩) (v := .tuple #[.agg #[.int .u8 0, .int .i64 0, .int .i64 0, .string ⟨#[]⟩], .int .i64 61]) (by simp [results, Try.results27, go_sem, q0, q1, q2, q3]) rfl ⟨rfl, hwz⟩

set_option maxHeartbeats 4000000 in
theorem radd_5 (k n u : Int) (t : ByteArray) (k' n' u' : Int) (t' : ByteArray) (hz : bothZ k k' = false) (he : bothE k k' = 0) (a1 : decide (0 < n') = false) (a3 : decide (n' < 0) = true) (a4 : decide (n < wrap64 (-9223372036854775808 - n')) = false) (p : Int) (hp : wrap64 (n + n') = p) (w : World) :
    Calls Try.prog 27 #[.agg #[.int .u8 k, .int .i64 n, .int .i64 u, .string t], .agg #[.int .u8 k', .int .i64 n', .int .i64 u', .string t']] w fun e w' => e = .returned (.tuple #[.agg #[.int .u8 1, .int .i64 p, .int .i64 0, .string ⟨#[]⟩], .int .i64 0]) ∧ Below w.heap.size w w' := by
  have Hhz := Lib.hid hz
  clear hz
  have Hhe := Lib.hid he
  clear he
  have hw0 := Below.refl w.heap.size w
  go_enter Try.func27, Try.ntmps27
  go_wp2_with fail
  have hn0 := Below.allocs w (.cells #[.int .u8 k, .int .i64 n, .int .i64 u, .string t] 23)
  have An := Boxed.new w k n u t 23
  have hw1 := below_tr hw0 hn0
  have A1 := An
  clear An hn0
  have hn1 := Below.allocs (w.alloc (.cells #[.int .u8 k, .int .i64 n, .int .i64 u, .string t] 23)) (.cells #[.int .u8 k', .int .i64 n', .int .i64 u', .string t'] 23)
  have Bn := Boxed.new (w.alloc (.cells #[.int .u8 k, .int .i64 n, .int .i64 u, .string t] 23)) k' n' u' t' 23
  rw [show (w.alloc (.cells #[.int .u8 k, .int .i64 n, .int .i64 u, .string t] 23)).heap.size = w.heap.size + 1 by simp] at Bn
  have A2 := A1.below hn1
  have hw2 := below_tr hw1 hn1
  clear A1
  have B2 := Bn
  clear Bn hn1
  have hn2 := Below.allocs ((w.alloc (.cells #[.int .u8 k, .int .i64 n, .int .i64 u, .string t] 23)).alloc (.cells #[.int .u8 k', .int .i64 n', .int .i64 u', .string t'] 23)) (.cells #[.int .u8 0, .int .i64 0, .int .i64 0, .string ⟨#[]⟩] 23)
  have Rn := Boxed.new ((w.alloc (.cells #[.int .u8 k, .int .i64 n, .int .i64 u, .string t] 23)).alloc (.cells #[.int .u8 k', .int .i64 n', .int .i64 u', .string t'] 23)) 0 0 0 ⟨#[]⟩ 23
  have SRn := Soft.new ((w.alloc (.cells #[.int .u8 k, .int .i64 n, .int .i64 u, .string t] 23)).alloc (.cells #[.int .u8 k', .int .i64 n', .int .i64 u', .string t'] 23)) 0 0 0 ⟨#[]⟩ 23
  rw [show ((w.alloc (.cells #[.int .u8 k, .int .i64 n, .int .i64 u, .string t] 23)).alloc (.cells #[.int .u8 k', .int .i64 n', .int .i64 u', .string t'] 23)).heap.size = w.heap.size + 1 + 1 by simp] at Rn SRn
  have A3 := A2.below hn2
  have B3 := B2.below hn2
  have hw3 := below_tr hw2 hn2
  clear A2 B2
  have R3 := Rn
  clear Rn hn2
  have SR3 := SRn
  clear SRn
  refine (both_is k n u t k' n' u' t' false 0 Hhz.out Hhe.out _).mono ?_
  rintro e v1 ⟨rfl, hv1⟩
  have A4 := A3.below hv1
  have B4 := B3.below hv1
  have R4 := R3.below hv1
  have SR4 := SR3.below hv1
  have hw4 := below_tr hw3 hv1
  clear A3 B3 R3 SR3
  clear hv1
  have a' := A4
  obtain ⟨a0, a1, a2, a3, a4⟩ := a'
  have b' := B4
  obtain ⟨b0, b1, b2, b3, b4⟩ := b'
  have r' := R4
  obtain ⟨r0, r1, r2, r3, r4⟩ := r'
  go_wp2_with fail
  clear a0 a1 a2 a3 a4 b0 b1 b2 b3 b4 r0 r1 r2 r3 r4
  refine (rint_is p _).mono ?_
  rintro e v2 ⟨rfl, hv2⟩
  have A5 := A4.below hv2
  have B5 := B4.below hv2
  have R5 := R4.below hv2
  have SR5 := SR4.below hv2
  have hw5 := below_tr hw4 hv2
  clear A4 B4 R4 SR4
  clear hv2
  have a' := A5
  obtain ⟨a0, a1, a2, a3, a4⟩ := a'
  have b' := B5
  obtain ⟨b0, b1, b2, b3, b4⟩ := b'
  have r' := R5
  obtain ⟨r0, r1, r2, r3, r4⟩ := r'
  have sr' := SR5
  obtain ⟨s0, s1, s2, s3, s4⟩ := sr'
  go_wp2_with fail
  have hwz := below_put4 hw5 (by omega : w.heap.size ≤ w.heap.size + 1 + 1) 1 p 0 ⟨#[]⟩
  obtain ⟨q0, q1, q2, q3, q4⟩ := boxed_put4 R5 1 p 0 ⟨#[]⟩
  exact bodyPost_ret (w := put4 v2 (w.heap.size + 1 + 1) 1 p 0 ⟨#[]⟩) (v := .tuple #[.agg #[.int .u8 1, .int .i64 p, .int .i64 0, .string ⟨#[]⟩], .int .i64 0]) (by simp [results, Try.results27, go_sem, q0, q1, q2, q3]) rfl ⟨rfl, hwz⟩

set_option maxHeartbeats 4000000 in
theorem radd_6 (k n u : Int) (t : ByteArray) (k' n' u' : Int) (t' : ByteArray) (hz : bothZ k k' = false) (he : bothE k k' = 0) (a1 : decide (0 < n') = false) (a3 : decide (n' < 0) = false) (p : Int) (hp : wrap64 (n + n') = p) (w : World) :
    Calls Try.prog 27 #[.agg #[.int .u8 k, .int .i64 n, .int .i64 u, .string t], .agg #[.int .u8 k', .int .i64 n', .int .i64 u', .string t']] w fun e w' => e = .returned (.tuple #[.agg #[.int .u8 1, .int .i64 p, .int .i64 0, .string ⟨#[]⟩], .int .i64 0]) ∧ Below w.heap.size w w' := by
  have Hhz := Lib.hid hz
  clear hz
  have Hhe := Lib.hid he
  clear he
  have hw0 := Below.refl w.heap.size w
  go_enter Try.func27, Try.ntmps27
  go_wp2_with fail
  have hn0 := Below.allocs w (.cells #[.int .u8 k, .int .i64 n, .int .i64 u, .string t] 23)
  have An := Boxed.new w k n u t 23
  have hw1 := below_tr hw0 hn0
  have A1 := An
  clear An hn0
  have hn1 := Below.allocs (w.alloc (.cells #[.int .u8 k, .int .i64 n, .int .i64 u, .string t] 23)) (.cells #[.int .u8 k', .int .i64 n', .int .i64 u', .string t'] 23)
  have Bn := Boxed.new (w.alloc (.cells #[.int .u8 k, .int .i64 n, .int .i64 u, .string t] 23)) k' n' u' t' 23
  rw [show (w.alloc (.cells #[.int .u8 k, .int .i64 n, .int .i64 u, .string t] 23)).heap.size = w.heap.size + 1 by simp] at Bn
  have A2 := A1.below hn1
  have hw2 := below_tr hw1 hn1
  clear A1
  have B2 := Bn
  clear Bn hn1
  have hn2 := Below.allocs ((w.alloc (.cells #[.int .u8 k, .int .i64 n, .int .i64 u, .string t] 23)).alloc (.cells #[.int .u8 k', .int .i64 n', .int .i64 u', .string t'] 23)) (.cells #[.int .u8 0, .int .i64 0, .int .i64 0, .string ⟨#[]⟩] 23)
  have Rn := Boxed.new ((w.alloc (.cells #[.int .u8 k, .int .i64 n, .int .i64 u, .string t] 23)).alloc (.cells #[.int .u8 k', .int .i64 n', .int .i64 u', .string t'] 23)) 0 0 0 ⟨#[]⟩ 23
  have SRn := Soft.new ((w.alloc (.cells #[.int .u8 k, .int .i64 n, .int .i64 u, .string t] 23)).alloc (.cells #[.int .u8 k', .int .i64 n', .int .i64 u', .string t'] 23)) 0 0 0 ⟨#[]⟩ 23
  rw [show ((w.alloc (.cells #[.int .u8 k, .int .i64 n, .int .i64 u, .string t] 23)).alloc (.cells #[.int .u8 k', .int .i64 n', .int .i64 u', .string t'] 23)).heap.size = w.heap.size + 1 + 1 by simp] at Rn SRn
  have A3 := A2.below hn2
  have B3 := B2.below hn2
  have hw3 := below_tr hw2 hn2
  clear A2 B2
  have R3 := Rn
  clear Rn hn2
  have SR3 := SRn
  clear SRn
  refine (both_is k n u t k' n' u' t' false 0 Hhz.out Hhe.out _).mono ?_
  rintro e v1 ⟨rfl, hv1⟩
  have A4 := A3.below hv1
  have B4 := B3.below hv1
  have R4 := R3.below hv1
  have SR4 := SR3.below hv1
  have hw4 := below_tr hw3 hv1
  clear A3 B3 R3 SR3
  clear hv1
  have a' := A4
  obtain ⟨a0, a1, a2, a3, a4⟩ := a'
  have b' := B4
  obtain ⟨b0, b1, b2, b3, b4⟩ := b'
  have r' := R4
  obtain ⟨r0, r1, r2, r3, r4⟩ := r'
  go_wp2_with fail
  clear a0 a1 a2 a3 a4 b0 b1 b2 b3 b4 r0 r1 r2 r3 r4
  refine (rint_is p _).mono ?_
  rintro e v2 ⟨rfl, hv2⟩
  have A5 := A4.below hv2
  have B5 := B4.below hv2
  have R5 := R4.below hv2
  have SR5 := SR4.below hv2
  have hw5 := below_tr hw4 hv2
  clear A4 B4 R4 SR4
  clear hv2
  have a' := A5
  obtain ⟨a0, a1, a2, a3, a4⟩ := a'
  have b' := B5
  obtain ⟨b0, b1, b2, b3, b4⟩ := b'
  have r' := R5
  obtain ⟨r0, r1, r2, r3, r4⟩ := r'
  have sr' := SR5
  obtain ⟨s0, s1, s2, s3, s4⟩ := sr'
  go_wp2_with fail
  have hwz := below_put4 hw5 (by omega : w.heap.size ≤ w.heap.size + 1 + 1) 1 p 0 ⟨#[]⟩
  obtain ⟨q0, q1, q2, q3, q4⟩ := boxed_put4 R5 1 p 0 ⟨#[]⟩
  exact bodyPost_ret (w := put4 v2 (w.heap.size + 1 + 1) 1 p 0 ⟨#[]⟩) (v := .tuple #[.agg #[.int .u8 1, .int .i64 p, .int .i64 0, .string ⟨#[]⟩], .int .i64 0]) (by simp [results, Try.results27, go_sem, q0, q1, q2, q3]) rfl ⟨rfl, hwz⟩

theorem radd_is (k n u : Int) (t : ByteArray) (k' n' u' : Int) (t' : ByteArray) (r : Res) (hr : calcR k k' (n + n') = r) (hn : I64 n) (hm : I64 n') (w : World) :
    Calls Try.prog 27 #[.agg #[.int .u8 k, .int .i64 n, .int .i64 u, .string t], .agg #[.int .u8 k', .int .i64 n', .int .i64 u', .string t']] w fun e w' => e = .returned (.tuple #[.agg #[.int .u8 r.k, .int .i64 r.n, .int .i64 0, .string ⟨#[]⟩], .int .i64 r.e]) ∧ Below w.heap.size w w' := by
  subst hr
  rw [calcR_both]
  rcases bothE_cases k k' with he | ⟨he, hz⟩
  · rw [he]
    cases hz : bothZ k k'
    · cases hi : inR (n + n')
      · have hi' : ¬ I64 (n + n') := fun h => by rw [inR_iff.2 h] at hi; cases hi
        unfold I64 at hn hm hi'
        by_cases c1 : 0 < n'
        · exact radd_2 k n u t k' n' u' t' hz he (decide_eq_true c1) (decide_eq_true (by unfold wrap64; omega)) w
        · by_cases c2 : n' < 0
          · exact radd_4 k n u t k' n' u' t' hz he (decide_eq_false c1) (decide_eq_true c2) (decide_eq_true (by unfold wrap64; omega)) w
          · exfalso; omega
      · have hi' := inR_iff.1 hi
        have hp := wrap_in hi'
        unfold I64 at hn hm hi'
        by_cases c1 : 0 < n'
        · exact radd_3 k n u t k' n' u' t' hz he (decide_eq_true c1) (decide_eq_false (by unfold wrap64; omega)) (decide_eq_false (by omega)) _ hp w
        · by_cases c2 : n' < 0
          · exact radd_5 k n u t k' n' u' t' hz he (decide_eq_false c1) (decide_eq_true c2) (decide_eq_false (by unfold wrap64; omega)) _ hp w
          · exact radd_6 k n u t k' n' u' t' hz he (decide_eq_false c1) (decide_eq_false c2) _ hp w
    · exact radd_1 k n u t k' n' u' t' hz he w
  · rw [he]
    exact radd_0 k n u t k' n' u' t' hz he w

set_option maxHeartbeats 4000000 in
theorem rsub_0 (k n u : Int) (t : ByteArray) (k' n' u' : Int) (t' : ByteArray) (hz : bothZ k k' = false) (he : bothE k k' = 60) (w : World) :
    Calls Try.prog 29 #[.agg #[.int .u8 k, .int .i64 n, .int .i64 u, .string t], .agg #[.int .u8 k', .int .i64 n', .int .i64 u', .string t']] w fun e w' => e = .returned (.tuple #[.agg #[.int .u8 0, .int .i64 0, .int .i64 0, .string ⟨#[]⟩], .int .i64 60]) ∧ Below w.heap.size w w' := by
  have Hhz := Lib.hid hz
  clear hz
  have Hhe := Lib.hid he
  clear he
  have hw0 := Below.refl w.heap.size w
  go_enter Try.func29, Try.ntmps29
  go_wp2_with fail
  have hn0 := Below.allocs w (.cells #[.int .u8 k, .int .i64 n, .int .i64 u, .string t] 23)
  have An := Boxed.new w k n u t 23
  have hw1 := below_tr hw0 hn0
  have A1 := An
  clear An hn0
  have hn1 := Below.allocs (w.alloc (.cells #[.int .u8 k, .int .i64 n, .int .i64 u, .string t] 23)) (.cells #[.int .u8 k', .int .i64 n', .int .i64 u', .string t'] 23)
  have Bn := Boxed.new (w.alloc (.cells #[.int .u8 k, .int .i64 n, .int .i64 u, .string t] 23)) k' n' u' t' 23
  rw [show (w.alloc (.cells #[.int .u8 k, .int .i64 n, .int .i64 u, .string t] 23)).heap.size = w.heap.size + 1 by simp] at Bn
  have A2 := A1.below hn1
  have hw2 := below_tr hw1 hn1
  clear A1
  have B2 := Bn
  clear Bn hn1
  have hn2 := Below.allocs ((w.alloc (.cells #[.int .u8 k, .int .i64 n, .int .i64 u, .string t] 23)).alloc (.cells #[.int .u8 k', .int .i64 n', .int .i64 u', .string t'] 23)) (.cells #[.int .u8 0, .int .i64 0, .int .i64 0, .string ⟨#[]⟩] 23)
  have Rn := Boxed.new ((w.alloc (.cells #[.int .u8 k, .int .i64 n, .int .i64 u, .string t] 23)).alloc (.cells #[.int .u8 k', .int .i64 n', .int .i64 u', .string t'] 23)) 0 0 0 ⟨#[]⟩ 23
  have SRn := Soft.new ((w.alloc (.cells #[.int .u8 k, .int .i64 n, .int .i64 u, .string t] 23)).alloc (.cells #[.int .u8 k', .int .i64 n', .int .i64 u', .string t'] 23)) 0 0 0 ⟨#[]⟩ 23
  rw [show ((w.alloc (.cells #[.int .u8 k, .int .i64 n, .int .i64 u, .string t] 23)).alloc (.cells #[.int .u8 k', .int .i64 n', .int .i64 u', .string t'] 23)).heap.size = w.heap.size + 1 + 1 by simp] at Rn SRn
  have A3 := A2.below hn2
  have B3 := B2.below hn2
  have hw3 := below_tr hw2 hn2
  clear A2 B2
  have R3 := Rn
  clear Rn hn2
  have SR3 := SRn
  clear SRn
  refine (both_is k n u t k' n' u' t' false 60 Hhz.out Hhe.out _).mono ?_
  rintro e v1 ⟨rfl, hv1⟩
  have A4 := A3.below hv1
  have B4 := B3.below hv1
  have R4 := R3.below hv1
  have SR4 := SR3.below hv1
  have hw4 := below_tr hw3 hv1
  clear A3 B3 R3 SR3
  clear hv1
  have a' := A4
  obtain ⟨a0, a1, a2, a3, a4⟩ := a'
  have b' := B4
  obtain ⟨b0, b1, b2, b3, b4⟩ := b'
  have r' := R4
  obtain ⟨r0, r1, r2, r3, r4⟩ := r'
  have sr' := SR4
  obtain ⟨s0, s1, s2, s3, s4⟩ := sr'
  go_wp2_with fail
  have hwz := below_put4 hw4 (by omega : w.heap.size ≤ w.heap.size + 1 + 1) 0 0 0 ⟨#[]⟩
  obtain ⟨q0, q1, q2, q3, q4⟩ := boxed_put4 R4 0 0 0 ⟨#[]⟩
  exact bodyPost_ret (w := put4 v1 (w.heap.size + 1 + 1) 0 0 0 ⟨#[]⟩) (v := .tuple #[.agg #[.int .u8 0, .int .i64 0, .int .i64 0, .string ⟨#[]⟩], .int .i64 60]) (by simp [results, Try.results29, go_sem, q0, q1, q2, q3]) rfl ⟨rfl, hwz⟩

set_option maxHeartbeats 4000000 in
theorem rsub_1 (k n u : Int) (t : ByteArray) (k' n' u' : Int) (t' : ByteArray) (hz : bothZ k k' = true) (he : bothE k k' = 0) (w : World) :
    Calls Try.prog 29 #[.agg #[.int .u8 k, .int .i64 n, .int .i64 u, .string t], .agg #[.int .u8 k', .int .i64 n', .int .i64 u', .string t']] w fun e w' => e = .returned (.tuple #[.agg #[.int .u8 0, .int .i64 0, .int .i64 0, .string ⟨#[]⟩], .int .i64 0]) ∧ Below w.heap.size w w' := by
  have Hhz := Lib.hid hz
  clear hz
  have Hhe := Lib.hid he
  clear he
  have hw0 := Below.refl w.heap.size w
  go_enter Try.func29, Try.ntmps29
  go_wp2_with fail
  have hn0 := Below.allocs w (.cells #[.int .u8 k, .int .i64 n, .int .i64 u, .string t] 23)
  have An := Boxed.new w k n u t 23
  have hw1 := below_tr hw0 hn0
  have A1 := An
  clear An hn0
  have hn1 := Below.allocs (w.alloc (.cells #[.int .u8 k, .int .i64 n, .int .i64 u, .string t] 23)) (.cells #[.int .u8 k', .int .i64 n', .int .i64 u', .string t'] 23)
  have Bn := Boxed.new (w.alloc (.cells #[.int .u8 k, .int .i64 n, .int .i64 u, .string t] 23)) k' n' u' t' 23
  rw [show (w.alloc (.cells #[.int .u8 k, .int .i64 n, .int .i64 u, .string t] 23)).heap.size = w.heap.size + 1 by simp] at Bn
  have A2 := A1.below hn1
  have hw2 := below_tr hw1 hn1
  clear A1
  have B2 := Bn
  clear Bn hn1
  have hn2 := Below.allocs ((w.alloc (.cells #[.int .u8 k, .int .i64 n, .int .i64 u, .string t] 23)).alloc (.cells #[.int .u8 k', .int .i64 n', .int .i64 u', .string t'] 23)) (.cells #[.int .u8 0, .int .i64 0, .int .i64 0, .string ⟨#[]⟩] 23)
  have Rn := Boxed.new ((w.alloc (.cells #[.int .u8 k, .int .i64 n, .int .i64 u, .string t] 23)).alloc (.cells #[.int .u8 k', .int .i64 n', .int .i64 u', .string t'] 23)) 0 0 0 ⟨#[]⟩ 23
  have SRn := Soft.new ((w.alloc (.cells #[.int .u8 k, .int .i64 n, .int .i64 u, .string t] 23)).alloc (.cells #[.int .u8 k', .int .i64 n', .int .i64 u', .string t'] 23)) 0 0 0 ⟨#[]⟩ 23
  rw [show ((w.alloc (.cells #[.int .u8 k, .int .i64 n, .int .i64 u, .string t] 23)).alloc (.cells #[.int .u8 k', .int .i64 n', .int .i64 u', .string t'] 23)).heap.size = w.heap.size + 1 + 1 by simp] at Rn SRn
  have A3 := A2.below hn2
  have B3 := B2.below hn2
  have hw3 := below_tr hw2 hn2
  clear A2 B2
  have R3 := Rn
  clear Rn hn2
  have SR3 := SRn
  clear SRn
  refine (both_is k n u t k' n' u' t' true 0 Hhz.out Hhe.out _).mono ?_
  rintro e v1 ⟨rfl, hv1⟩
  have A4 := A3.below hv1
  have B4 := B3.below hv1
  have R4 := R3.below hv1
  have SR4 := SR3.below hv1
  have hw4 := below_tr hw3 hv1
  clear A3 B3 R3 SR3
  clear hv1
  have a' := A4
  obtain ⟨a0, a1, a2, a3, a4⟩ := a'
  have b' := B4
  obtain ⟨b0, b1, b2, b3, b4⟩ := b'
  have r' := R4
  obtain ⟨r0, r1, r2, r3, r4⟩ := r'
  have sr' := SR4
  obtain ⟨s0, s1, s2, s3, s4⟩ := sr'
  go_wp2_with fail
  have hwz := below_put4 hw4 (by omega : w.heap.size ≤ w.heap.size + 1 + 1) 0 0 0 ⟨#[]⟩
  obtain ⟨q0, q1, q2, q3, q4⟩ := boxed_put4 R4 0 0 0 ⟨#[]⟩
  exact bodyPost_ret (w := put4 v1 (w.heap.size + 1 + 1) 0 0 0 ⟨#[]⟩) (v := .tuple #[.agg #[.int .u8 0, .int .i64 0, .int .i64 0, .string ⟨#[]⟩], .int .i64 0]) (by simp [results, Try.results29, go_sem, q0, q1, q2, q3]) rfl ⟨rfl, hwz⟩

set_option maxHeartbeats 4000000 in
theorem rsub_2 (k n u : Int) (t : ByteArray) (k' n' u' : Int) (t' : ByteArray) (hz : bothZ k k' = false) (he : bothE k k' = 0) (a1 : decide (n' < 0) = true) (a2 : decide (wrap64 (9223372036854775807 + n') < n) = true) (w : World) :
    Calls Try.prog 29 #[.agg #[.int .u8 k, .int .i64 n, .int .i64 u, .string t], .agg #[.int .u8 k', .int .i64 n', .int .i64 u', .string t']] w fun e w' => e = .returned (.tuple #[.agg #[.int .u8 0, .int .i64 0, .int .i64 0, .string ⟨#[]⟩], .int .i64 61]) ∧ Below w.heap.size w w' := by
  have Hhz := Lib.hid hz
  clear hz
  have Hhe := Lib.hid he
  clear he
  have hw0 := Below.refl w.heap.size w
  go_enter Try.func29, Try.ntmps29
  go_wp2_with fail
  have hn0 := Below.allocs w (.cells #[.int .u8 k, .int .i64 n, .int .i64 u, .string t] 23)
  have An := Boxed.new w k n u t 23
  have hw1 := below_tr hw0 hn0
  have A1 := An
  clear An hn0
  have hn1 := Below.allocs (w.alloc (.cells #[.int .u8 k, .int .i64 n, .int .i64 u, .string t] 23)) (.cells #[.int .u8 k', .int .i64 n', .int .i64 u', .string t'] 23)
  have Bn := Boxed.new (w.alloc (.cells #[.int .u8 k, .int .i64 n, .int .i64 u, .string t] 23)) k' n' u' t' 23
  rw [show (w.alloc (.cells #[.int .u8 k, .int .i64 n, .int .i64 u, .string t] 23)).heap.size = w.heap.size + 1 by simp] at Bn
  have A2 := A1.below hn1
  have hw2 := below_tr hw1 hn1
  clear A1
  have B2 := Bn
  clear Bn hn1
  have hn2 := Below.allocs ((w.alloc (.cells #[.int .u8 k, .int .i64 n, .int .i64 u, .string t] 23)).alloc (.cells #[.int .u8 k', .int .i64 n', .int .i64 u', .string t'] 23)) (.cells #[.int .u8 0, .int .i64 0, .int .i64 0, .string ⟨#[]⟩] 23)
  have Rn := Boxed.new ((w.alloc (.cells #[.int .u8 k, .int .i64 n, .int .i64 u, .string t] 23)).alloc (.cells #[.int .u8 k', .int .i64 n', .int .i64 u', .string t'] 23)) 0 0 0 ⟨#[]⟩ 23
  have SRn := Soft.new ((w.alloc (.cells #[.int .u8 k, .int .i64 n, .int .i64 u, .string t] 23)).alloc (.cells #[.int .u8 k', .int .i64 n', .int .i64 u', .string t'] 23)) 0 0 0 ⟨#[]⟩ 23
  rw [show ((w.alloc (.cells #[.int .u8 k, .int .i64 n, .int .i64 u, .string t] 23)).alloc (.cells #[.int .u8 k', .int .i64 n', .int .i64 u', .string t'] 23)).heap.size = w.heap.size + 1 + 1 by simp] at Rn SRn
  have A3 := A2.below hn2
  have B3 := B2.below hn2
  have hw3 := below_tr hw2 hn2
  clear A2 B2
  have R3 := Rn
  clear Rn hn2
  have SR3 := SRn
  clear SRn
  refine (both_is k n u t k' n' u' t' false 0 Hhz.out Hhe.out _).mono ?_
  rintro e v1 ⟨rfl, hv1⟩
  have A4 := A3.below hv1
  have B4 := B3.below hv1
  have R4 := R3.below hv1
  have SR4 := SR3.below hv1
  have hw4 := below_tr hw3 hv1
  clear A3 B3 R3 SR3
  clear hv1
  have a' := A4
  obtain ⟨a0, a1, a2, a3, a4⟩ := a'
  have b' := B4
  obtain ⟨b0, b1, b2, b3, b4⟩ := b'
  have r' := R4
  obtain ⟨r0, r1, r2, r3, r4⟩ := r'
  have sr' := SR4
  obtain ⟨s0, s1, s2, s3, s4⟩ := sr'
  go_wp2_with fail
  have hwz := below_put4 hw4 (by omega : w.heap.size ≤ w.heap.size + 1 + 1) 0 0 0 ⟨#[]⟩
  obtain ⟨q0, q1, q2, q3, q4⟩ := boxed_put4 R4 0 0 0 ⟨#[]⟩
  exact bodyPost_ret (w := put4 v1 (w.heap.size + 1 + 1) 0 0 0 ⟨#[]⟩) (v := .tuple #[.agg #[.int .u8 0, .int .i64 0, .int .i64 0, .string ⟨#[]⟩], .int .i64 61]) (by simp [results, Try.results29, go_sem, q0, q1, q2, q3]) rfl ⟨rfl, hwz⟩

set_option maxHeartbeats 4000000 in
theorem rsub_3 (k n u : Int) (t : ByteArray) (k' n' u' : Int) (t' : ByteArray) (hz : bothZ k k' = false) (he : bothE k k' = 0) (a1 : decide (n' < 0) = true) (a2 : decide (wrap64 (9223372036854775807 + n') < n) = false) (a3 : decide (0 < n') = false) (p : Int) (hp : wrap64 (n - n') = p) (w : World) :
    Calls Try.prog 29 #[.agg #[.int .u8 k, .int .i64 n, .int .i64 u, .string t], .agg #[.int .u8 k', .int .i64 n', .int .i64 u', .string t']] w fun e w' => e = .returned (.tuple #[.agg #[.int .u8 1, .int .i64 p, .int .i64 0, .string ⟨#[]⟩], .int .i64 0]) ∧ Below w.heap.size w w' := by
  have Hhz := Lib.hid hz
  clear hz
  have Hhe := Lib.hid he
  clear he
  have hw0 := Below.refl w.heap.size w
  go_enter Try.func29, Try.ntmps29
  go_wp2_with fail
  have hn0 := Below.allocs w (.cells #[.int .u8 k, .int .i64 n, .int .i64 u, .string t] 23)
  have An := Boxed.new w k n u t 23
  have hw1 := below_tr hw0 hn0
  have A1 := An
  clear An hn0
  have hn1 := Below.allocs (w.alloc (.cells #[.int .u8 k, .int .i64 n, .int .i64 u, .string t] 23)) (.cells #[.int .u8 k', .int .i64 n', .int .i64 u', .string t'] 23)
  have Bn := Boxed.new (w.alloc (.cells #[.int .u8 k, .int .i64 n, .int .i64 u, .string t] 23)) k' n' u' t' 23
  rw [show (w.alloc (.cells #[.int .u8 k, .int .i64 n, .int .i64 u, .string t] 23)).heap.size = w.heap.size + 1 by simp] at Bn
  have A2 := A1.below hn1
  have hw2 := below_tr hw1 hn1
  clear A1
  have B2 := Bn
  clear Bn hn1
  have hn2 := Below.allocs ((w.alloc (.cells #[.int .u8 k, .int .i64 n, .int .i64 u, .string t] 23)).alloc (.cells #[.int .u8 k', .int .i64 n', .int .i64 u', .string t'] 23)) (.cells #[.int .u8 0, .int .i64 0, .int .i64 0, .string ⟨#[]⟩] 23)
  have Rn := Boxed.new ((w.alloc (.cells #[.int .u8 k, .int .i64 n, .int .i64 u, .string t] 23)).alloc (.cells #[.int .u8 k', .int .i64 n', .int .i64 u', .string t'] 23)) 0 0 0 ⟨#[]⟩ 23
  have SRn := Soft.new ((w.alloc (.cells #[.int .u8 k, .int .i64 n, .int .i64 u, .string t] 23)).alloc (.cells #[.int .u8 k', .int .i64 n', .int .i64 u', .string t'] 23)) 0 0 0 ⟨#[]⟩ 23
  rw [show ((w.alloc (.cells #[.int .u8 k, .int .i64 n, .int .i64 u, .string t] 23)).alloc (.cells #[.int .u8 k', .int .i64 n', .int .i64 u', .string t'] 23)).heap.size = w.heap.size + 1 + 1 by simp] at Rn SRn
  have A3 := A2.below hn2
  have B3 := B2.below hn2
  have hw3 := below_tr hw2 hn2
  clear A2 B2
  have R3 := Rn
  clear Rn hn2
  have SR3 := SRn
  clear SRn
  refine (both_is k n u t k' n' u' t' false 0 Hhz.out Hhe.out _).mono ?_
  rintro e v1 ⟨rfl, hv1⟩
  have A4 := A3.below hv1
  have B4 := B3.below hv1
  have R4 := R3.below hv1
  have SR4 := SR3.below hv1
  have hw4 := below_tr hw3 hv1
  clear A3 B3 R3 SR3
  clear hv1
  have a' := A4
  obtain ⟨a0, a1, a2, a3, a4⟩ := a'
  have b' := B4
  obtain ⟨b0, b1, b2, b3, b4⟩ := b'
  have r' := R4
  obtain ⟨r0, r1, r2, r3, r4⟩ := r'
  go_wp2_with fail
  clear a0 a1 a2 a3 a4 b0 b1 b2 b3 b4 r0 r1 r2 r3 r4
  refine (rint_is p _).mono ?_
  rintro e v2 ⟨rfl, hv2⟩
  have A5 := A4.below hv2
  have B5 := B4.below hv2
  have R5 := R4.below hv2
  have SR5 := SR4.below hv2
  have hw5 := below_tr hw4 hv2
  clear A4 B4 R4 SR4
  clear hv2
  have a' := A5
  obtain ⟨a0, a1, a2, a3, a4⟩ := a'
  have b' := B5
  obtain ⟨b0, b1, b2, b3, b4⟩ := b'
  have r' := R5
  obtain ⟨r0, r1, r2, r3, r4⟩ := r'
  have sr' := SR5
  obtain ⟨s0, s1, s2, s3, s4⟩ := sr'
  go_wp2_with fail
  have hwz := below_put4 hw5 (by omega : w.heap.size ≤ w.heap.size + 1 + 1) 1 p 0 ⟨#[]⟩
  obtain ⟨q0, q1, q2, q3, q4⟩ := boxed_put4 R5 1 p 0 ⟨#[]⟩
  exact bodyPost_ret (w := put4 v2 (w.heap.size + 1 + 1) 1 p 0 ⟨#[]⟩) (v := .tuple #[.agg #[.int .u8 1, .int .i64 p, .int .i64 0, .string ⟨#[]⟩], .int .i64 0]) (by simp [results, Try.results29, go_sem, q0, q1, q2, q3]) rfl ⟨rfl, hwz⟩

set_option maxHeartbeats 4000000 in
theorem rsub_4 (k n u : Int) (t : ByteArray) (k' n' u' : Int) (t' : ByteArray) (hz : bothZ k k' = false) (he : bothE k k' = 0) (a1 : decide (n' < 0) = false) (a3 : decide (0 < n') = true) (a4 : decide (n < wrap64 (-9223372036854775808 + n')) = true) (w : World) :
    Calls Try.prog 29 #[.agg #[.int .u8 k, .int .i64 n, .int .i64 u, .string t], .agg #[.int .u8 k', .int .i64 n', .int .i64 u', .string t']] w fun e w' => e = .returned (.tuple #[.agg #[.int .u8 0, .int .i64 0, .int .i64 0, .string ⟨#[]⟩], .int .i64 61]) ∧ Below w.heap.size w w' := by
  have Hhz := Lib.hid hz
  clear hz
  have Hhe := Lib.hid he
  clear he
  have hw0 := Below.refl w.heap.size w
  go_enter Try.func29, Try.ntmps29
  go_wp2_with fail
  have hn0 := Below.allocs w (.cells #[.int .u8 k, .int .i64 n, .int .i64 u, .string t] 23)
  have An := Boxed.new w k n u t 23
  have hw1 := below_tr hw0 hn0
  have A1 := An
  clear An hn0
  have hn1 := Below.allocs (w.alloc (.cells #[.int .u8 k, .int .i64 n, .int .i64 u, .string t] 23)) (.cells #[.int .u8 k', .int .i64 n', .int .i64 u', .string t'] 23)
  have Bn := Boxed.new (w.alloc (.cells #[.int .u8 k, .int .i64 n, .int .i64 u, .string t] 23)) k' n' u' t' 23
  rw [show (w.alloc (.cells #[.int .u8 k, .int .i64 n, .int .i64 u, .string t] 23)).heap.size = w.heap.size + 1 by simp] at Bn
  have A2 := A1.below hn1
  have hw2 := below_tr hw1 hn1
  clear A1
  have B2 := Bn
  clear Bn hn1
  have hn2 := Below.allocs ((w.alloc (.cells #[.int .u8 k, .int .i64 n, .int .i64 u, .string t] 23)).alloc (.cells #[.int .u8 k', .int .i64 n', .int .i64 u', .string t'] 23)) (.cells #[.int .u8 0, .int .i64 0, .int .i64 0, .string ⟨#[]⟩] 23)
  have Rn := Boxed.new ((w.alloc (.cells #[.int .u8 k, .int .i64 n, .int .i64 u, .string t] 23)).alloc (.cells #[.int .u8 k', .int .i64 n', .int .i64 u', .string t'] 23)) 0 0 0 ⟨#[]⟩ 23
  have SRn := Soft.new ((w.alloc (.cells #[.int .u8 k, .int .i64 n, .int .i64 u, .string t] 23)).alloc (.cells #[.int .u8 k', .int .i64 n', .int .i64 u', .string t'] 23)) 0 0 0 ⟨#[]⟩ 23
  rw [show ((w.alloc (.cells #[.int .u8 k, .int .i64 n, .int .i64 u, .string t] 23)).alloc (.cells #[.int .u8 k', .int .i64 n', .int .i64 u', .string t'] 23)).heap.size = w.heap.size + 1 + 1 by simp] at Rn SRn
  have A3 := A2.below hn2
  have B3 := B2.below hn2
  have hw3 := below_tr hw2 hn2
  clear A2 B2
  have R3 := Rn
  clear Rn hn2
  have SR3 := SRn
  clear SRn
  refine (both_is k n u t k' n' u' t' false 0 Hhz.out Hhe.out _).mono ?_
  rintro e v1 ⟨rfl, hv1⟩
  have A4 := A3.below hv1
  have B4 := B3.below hv1
  have R4 := R3.below hv1
  have SR4 := SR3.below hv1
  have hw4 := below_tr hw3 hv1
  clear A3 B3 R3 SR3
  clear hv1
  have a' := A4
  obtain ⟨a0, a1, a2, a3, a4⟩ := a'
  have b' := B4
  obtain ⟨b0, b1, b2, b3, b4⟩ := b'
  have r' := R4
  obtain ⟨r0, r1, r2, r3, r4⟩ := r'
  have sr' := SR4
  obtain ⟨s0, s1, s2, s3, s4⟩ := sr'
  go_wp2_with fail
  have hwz := below_put4 hw4 (by omega : w.heap.size ≤ w.heap.size + 1 + 1) 0 0 0 ⟨#[]⟩
  obtain ⟨q0, q1, q2, q3, q4⟩ := boxed_put4 R4 0 0 0 ⟨#[]⟩
  exact bodyPost_ret (w := put4 v1 (w.heap.size + 1 + 1) 0 0 0 ⟨#[]⟩) (v := .tuple #[.agg #[.int .u8 0, .int .i64 0, .int .i64 0, .string ⟨#[]⟩], .int .i64 61]) (by simp [results, Try.results29, go_sem, q0, q1, q2, q3]) rfl ⟨rfl, hwz⟩

set_option maxHeartbeats 4000000 in
theorem rsub_5 (k n u : Int) (t : ByteArray) (k' n' u' : Int) (t' : ByteArray) (hz : bothZ k k' = false) (he : bothE k k' = 0) (a1 : decide (n' < 0) = false) (a3 : decide (0 < n') = true) (a4 : decide (n < wrap64 (-9223372036854775808 + n')) = false) (p : Int) (hp : wrap64 (n - n') = p) (w : World) :
    Calls Try.prog 29 #[.agg #[.int .u8 k, .int .i64 n, .int .i64 u, .string t], .agg #[.int .u8 k', .int .i64 n', .int .i64 u', .string t']] w fun e w' => e = .returned (.tuple #[.agg #[.int .u8 1, .int .i64 p, .int .i64 0, .string ⟨#[]⟩], .int .i64 0]) ∧ Below w.heap.size w w' := by
  have Hhz := Lib.hid hz
  clear hz
  have Hhe := Lib.hid he
  clear he
  have hw0 := Below.refl w.heap.size w
  go_enter Try.func29, Try.ntmps29
  go_wp2_with fail
  have hn0 := Below.allocs w (.cells #[.int .u8 k, .int .i64 n, .int .i64 u, .string t] 23)
  have An := Boxed.new w k n u t 23
  have hw1 := below_tr hw0 hn0
  have A1 := An
  clear An hn0
  have hn1 := Below.allocs (w.alloc (.cells #[.int .u8 k, .int .i64 n, .int .i64 u, .string t] 23)) (.cells #[.int .u8 k', .int .i64 n', .int .i64 u', .string t'] 23)
  have Bn := Boxed.new (w.alloc (.cells #[.int .u8 k, .int .i64 n, .int .i64 u, .string t] 23)) k' n' u' t' 23
  rw [show (w.alloc (.cells #[.int .u8 k, .int .i64 n, .int .i64 u, .string t] 23)).heap.size = w.heap.size + 1 by simp] at Bn
  have A2 := A1.below hn1
  have hw2 := below_tr hw1 hn1
  clear A1
  have B2 := Bn
  clear Bn hn1
  have hn2 := Below.allocs ((w.alloc (.cells #[.int .u8 k, .int .i64 n, .int .i64 u, .string t] 23)).alloc (.cells #[.int .u8 k', .int .i64 n', .int .i64 u', .string t'] 23)) (.cells #[.int .u8 0, .int .i64 0, .int .i64 0, .string ⟨#[]⟩] 23)
  have Rn := Boxed.new ((w.alloc (.cells #[.int .u8 k, .int .i64 n, .int .i64 u, .string t] 23)).alloc (.cells #[.int .u8 k', .int .i64 n', .int .i64 u', .string t'] 23)) 0 0 0 ⟨#[]⟩ 23
  have SRn := Soft.new ((w.alloc (.cells #[.int .u8 k, .int .i64 n, .int .i64 u, .string t] 23)).alloc (.cells #[.int .u8 k', .int .i64 n', .int .i64 u', .string t'] 23)) 0 0 0 ⟨#[]⟩ 23
  rw [show ((w.alloc (.cells #[.int .u8 k, .int .i64 n, .int .i64 u, .string t] 23)).alloc (.cells #[.int .u8 k', .int .i64 n', .int .i64 u', .string t'] 23)).heap.size = w.heap.size + 1 + 1 by simp] at Rn SRn
  have A3 := A2.below hn2
  have B3 := B2.below hn2
  have hw3 := below_tr hw2 hn2
  clear A2 B2
  have R3 := Rn
  clear Rn hn2
  have SR3 := SRn
  clear SRn
  refine (both_is k n u t k' n' u' t' false 0 Hhz.out Hhe.out _).mono ?_
  rintro e v1 ⟨rfl, hv1⟩
  have A4 := A3.below hv1
  have B4 := B3.below hv1
  have R4 := R3.below hv1
  have SR4 := SR3.below hv1
  have hw4 := below_tr hw3 hv1
  clear A3 B3 R3 SR3
  clear hv1
  have a' := A4
  obtain ⟨a0, a1, a2, a3, a4⟩ := a'
  have b' := B4
  obtain ⟨b0, b1, b2, b3, b4⟩ := b'
  have r' := R4
  obtain ⟨r0, r1, r2, r3, r4⟩ := r'
  go_wp2_with fail
  clear a0 a1 a2 a3 a4 b0 b1 b2 b3 b4 r0 r1 r2 r3 r4
  refine (rint_is p _).mono ?_
  rintro e v2 ⟨rfl, hv2⟩
  have A5 := A4.below hv2
  have B5 := B4.below hv2
  have R5 := R4.below hv2
  have SR5 := SR4.below hv2
  have hw5 := below_tr hw4 hv2
  clear A4 B4 R4 SR4
  clear hv2
  have a' := A5
  obtain ⟨a0, a1, a2, a3, a4⟩ := a'
  have b' := B5
  obtain ⟨b0, b1, b2, b3, b4⟩ := b'
  have r' := R5
  obtain ⟨r0, r1, r2, r3, r4⟩ := r'
  have sr' := SR5
  obtain ⟨s0, s1, s2, s3, s4⟩ := sr'
  go_wp2_with fail
  have hwz := below_put4 hw5 (by omega : w.heap.size ≤ w.heap.size + 1 + 1) 1 p 0 ⟨#[]⟩
  obtain ⟨q0, q1, q2, q3, q4⟩ := boxed_put4 R5 1 p 0 ⟨#[]⟩
  exact bodyPost_ret (w := put4 v2 (w.heap.size + 1 + 1) 1 p 0 ⟨#[]⟩) (v := .tuple #[.agg #[.int .u8 1, .int .i64 p, .int .i64 0, .string ⟨#[]⟩], .int .i64 0]) (by simp [results, Try.results29, go_sem, q0, q1, q2, q3]) rfl ⟨rfl, hwz⟩

set_option maxHeartbeats 4000000 in
theorem rsub_6 (k n u : Int) (t : ByteArray) (k' n' u' : Int) (t' : ByteArray) (hz : bothZ k k' = false) (he : bothE k k' = 0) (a1 : decide (n' < 0) = false) (a3 : decide (0 < n') = false) (p : Int) (hp : wrap64 (n - n') = p) (w : World) :
    Calls Try.prog 29 #[.agg #[.int .u8 k, .int .i64 n, .int .i64 u, .string t], .agg #[.int .u8 k', .int .i64 n', .int .i64 u', .string t']] w fun e w' => e = .returned (.tuple #[.agg #[.int .u8 1, .int .i64 p, .int .i64 0, .string ⟨#[]⟩], .int .i64 0]) ∧ Below w.heap.size w w' := by
  have Hhz := Lib.hid hz
  clear hz
  have Hhe := Lib.hid he
  clear he
  have hw0 := Below.refl w.heap.size w
  go_enter Try.func29, Try.ntmps29
  go_wp2_with fail
  have hn0 := Below.allocs w (.cells #[.int .u8 k, .int .i64 n, .int .i64 u, .string t] 23)
  have An := Boxed.new w k n u t 23
  have hw1 := below_tr hw0 hn0
  have A1 := An
  clear An hn0
  have hn1 := Below.allocs (w.alloc (.cells #[.int .u8 k, .int .i64 n, .int .i64 u, .string t] 23)) (.cells #[.int .u8 k', .int .i64 n', .int .i64 u', .string t'] 23)
  have Bn := Boxed.new (w.alloc (.cells #[.int .u8 k, .int .i64 n, .int .i64 u, .string t] 23)) k' n' u' t' 23
  rw [show (w.alloc (.cells #[.int .u8 k, .int .i64 n, .int .i64 u, .string t] 23)).heap.size = w.heap.size + 1 by simp] at Bn
  have A2 := A1.below hn1
  have hw2 := below_tr hw1 hn1
  clear A1
  have B2 := Bn
  clear Bn hn1
  have hn2 := Below.allocs ((w.alloc (.cells #[.int .u8 k, .int .i64 n, .int .i64 u, .string t] 23)).alloc (.cells #[.int .u8 k', .int .i64 n', .int .i64 u', .string t'] 23)) (.cells #[.int .u8 0, .int .i64 0, .int .i64 0, .string ⟨#[]⟩] 23)
  have Rn := Boxed.new ((w.alloc (.cells #[.int .u8 k, .int .i64 n, .int .i64 u, .string t] 23)).alloc (.cells #[.int .u8 k', .int .i64 n', .int .i64 u', .string t'] 23)) 0 0 0 ⟨#[]⟩ 23
  have SRn := Soft.new ((w.alloc (.cells #[.int .u8 k, .int .i64 n, .int .i64 u, .string t] 23)).alloc (.cells #[.int .u8 k', .int .i64 n', .int .i64 u', .string t'] 23)) 0 0 0 ⟨#[]⟩ 23
  rw [show ((w.alloc (.cells #[.int .u8 k, .int .i64 n, .int .i64 u, .string t] 23)).alloc (.cells #[.int .u8 k', .int .i64 n', .int .i64 u', .string t'] 23)).heap.size = w.heap.size + 1 + 1 by simp] at Rn SRn
  have A3 := A2.below hn2
  have B3 := B2.below hn2
  have hw3 := below_tr hw2 hn2
  clear A2 B2
  have R3 := Rn
  clear Rn hn2
  have SR3 := SRn
  clear SRn
  refine (both_is k n u t k' n' u' t' false 0 Hhz.out Hhe.out _).mono ?_
  rintro e v1 ⟨rfl, hv1⟩
  have A4 := A3.below hv1
  have B4 := B3.below hv1
  have R4 := R3.below hv1
  have SR4 := SR3.below hv1
  have hw4 := below_tr hw3 hv1
  clear A3 B3 R3 SR3
  clear hv1
  have a' := A4
  obtain ⟨a0, a1, a2, a3, a4⟩ := a'
  have b' := B4
  obtain ⟨b0, b1, b2, b3, b4⟩ := b'
  have r' := R4
  obtain ⟨r0, r1, r2, r3, r4⟩ := r'
  go_wp2_with fail
  clear a0 a1 a2 a3 a4 b0 b1 b2 b3 b4 r0 r1 r2 r3 r4
  refine (rint_is p _).mono ?_
  rintro e v2 ⟨rfl, hv2⟩
  have A5 := A4.below hv2
  have B5 := B4.below hv2
  have R5 := R4.below hv2
  have SR5 := SR4.below hv2
  have hw5 := below_tr hw4 hv2
  clear A4 B4 R4 SR4
  clear hv2
  have a' := A5
  obtain ⟨a0, a1, a2, a3, a4⟩ := a'
  have b' := B5
  obtain ⟨b0, b1, b2, b3, b4⟩ := b'
  have r' := R5
  obtain ⟨r0, r1, r2, r3, r4⟩ := r'
  have sr' := SR5
  obtain ⟨s0, s1, s2, s3, s4⟩ := sr'
  go_wp2_with fail
  have hwz := below_put4 hw5 (by omega : w.heap.size ≤ w.heap.size + 1 + 1) 1 p 0 ⟨#[]⟩
  obtain ⟨q0, q1, q2, q3, q4⟩ := boxed_put4 R5 1 p 0 ⟨#[]⟩
  exact bodyPost_ret (w := put4 v2 (w.heap.size + 1 + 1) 1 p 0 ⟨#[]⟩) (v := .tuple #[.agg #[.int .u8 1, .int .i64 p, .int .i64 0, .string ⟨#[]⟩], .int .i64 0]) (by simp [results, Try.results29, go_sem, q0, q1, q2, q3]) rfl ⟨rfl, hwz⟩

theorem rsub_is (k n u : Int) (t : ByteArray) (k' n' u' : Int) (t' : ByteArray) (r : Res) (hr : calcR k k' (n - n') = r) (hn : I64 n) (hm : I64 n') (w : World) :
    Calls Try.prog 29 #[.agg #[.int .u8 k, .int .i64 n, .int .i64 u, .string t], .agg #[.int .u8 k', .int .i64 n', .int .i64 u', .string t']] w fun e w' => e = .returned (.tuple #[.agg #[.int .u8 r.k, .int .i64 r.n, .int .i64 0, .string ⟨#[]⟩], .int .i64 r.e]) ∧ Below w.heap.size w w' := by
  subst hr
  rw [calcR_both]
  rcases bothE_cases k k' with he | ⟨he, hz⟩
  · rw [he]
    cases hz : bothZ k k'
    · cases hi : inR (n - n')
      · have hi' : ¬ I64 (n - n') := fun h => by rw [inR_iff.2 h] at hi; cases hi
        unfold I64 at hn hm hi'
        by_cases c1 : n' < 0
        · exact rsub_2 k n u t k' n' u' t' hz he (decide_eq_true c1) (decide_eq_true (by unfold wrap64; omega)) w
        · by_cases c2 : 0 < n'
          · exact rsub_4 k n u t k' n' u' t' hz he (decide_eq_false c1) (decide_eq_true c2) (decide_eq_true (by unfold wrap64; omega)) w
          · exfalso; omega
      · have hi' := inR_iff.1 hi
        have hp := wrap_in hi'
        unfold I64 at hn hm hi'
        by_cases c1 : n' < 0
        · exact rsub_3 k n u t k' n' u' t' hz he (decide_eq_true c1) (decide_eq_false (by unfold wrap64; omega)) (decide_eq_false (by omega)) _ hp w
        · by_cases c2 : 0 < n'
          · exact rsub_5 k n u t k' n' u' t' hz he (decide_eq_false c1) (decide_eq_true c2) (decide_eq_false (by unfold wrap64; omega)) _ hp w
          · exact rsub_6 k n u t k' n' u' t' hz he (decide_eq_false c1) (decide_eq_false c2) _ hp w
    · exact rsub_1 k n u t k' n' u' t' hz he w
  · rw [he]
    exact rsub_0 k n u t k' n' u' t' hz he w

set_option maxHeartbeats 1000000 in
theorem rneg_is (k n u : Int) (t : ByteArray) (r : Res) (hr : calcR 1 k (0 - n) = r) (hn : I64 n) (w : World) :
    Calls Try.prog 21 #[.agg #[.int .u8 k, .int .i64 n, .int .i64 u, .string t]] w fun e w' => e = .returned (.tuple #[.agg #[.int .u8 r.k, .int .i64 r.n, .int .i64 0, .string ⟨#[]⟩], .int .i64 r.e]) ∧ Below w.heap.size w w' := by
  have HR := Lib.hid hr
  have HN := Lib.hid hn
  clear hr hn
  obtain ⟨W, hW, A0, R0, SR0, hw, hs⟩ := boxes2 w k n u t
  obtain ⟨g, hg⟩ : ∃ g, w.heap.size = g := ⟨_, rfl⟩
  rw [hg] at A0 R0 SR0 hs
  have HS := Lib.hid hs
  have hsz : g + 1 ≤ W.heap.size := by omega
  clear hs
  go_enter Try.func21, Try.ntmps21
  go_wp2_with fail
  rw [← hW]
  clear hW
  have hd := below_drew W
  have Ad := A0.below hd
  have Rd := R0.below hd
  have Sd := SR0.below hd
  refine wp_region_plan (KeepR (g + 1) r.k r.n 0 ⟨#[]⟩) [.it (.agg #[.int .u8 1, .int .i64 0, .int .i64 0, .string ⟨#[]⟩]), .it (.agg #[.int .u8 k, .int .i64 n, .int .i64 u, .string t]), .it (.tuple #[.agg #[.int .u8 r.k, .int .i64 r.n, .int .i64 0, .string ⟨#[]⟩], .int .i64 r.e]), .it (.agg #[.int .u8 r.k, .int .i64 r.n, .int .i64 0, .string ⟨#[]⟩]), .it (.int .i64 r.e), .of (fun w v => Boxed w (g + 1) r.k r.n 0 ⟨#[]⟩), .it (.int .i64 r.e)] (by kernel_rfl) (by kernel_rfl) (KeepR.refl _ _ _ _ _) KeepR.trans ?_
  refine seqP_call 15 #[.int .i64 0] (.agg #[.int .u8 1, .int .i64 0, .int .i64 0, .string ⟨#[]⟩]) (by first | rfl | simp) (fun w' hw' hctx => ?_) (fun w' hw' hctx => (rint_is 0 w').mono fun e w2 ⟨he, hb⟩ => ⟨he, KeepR.of_below hb (Nat.le_trans hsz hw'.below.size)⟩) ?_
  · go_simp
  simp only [Act.put, List.setIfInBounds_toArray, List.set_cons_zero, List.set_cons_succ]
  refine seqP_value (KeepR.refl _ _ _ _ _) _ (by first | rfl | simp) (fun w' hw' hctx => ?_) ?_
  · obtain ⟨a0, a1, a2, a3, a4⟩ := Ad.under hw'.below (Nat.lt_succ_self g)
    go_simp
    try first | with_reducible rfl | simp
  simp only [Act.put, List.setIfInBounds_toArray, List.set_cons_zero, List.set_cons_succ]
  refine seqP_call 29 #[.agg #[.int .u8 1, .int .i64 0, .int .i64 0, .string ⟨#[]⟩], .agg #[.int .u8 k, .int .i64 n, .int .i64 u, .string t]] (.tuple #[.agg #[.int .u8 r.k, .int .i64 r.n, .int .i64 0, .string ⟨#[]⟩], .int .i64 r.e]) (by first | rfl | simp) (fun w' hw' hctx => ?_) (fun w' hw' hctx => (rsub_is 1 0 0 ⟨#[]⟩ k n u t r HR.out (by unfold I64; omega) HN.out w').mono fun e w2 ⟨he, hb⟩ => ⟨he, KeepR.of_below hb (Nat.le_trans hsz hw'.below.size)⟩) ?_
  · go_simp
  simp only [Act.put, List.setIfInBounds_toArray, List.set_cons_zero, List.set_cons_succ]
  refine seqP_value (KeepR.refl _ _ _ _ _) _ (by first | rfl | simp) (fun w' hw' hctx => ?_) ?_
  · go_simp
    try first | with_reducible rfl | simp
  simp only [Act.put, List.setIfInBounds_toArray, List.set_cons_zero, List.set_cons_succ]
  refine seqP_value (KeepR.refl _ _ _ _ _) _ (by first | rfl | simp) (fun w' hw' hctx => ?_) ?_
  · go_simp
    try first | with_reducible rfl | simp
  simp only [Act.put, List.setIfInBounds_toArray, List.set_cons_zero, List.set_cons_succ]
  refine seqP_writeOf _ (fun w w' v hR hV => hR.same _ hV) (by first | rfl | simp) (fun w' hw' hctx => ⟨put4 w' (g + 1) r.k r.n 0 ⟨#[]⟩, ?_, KeepR.put (Nat.le_refl _) (hw'.cells _ ⟨_, _, _, _, Rd⟩), ?_⟩) (fun v => ?_)
  · obtain ⟨x0, x1, x2, x3, b0, b1, b2, b3, b4⟩ := hw'.cells _ ⟨_, _, _, _, Rd⟩
    obtain ⟨s0, s1, s2, s3, s4⟩ := hw'.soft _ Sd
    go_simp
    rfl
  · exact boxed_put4 (hw'.cells _ ⟨_, _, _, _, Rd⟩).choose_spec.choose_spec.choose_spec.choose_spec _ _ _ _
  simp only [Act.put]
  refine seqP_value (KeepR.refl _ _ _ _ _) _ (by first | rfl | simp) (fun w' hw' hctx => ?_) ?_
  · go_simp
    try first | with_reducible rfl | simp
  simp only [Act.put, List.setIfInBounds_toArray, List.set_cons_zero, List.set_cons_succ]
  refine seqP_nil (fun w' hw' hctx => ?_)
  have hB : Boxed w' (g + 1) r.k r.n 0 ⟨#[]⟩ := hctx.1
  have hb : Below w.heap.size w w' := (below_tr hw hd).trans (hw'.below.mono (by omega))
  clear hctx hw'
  obtain ⟨q0, q1, q2, q3, q4⟩ := hB
  go_wp2_with fail
  exact bodyPost_ret (v := .tuple #[.agg #[.int .u8 r.k, .int .i64 r.n, .int .i64 0, .string ⟨#[]⟩], .int .i64 r.e]) (by simp [results, Try.results21, go_sem, q0, q1, q2, q3]) rfl ⟨rfl, hb⟩

set_option maxHeartbeats 4000000 in
theorem alike_0 (k n u : Int) (t : ByteArray) (k' n' u' : Int) (t' : ByteArray) (z : (k == 0) = true) (w : World) :
    Calls Try.prog 51 #[.agg #[.int .u8 k, .int .i64 n, .int .i64 u, .string t], .agg #[.int .u8 k', .int .i64 n', .int .i64 u', .string t']] w fun e w' => e = .returned (.tuple #[.bool true, .int .i64 0]) ∧ Below w.heap.size w w' := by
  have hw0 := Below.refl w.heap.size w
  go_enter Try.func51, Try.ntmps51
  go_wp2_with fail
  have hn0 := Below.allocs w (.cells #[.int .u8 k, .int .i64 n, .int .i64 u, .string t] 23)
  have An := Boxed.new w k n u t 23
  have hw1 := below_tr hw0 hn0
  have A1 := An
  clear An hn0
  have hn1 := Below.allocs (w.alloc (.cells #[.int .u8 k, .int .i64 n, .int .i64 u, .string t] 23)) (.cells #[.int .u8 k', .int .i64 n', .int .i64 u', .string t'] 23)
  have Bn := Boxed.new (w.alloc (.cells #[.int .u8 k, .int .i64 n, .int .i64 u, .string t] 23)) k' n' u' t' 23
  rw [show (w.alloc (.cells #[.int .u8 k, .int .i64 n, .int .i64 u, .string t] 23)).heap.size = w.heap.size + 1 by simp] at Bn
  have A2 := A1.below hn1
  have hw2 := below_tr hw1 hn1
  clear A1
  have B2 := Bn
  clear Bn hn1
  go_ret2
  exact ⟨rfl, hw2⟩

set_option maxHeartbeats 4000000 in
theorem alike_1 (k n u : Int) (t : ByteArray) (k' n' u' : Int) (t' : ByteArray) (z : (k == 0) = false) (z2 : (k' == 0) = true) (w : World) :
    Calls Try.prog 51 #[.agg #[.int .u8 k, .int .i64 n, .int .i64 u, .string t], .agg #[.int .u8 k', .int .i64 n', .int .i64 u', .string t']] w fun e w' => e = .returned (.tuple #[.bool true, .int .i64 0]) ∧ Below w.heap.size w w' := by
  have hw0 := Below.refl w.heap.size w
  go_enter Try.func51, Try.ntmps51
  go_wp2_with fail
  have hn0 := Below.allocs w (.cells #[.int .u8 k, .int .i64 n, .int .i64 u, .string t] 23)
  have An := Boxed.new w k n u t 23
  have hw1 := below_tr hw0 hn0
  have A1 := An
  clear An hn0
  have hn1 := Below.allocs (w.alloc (.cells #[.int .u8 k, .int .i64 n, .int .i64 u, .string t] 23)) (.cells #[.int .u8 k', .int .i64 n', .int .i64 u', .string t'] 23)
  have Bn := Boxed.new (w.alloc (.cells #[.int .u8 k, .int .i64 n, .int .i64 u, .string t] 23)) k' n' u' t' 23
  rw [show (w.alloc (.cells #[.int .u8 k, .int .i64 n, .int .i64 u, .string t] 23)).heap.size = w.heap.size + 1 by simp] at Bn
  have A2 := A1.below hn1
  have hw2 := below_tr hw1 hn1
  clear A1
  have B2 := Bn
  clear Bn hn1
  go_ret2
  exact ⟨rfl, hw2⟩

set_option maxHeartbeats 4000000 in
theorem alike_2 (k n u : Int) (t : ByteArray) (k' n' u' : Int) (t' : ByteArray) (z : (k == 0) = false) (z2 : (k' == 0) = false) (h : (k != k') = true) (w : World) :
    Calls Try.prog 51 #[.agg #[.int .u8 k, .int .i64 n, .int .i64 u, .string t], .agg #[.int .u8 k', .int .i64 n', .int .i64 u', .string t']] w fun e w' => e = .returned (.tuple #[.bool false, .int .i64 60]) ∧ Below w.heap.size w w' := by
  have hw0 := Below.refl w.heap.size w
  go_enter Try.func51, Try.ntmps51
  go_wp2_with fail
  have hn0 := Below.allocs w (.cells #[.int .u8 k, .int .i64 n, .int .i64 u, .string t] 23)
  have An := Boxed.new w k n u t 23
  have hw1 := below_tr hw0 hn0
  have A1 := An
  clear An hn0
  have hn1 := Below.allocs (w.alloc (.cells #[.int .u8 k, .int .i64 n, .int .i64 u, .string t] 23)) (.cells #[.int .u8 k', .int .i64 n', .int .i64 u', .string t'] 23)
  have Bn := Boxed.new (w.alloc (.cells #[.int .u8 k, .int .i64 n, .int .i64 u, .string t] 23)) k' n' u' t' 23
  rw [show (w.alloc (.cells #[.int .u8 k, .int .i64 n, .int .i64 u, .string t] 23)).heap.size = w.heap.size + 1 by simp] at Bn
  have A2 := A1.below hn1
  have hw2 := below_tr hw1 hn1
  clear A1
  have B2 := Bn
  clear Bn hn1
  go_ret2
  exact ⟨rfl, hw2⟩

set_option maxHeartbeats 4000000 in
theorem alike_3 (k n u : Int) (t : ByteArray) (k' n' u' : Int) (t' : ByteArray) (z : (k == 0) = false) (z2 : (k' == 0) = false) (h : (k != k') = false) (w : World) :
    Calls Try.prog 51 #[.agg #[.int .u8 k, .int .i64 n, .int .i64 u, .string t], .agg #[.int .u8 k', .int .i64 n', .int .i64 u', .string t']] w fun e w' => e = .returned (.tuple #[.bool false, .int .i64 0]) ∧ Below w.heap.size w w' := by
  have hw0 := Below.refl w.heap.size w
  go_enter Try.func51, Try.ntmps51
  go_wp2_with fail
  have hn0 := Below.allocs w (.cells #[.int .u8 k, .int .i64 n, .int .i64 u, .string t] 23)
  have An := Boxed.new w k n u t 23
  have hw1 := below_tr hw0 hn0
  have A1 := An
  clear An hn0
  have hn1 := Below.allocs (w.alloc (.cells #[.int .u8 k, .int .i64 n, .int .i64 u, .string t] 23)) (.cells #[.int .u8 k', .int .i64 n', .int .i64 u', .string t'] 23)
  have Bn := Boxed.new (w.alloc (.cells #[.int .u8 k, .int .i64 n, .int .i64 u, .string t] 23)) k' n' u' t' 23
  rw [show (w.alloc (.cells #[.int .u8 k, .int .i64 n, .int .i64 u, .string t] 23)).heap.size = w.heap.size + 1 by simp] at Bn
  have A2 := A1.below hn1
  have hw2 := below_tr hw1 hn1
  clear A1
  have B2 := Bn
  clear Bn hn1
  go_ret2
  exact ⟨rfl, hw2⟩

set_option maxHeartbeats 4000000 in
theorem ahead_text (k n u : Int) (t : ByteArray) (n' u' : Int) (t' : ByteArray) (h3 : (k == 3) = true) (w : World) :
    Calls Try.prog 52 #[.agg #[.int .u8 k, .int .i64 n, .int .i64 u, .string t], .agg #[.int .u8 k, .int .i64 n', .int .i64 u', .string t']] w fun e w' => e = .returned (.bool (Op.bytesLess t.toList t'.toList)) ∧ Below w.heap.size w w' := by
  have hw0 := Below.refl w.heap.size w
  go_enter Try.func52, Try.ntmps52
  go_wp2_with fail
  have hn0 := Below.allocs w (.cells #[.int .u8 k, .int .i64 n, .int .i64 u, .string t] 23)
  have An := Boxed.new w k n u t 23
  have hw1 := below_tr hw0 hn0
  have A1 := An
  clear An hn0
  have hn1 := Below.allocs (w.alloc (.cells #[.int .u8 k, .int .i64 n, .int .i64 u, .string t] 23)) (.cells #[.int .u8 k, .int .i64 n', .int .i64 u', .string t'] 23)
  have Bn := Boxed.new (w.alloc (.cells #[.int .u8 k, .int .i64 n, .int .i64 u, .string t] 23)) k n' u' t' 23
  rw [show (w.alloc (.cells #[.int .u8 k, .int .i64 n, .int .i64 u, .string t] 23)).heap.size = w.heap.size + 1 by simp] at Bn
  have A2 := A1.below hn1
  have hw2 := below_tr hw1 hn1
  clear A1
  have B2 := Bn
  clear Bn hn1
  go_ret
  exact ⟨by simp [*], hw2⟩

set_option maxHeartbeats 4000000 in
theorem ahead_bool1 (k n u : Int) (t : ByteArray) (n' u' : Int) (t' : ByteArray) (h3 : (k == 3) = false) (h2 : (k == 2) = true) (y : yesB k n = true) (w : World) :
    Calls Try.prog 52 #[.agg #[.int .u8 k, .int .i64 n, .int .i64 u, .string t], .agg #[.int .u8 k, .int .i64 n', .int .i64 u', .string t']] w fun e w' => e = .returned (.bool false) ∧ Below w.heap.size w w' := by
  have Hy := Lib.hid y
  clear y
  have hw0 := Below.refl w.heap.size w
  go_enter Try.func52, Try.ntmps52
  go_wp2_with fail
  have hn0 := Below.allocs w (.cells #[.int .u8 k, .int .i64 n, .int .i64 u, .string t] 23)
  have An := Boxed.new w k n u t 23
  have hw1 := below_tr hw0 hn0
  have A1 := An
  clear An hn0
  have hn1 := Below.allocs (w.alloc (.cells #[.int .u8 k, .int .i64 n, .int .i64 u, .string t] 23)) (.cells #[.int .u8 k, .int .i64 n', .int .i64 u', .string t'] 23)
  have Bn := Boxed.new (w.alloc (.cells #[.int .u8 k, .int .i64 n, .int .i64 u, .string t] 23)) k n' u' t' 23
  rw [show (w.alloc (.cells #[.int .u8 k, .int .i64 n, .int .i64 u, .string t] 23)).heap.size = w.heap.size + 1 by simp] at Bn
  have A2 := A1.below hn1
  have hw2 := below_tr hw1 hn1
  clear A1
  have B2 := Bn
  clear Bn hn1
  refine (ryes_is k n u t true Hy.out _).mono ?_
  rintro e v1 ⟨rfl, hv1⟩
  have A3 := A2.below hv1
  have B3 := B2.below hv1
  have hw3 := below_tr hw2 hv1
  clear A2 B2
  clear hv1
  have a' := A3
  obtain ⟨a0, a1, a2, a3, a4⟩ := a'
  have b' := B3
  obtain ⟨b0, b1, b2, b3, b4⟩ := b'
  go_wp2_with fail
  go_ret
  exact ⟨by simp [*], hw3⟩

set_option maxHeartbeats 4000000 in
theorem ahead_bool2 (k n u : Int) (t : ByteArray) (n' u' : Int) (t' : ByteArray) (h3 : (k == 3) = false) (h2 : (k == 2) = true) (y : yesB k n = false) (b : Bool) (y2 : yesB k n' = b) (w : World) :
    Calls Try.prog 52 #[.agg #[.int .u8 k, .int .i64 n, .int .i64 u, .string t], .agg #[.int .u8 k, .int .i64 n', .int .i64 u', .string t']] w fun e w' => e = .returned (.bool b) ∧ Below w.heap.size w w' := by
  have Hy := Lib.hid y
  clear y
  have Hy2 := Lib.hid y2
  clear y2
  have hw0 := Below.refl w.heap.size w
  go_enter Try.func52, Try.ntmps52
  go_wp2_with fail
  have hn0 := Below.allocs w (.cells #[.int .u8 k, .int .i64 n, .int .i64 u, .string t] 23)
  have An := Boxed.new w k n u t 23
  have hw1 := below_tr hw0 hn0
  have A1 := An
  clear An hn0
  have hn1 := Below.allocs (w.alloc (.cells #[.int .u8 k, .int .i64 n, .int .i64 u, .string t] 23)) (.cells #[.int .u8 k, .int .i64 n', .int .i64 u', .string t'] 23)
  have Bn := Boxed.new (w.alloc (.cells #[.int .u8 k, .int .i64 n, .int .i64 u, .string t] 23)) k n' u' t' 23
  rw [show (w.alloc (.cells #[.int .u8 k, .int .i64 n, .int .i64 u, .string t] 23)).heap.size = w.heap.size + 1 by simp] at Bn
  have A2 := A1.below hn1
  have hw2 := below_tr hw1 hn1
  clear A1
  have B2 := Bn
  clear Bn hn1
  refine (ryes_is k n u t false Hy.out _).mono ?_
  rintro e v1 ⟨rfl, hv1⟩
  have A3 := A2.below hv1
  have B3 := B2.below hv1
  have hw3 := below_tr hw2 hv1
  clear A2 B2
  clear hv1
  have a' := A3
  obtain ⟨a0, a1, a2, a3, a4⟩ := a'
  have b' := B3
  obtain ⟨b0, b1, b2, b3, b4⟩ := b'
  go_wp2_with fail
  clear a0 a1 a2 a3 a4 b0 b1 b2 b3 b4
  refine (ryes_is k n' u' t' b Hy2.out _).mono ?_
  rintro e v2 ⟨rfl, hv2⟩
  have A4 := A3.below hv2
  have B4 := B3.below hv2
  have hw4 := below_tr hw3 hv2
  clear A3 B3
  clear hv2
  have a' := A4
  obtain ⟨a0, a1, a2, a3, a4⟩ := a'
  have b' := B4
  obtain ⟨b0, b1, b2, b3, b4⟩ := b'
  go_wp2_with fail
  go_ret
  exact ⟨by simp [*], hw4⟩

set_option maxHeartbeats 4000000 in
theorem ahead_span1 (k n u : Int) (t : ByteArray) (n' u' : Int) (t' : ByteArray) (h3 : (k == 3) = false) (h2 : (k == 2) = false) (h4 : (k == 4) = true) (d : decide (n < n') = true) (w : World) :
    Calls Try.prog 52 #[.agg #[.int .u8 k, .int .i64 n, .int .i64 u, .string t], .agg #[.int .u8 k, .int .i64 n', .int .i64 u', .string t']] w fun e w' => e = .returned (.bool true) ∧ Below w.heap.size w w' := by
  have hw0 := Below.refl w.heap.size w
  go_enter Try.func52, Try.ntmps52
  go_wp2_with fail
  have hn0 := Below.allocs w (.cells #[.int .u8 k, .int .i64 n, .int .i64 u, .string t] 23)
  have An := Boxed.new w k n u t 23
  have hw1 := below_tr hw0 hn0
  have A1 := An
  clear An hn0
  have hn1 := Below.allocs (w.alloc (.cells #[.int .u8 k, .int .i64 n, .int .i64 u, .string t] 23)) (.cells #[.int .u8 k, .int .i64 n', .int .i64 u', .string t'] 23)
  have Bn := Boxed.new (w.alloc (.cells #[.int .u8 k, .int .i64 n, .int .i64 u, .string t] 23)) k n' u' t' 23
  rw [show (w.alloc (.cells #[.int .u8 k, .int .i64 n, .int .i64 u, .string t] 23)).heap.size = w.heap.size + 1 by simp] at Bn
  have A2 := A1.below hn1
  have hw2 := below_tr hw1 hn1
  clear A1
  have B2 := Bn
  clear Bn hn1
  go_ret
  exact ⟨by simp [*], hw2⟩

set_option maxHeartbeats 4000000 in
theorem ahead_span2 (k n u : Int) (t : ByteArray) (n' u' : Int) (t' : ByteArray) (h3 : (k == 3) = false) (h2 : (k == 2) = false) (h4 : (k == 4) = true) (d : decide (n < n') = false) (e1 : (n == n') = true) (b : Bool) (d2 : decide (u < u') = b) (w : World) :
    Calls Try.prog 52 #[.agg #[.int .u8 k, .int .i64 n, .int .i64 u, .string t], .agg #[.int .u8 k, .int .i64 n', .int .i64 u', .string t']] w fun e w' => e = .returned (.bool b) ∧ Below w.heap.size w w' := by
  have hw0 := Below.refl w.heap.size w
  go_enter Try.func52, Try.ntmps52
  go_wp2_with fail
  have hn0 := Below.allocs w (.cells #[.int .u8 k, .int .i64 n, .int .i64 u, .string t] 23)
  have An := Boxed.new w k n u t 23
  have hw1 := below_tr hw0 hn0
  have A1 := An
  clear An hn0
  have hn1 := Below.allocs (w.alloc (.cells #[.int .u8 k, .int .i64 n, .int .i64 u, .string t] 23)) (.cells #[.int .u8 k, .int .i64 n', .int .i64 u', .string t'] 23)
  have Bn := Boxed.new (w.alloc (.cells #[.int .u8 k, .int .i64 n, .int .i64 u, .string t] 23)) k n' u' t' 23
  rw [show (w.alloc (.cells #[.int .u8 k, .int .i64 n, .int .i64 u, .string t] 23)).heap.size = w.heap.size + 1 by simp] at Bn
  have A2 := A1.below hn1
  have hw2 := below_tr hw1 hn1
  clear A1
  have B2 := Bn
  clear Bn hn1
  go_ret
  exact ⟨by simp [*], hw2⟩

set_option maxHeartbeats 4000000 in
theorem ahead_span3 (k n u : Int) (t : ByteArray) (n' u' : Int) (t' : ByteArray) (h3 : (k == 3) = false) (h2 : (k == 2) = false) (h4 : (k == 4) = true) (d : decide (n < n') = false) (e1 : (n == n') = false) (w : World) :
    Calls Try.prog 52 #[.agg #[.int .u8 k, .int .i64 n, .int .i64 u, .string t], .agg #[.int .u8 k, .int .i64 n', .int .i64 u', .string t']] w fun e w' => e = .returned (.bool false) ∧ Below w.heap.size w w' := by
  have hw0 := Below.refl w.heap.size w
  go_enter Try.func52, Try.ntmps52
  go_wp2_with fail
  have hn0 := Below.allocs w (.cells #[.int .u8 k, .int .i64 n, .int .i64 u, .string t] 23)
  have An := Boxed.new w k n u t 23
  have hw1 := below_tr hw0 hn0
  have A1 := An
  clear An hn0
  have hn1 := Below.allocs (w.alloc (.cells #[.int .u8 k, .int .i64 n, .int .i64 u, .string t] 23)) (.cells #[.int .u8 k, .int .i64 n', .int .i64 u', .string t'] 23)
  have Bn := Boxed.new (w.alloc (.cells #[.int .u8 k, .int .i64 n, .int .i64 u, .string t] 23)) k n' u' t' 23
  rw [show (w.alloc (.cells #[.int .u8 k, .int .i64 n, .int .i64 u, .string t] 23)).heap.size = w.heap.size + 1 by simp] at Bn
  have A2 := A1.below hn1
  have hw2 := below_tr hw1 hn1
  clear A1
  have B2 := Bn
  clear Bn hn1
  go_ret
  exact ⟨by simp [*], hw2⟩

set_option maxHeartbeats 4000000 in
theorem ahead_else (k n u : Int) (t : ByteArray) (n' u' : Int) (t' : ByteArray) (h3 : (k == 3) = false) (h2 : (k == 2) = false) (h4 : (k == 4) = false) (b : Bool) (d : decide (n < n') = b) (w : World) :
    Calls Try.prog 52 #[.agg #[.int .u8 k, .int .i64 n, .int .i64 u, .string t], .agg #[.int .u8 k, .int .i64 n', .int .i64 u', .string t']] w fun e w' => e = .returned (.bool b) ∧ Below w.heap.size w w' := by
  have hw0 := Below.refl w.heap.size w
  go_enter Try.func52, Try.ntmps52
  go_wp2_with fail
  have hn0 := Below.allocs w (.cells #[.int .u8 k, .int .i64 n, .int .i64 u, .string t] 23)
  have An := Boxed.new w k n u t 23
  have hw1 := below_tr hw0 hn0
  have A1 := An
  clear An hn0
  have hn1 := Below.allocs (w.alloc (.cells #[.int .u8 k, .int .i64 n, .int .i64 u, .string t] 23)) (.cells #[.int .u8 k, .int .i64 n', .int .i64 u', .string t'] 23)
  have Bn := Boxed.new (w.alloc (.cells #[.int .u8 k, .int .i64 n, .int .i64 u, .string t] 23)) k n' u' t' 23
  rw [show (w.alloc (.cells #[.int .u8 k, .int .i64 n, .int .i64 u, .string t] 23)).heap.size = w.heap.size + 1 by simp] at Bn
  have A2 := A1.below hn1
  have hw2 := below_tr hw1 hn1
  clear A1
  have B2 := Bn
  clear Bn hn1
  go_ret
  exact ⟨by simp [*], hw2⟩

theorem ahead_is (k n u : Int) (t : ByteArray) (n' u' : Int) (t' : ByteArray) (b : Bool) (hb : decide (cmpK k n u t n' u' t' < 0) = b) (w : World) :
    Calls Try.prog 52 #[.agg #[.int .u8 k, .int .i64 n, .int .i64 u, .string t], .agg #[.int .u8 k, .int .i64 n', .int .i64 u', .string t']] w fun e w' => e = .returned (.bool b) ∧ Below w.heap.size w w' := by
  subst hb
  by_cases h3 : k = 3
  · have e : decide (cmpK k n u t n' u' t' < 0) = Op.bytesLess t.toList t'.toList := by
      rw [Bool.eq_iff_iff, decide_eq_true_iff]
      unfold cmpK
      rw [if_neg (by omega), if_pos h3]
      exact ordS_lt
    rw [e]; exact ahead_text k n u t n' u' t' (by simpa using h3) w
  · have b3 : (k == 3) = false := by simpa using h3
    by_cases h2 : k = 2
    · have b2 : (k == 2) = true := by simpa using h2
      have e : cmpK k n u t n' u' t' = ordI (ofN (yesB k n)) (ofN (yesB k n')) := by rw [cmpK, if_pos h2, h2]
      rw [e]
      cases y : yesB k n
      · cases y2 : yesB k n'
        · exact ahead_bool2 k n u t n' u' t' b3 b2 y _ y2 w
        · exact ahead_bool2 k n u t n' u' t' b3 b2 y _ y2 w
      · have e2 : decide (ordI (ofN true) (ofN (yesB k n')) < 0) = false := by cases yesB k n' <;> rfl
        rw [e2]
        exact ahead_bool1 k n u t n' u' t' b3 b2 y w
    · have b2 : (k == 2) = false := by simpa using h2
      by_cases h4 : k = 4
      · have b4 : (k == 4) = true := by simpa using h4
        by_cases hn : n = n'
        · have e : decide (cmpK k n u t n' u' t' < 0) = decide (u < u') := by
            rw [decide_eq_decide, cmpK, if_neg h2, if_neg h3, if_pos ⟨h4, hn⟩]; exact ordI_lt
          rw [e]; exact ahead_span2 k n u t n' u' t' b3 b2 b4 (by rw [hn]; simp) (by simpa using hn) _ rfl w
        · have e : decide (cmpK k n u t n' u' t' < 0) = decide (n < n') := by
            rw [decide_eq_decide, cmpK, if_neg h2, if_neg h3, if_neg (fun h => hn h.2)]; exact ordI_lt
          rw [e]
          cases hd : decide (n < n')
          · exact ahead_span3 k n u t n' u' t' b3 b2 b4 hd (by simpa using hn) w
          · exact ahead_span1 k n u t n' u' t' b3 b2 b4 hd w
      · have e : decide (cmpK k n u t n' u' t' < 0) = decide (n < n') := by
          rw [decide_eq_decide, cmpK, if_neg h2, if_neg h3, if_neg (fun h => h4 h.1)]; exact ordI_lt
        rw [e]; exact ahead_else k n u t n' u' t' b3 b2 (by simpa using h4) _ rfl w

set_option maxHeartbeats 4000000 in
theorem rless_0 (k n u : Int) (t : ByteArray) (k' n' u' : Int) (t' : ByteArray) (z : (k == 0) = true) (w : World) :
    Calls Try.prog 35 #[.agg #[.int .u8 k, .int .i64 n, .int .i64 u, .string t], .agg #[.int .u8 k', .int .i64 n', .int .i64 u', .string t']] w fun e w' => e = .returned (.tuple #[.agg #[.int .u8 0, .int .i64 0, .int .i64 0, .string ⟨#[]⟩], .int .i64 0]) ∧ Below w.heap.size w w' := by
  have Hz := Lib.hid z
  clear z
  have hw0 := Below.refl w.heap.size w
  go_enter Try.func35, Try.ntmps35
  go_wp2_with fail
  have hn0 := Below.allocs w (.cells #[.int .u8 k, .int .i64 n, .int .i64 u, .string t] 23)
  have An := Boxed.new w k n u t 23
  have hw1 := below_tr hw0 hn0
  have A1 := An
  clear An hn0
  have hn1 := Below.allocs (w.alloc (.cells #[.int .u8 k, .int .i64 n, .int .i64 u, .string t] 23)) (.cells #[.int .u8 k', .int .i64 n', .int .i64 u', .string t'] 23)
  have Bn := Boxed.new (w.alloc (.cells #[.int .u8 k, .int .i64 n, .int .i64 u, .string t] 23)) k' n' u' t' 23
  rw [show (w.alloc (.cells #[.int .u8 k, .int .i64 n, .int .i64 u, .string t] 23)).heap.size = w.heap.size + 1 by simp] at Bn
  have A2 := A1.below hn1
  have hw2 := below_tr hw1 hn1
  clear A1
  have B2 := Bn
  clear Bn hn1
  have hn2 := Below.allocs ((w.alloc (.cells #[.int .u8 k, .int .i64 n, .int .i64 u, .string t] 23)).alloc (.cells #[.int .u8 k', .int .i64 n', .int .i64 u', .string t'] 23)) (.cells #[.int .u8 0, .int .i64 0, .int .i64 0, .string ⟨#[]⟩] 23)
  have Rn := Boxed.new ((w.alloc (.cells #[.int .u8 k, .int .i64 n, .int .i64 u, .string t] 23)).alloc (.cells #[.int .u8 k', .int .i64 n', .int .i64 u', .string t'] 23)) 0 0 0 ⟨#[]⟩ 23
  have SRn := Soft.new ((w.alloc (.cells #[.int .u8 k, .int .i64 n, .int .i64 u, .string t] 23)).alloc (.cells #[.int .u8 k', .int .i64 n', .int .i64 u', .string t'] 23)) 0 0 0 ⟨#[]⟩ 23
  rw [show ((w.alloc (.cells #[.int .u8 k, .int .i64 n, .int .i64 u, .string t] 23)).alloc (.cells #[.int .u8 k', .int .i64 n', .int .i64 u', .string t'] 23)).heap.size = w.heap.size + 1 + 1 by simp] at Rn SRn
  have A3 := A2.below hn2
  have B3 := B2.below hn2
  have hw3 := below_tr hw2 hn2
  clear A2 B2
  have R3 := Rn
  clear Rn hn2
  have SR3 := SRn
  clear SRn
  refine (alike_0 k n u t k' n' u' t' Hz.out _).mono ?_
  rintro e v1 ⟨rfl, hv1⟩
  have A4 := A3.below hv1
  have B4 := B3.below hv1
  have R4 := R3.below hv1
  have SR4 := SR3.below hv1
  have hw4 := below_tr hw3 hv1
  clear A3 B3 R3 SR3
  clear hv1
  have a' := A4
  obtain ⟨a0, a1, a2, a3, a4⟩ := a'
  have b' := B4
  obtain ⟨b0, b1, b2, b3, b4⟩ := b'
  have r' := R4
  obtain ⟨r0, r1, r2, r3, r4⟩ := r'
  have sr' := SR4
  obtain ⟨s0, s1, s2, s3, s4⟩ := sr'
  go_wp2_with fail
  have hwz := below_put4 hw4 (by omega : w.heap.size ≤ w.heap.size + 1 + 1) 0 0 0 ⟨#[]⟩
  obtain ⟨q0, q1, q2, q3, q4⟩ := boxed_put4 R4 0 0 0 ⟨#[]⟩
  exact bodyPost_ret (w := put4 v1 (w.heap.size + 1 + 1) 0 0 0 ⟨#[]⟩) (v := .tuple #[.agg #[.int .u8 0, .int .i64 0, .int .i64 0, .string ⟨#[]⟩], .int .i64 0]) (by simp [results, Try.results35, go_sem, q0, q1, q2, q3]) rfl ⟨rfl, hwz⟩

set_option maxHeartbeats 4000000 in
theorem rless_1 (k n u : Int) (t : ByteArray) (k' n' u' : Int) (t' : ByteArray) (z : (k == 0) = false) (z2 : (k' == 0) = true) (w : World) :
    Calls Try.prog 35 #[.agg #[.int .u8 k, .int .i64 n, .int .i64 u, .string t], .agg #[.int .u8 k', .int .i64 n', .int .i64 u', .string t']] w fun e w' => e = .returned (.tuple #[.agg #[.int .u8 0, .int .i64 0, .int .i64 0, .string ⟨#[]⟩], .int .i64 0]) ∧ Below w.heap.size w w' := by
  have Hz := Lib.hid z
  clear z
  have Hz2 := Lib.hid z2
  clear z2
  have hw0 := Below.refl w.heap.size w
  go_enter Try.func35, Try.ntmps35
  go_wp2_with fail
  have hn0 := Below.allocs w (.cells #[.int .u8 k, .int .i64 n, .int .i64 u, .string t] 23)
  have An := Boxed.new w k n u t 23
  have hw1 := below_tr hw0 hn0
  have A1 := An
  clear An hn0
  have hn1 := Below.allocs (w.alloc (.cells #[.int .u8 k, .int .i64 n, .int .i64 u, .string t] 23)) (.cells #[.int .u8 k', .int .i64 n', .int .i64 u', .string t'] 23)
  have Bn := Boxed.new (w.alloc (.cells #[.int .u8 k, .int .i64 n, .int .i64 u, .string t] 23)) k' n' u' t' 23
  rw [show (w.alloc (.cells #[.int .u8 k, .int .i64 n, .int .i64 u, .string t] 23)).heap.size = w.heap.size + 1 by simp] at Bn
  have A2 := A1.below hn1
  have hw2 := below_tr hw1 hn1
  clear A1
  have B2 := Bn
  clear Bn hn1
  have hn2 := Below.allocs ((w.alloc (.cells #[.int .u8 k, .int .i64 n, .int .i64 u, .string t] 23)).alloc (.cells #[.int .u8 k', .int .i64 n', .int .i64 u', .string t'] 23)) (.cells #[.int .u8 0, .int .i64 0, .int .i64 0, .string ⟨#[]⟩] 23)
  have Rn := Boxed.new ((w.alloc (.cells #[.int .u8 k, .int .i64 n, .int .i64 u, .string t] 23)).alloc (.cells #[.int .u8 k', .int .i64 n', .int .i64 u', .string t'] 23)) 0 0 0 ⟨#[]⟩ 23
  have SRn := Soft.new ((w.alloc (.cells #[.int .u8 k, .int .i64 n, .int .i64 u, .string t] 23)).alloc (.cells #[.int .u8 k', .int .i64 n', .int .i64 u', .string t'] 23)) 0 0 0 ⟨#[]⟩ 23
  rw [show ((w.alloc (.cells #[.int .u8 k, .int .i64 n, .int .i64 u, .string t] 23)).alloc (.cells #[.int .u8 k', .int .i64 n', .int .i64 u', .string t'] 23)).heap.size = w.heap.size + 1 + 1 by simp] at Rn SRn
  have A3 := A2.below hn2
  have B3 := B2.below hn2
  have hw3 := below_tr hw2 hn2
  clear A2 B2
  have R3 := Rn
  clear Rn hn2
  have SR3 := SRn
  clear SRn
  refine (alike_1 k n u t k' n' u' t' Hz.out Hz2.out _).mono ?_
  rintro e v1 ⟨rfl, hv1⟩
  have A4 := A3.below hv1
  have B4 := B3.below hv1
  have R4 := R3.below hv1
  have SR4 := SR3.below hv1
  have hw4 := below_tr hw3 hv1
  clear A3 B3 R3 SR3
  clear hv1
  have a' := A4
  obtain ⟨a0, a1, a2, a3, a4⟩ := a'
  have b' := B4
  obtain ⟨b0, b1, b2, b3, b4⟩ := b'
  have r' := R4
  obtain ⟨r0, r1, r2, r3, r4⟩ := r'
  have sr' := SR4
  obtain ⟨s0, s1, s2, s3, s4⟩ := sr'
  go_wp2_with fail
  have hwz := below_put4 hw4 (by omega : w.heap.size ≤ w.heap.size + 1 + 1) 0 0 0 ⟨#[]⟩
  obtain ⟨q0, q1, q2, q3, q4⟩ := boxed_put4 R4 0 0 0 ⟨#[]⟩
  exact bodyPost_ret (w := put4 v1 (w.heap.size + 1 + 1) 0 0 0 ⟨#[]⟩) (v := .tuple #[.agg #[.int .u8 0, .int .i64 0, .int .i64 0, .string ⟨#[]⟩], .int .i64 0]) (by simp [results, Try.results35, go_sem, q0, q1, q2, q3]) rfl ⟨rfl, hwz⟩

set_option maxHeartbeats 4000000 in
theorem rless_2 (k n u : Int) (t : ByteArray) (k' n' u' : Int) (t' : ByteArray) (z : (k == 0) = false) (z2 : (k' == 0) = false) (h : (k != k') = true) (w : World) :
    Calls Try.prog 35 #[.agg #[.int .u8 k, .int .i64 n, .int .i64 u, .string t], .agg #[.int .u8 k', .int .i64 n', .int .i64 u', .string t']] w fun e w' => e = .returned (.tuple #[.agg #[.int .u8 0, .int .i64 0, .int .i64 0, .string ⟨#[]⟩], .int .i64 60]) ∧ Below w.heap.size w w' := by
  have Hz := Lib.hid z
  clear z
  have Hz2 := Lib.hid z2
  clear z2
  have Hh := Lib.hid h
  clear h
  have hw0 := Below.refl w.heap.size w
  go_enter Try.func35, Try.ntmps35
  go_wp2_with fail
  have hn0 := Below.allocs w (.cells #[.int .u8 k, .int .i64 n, .int .i64 u, .string t] 23)
  have An := Boxed.new w k n u t 23
  have hw1 := below_tr hw0 hn0
  have A1 := An
  clear An hn0
  have hn1 := Below.allocs (w.alloc (.cells #[.int .u8 k, .int .i64 n, .int .i64 u, .string t] 23)) (.cells #[.int .u8 k', .int .i64 n', .int .i64 u', .string t'] 23)
  have Bn := Boxed.new (w.alloc (.cells #[.int .u8 k, .int .i64 n, .int .i64 u, .string t] 23)) k' n' u' t' 23
  rw [show (w.alloc (.cells #[.int .u8 k, .int .i64 n, .int .i64 u, .string t] 23)).heap.size = w.heap.size + 1 by simp] at Bn
  have A2 := A1.below hn1
  have hw2 := below_tr hw1 hn1
  clear A1
  have B2 := Bn
  clear Bn hn1
  have hn2 := Below.allocs ((w.alloc (.cells #[.int .u8 k, .int .i64 n, .int .i64 u, .string t] 23)).alloc (.cells #[.int .u8 k', .int .i64 n', .int .i64 u', .string t'] 23)) (.cells #[.int .u8 0, .int .i64 0, .int .i64 0, .string ⟨#[]⟩] 23)
  have Rn := Boxed.new ((w.alloc (.cells #[.int .u8 k, .int .i64 n, .int .i64 u, .string t] 23)).alloc (.cells #[.int .u8 k', .int .i64 n', .int .i64 u', .string t'] 23)) 0 0 0 ⟨#[]⟩ 23
  have SRn := Soft.new ((w.alloc (.cells #[.int .u8 k, .int .i64 n, .int .i64 u, .string t] 23)).alloc (.cells #[.int .u8 k', .int .i64 n', .int .i64 u', .string t'] 23)) 0 0 0 ⟨#[]⟩ 23
  rw [show ((w.alloc (.cells #[.int .u8 k, .int .i64 n, .int .i64 u, .string t] 23)).alloc (.cells #[.int .u8 k', .int .i64 n', .int .i64 u', .string t'] 23)).heap.size = w.heap.size + 1 + 1 by simp] at Rn SRn
  have A3 := A2.below hn2
  have B3 := B2.below hn2
  have hw3 := below_tr hw2 hn2
  clear A2 B2
  have R3 := Rn
  clear Rn hn2
  have SR3 := SRn
  clear SRn
  refine (alike_2 k n u t k' n' u' t' Hz.out Hz2.out Hh.out _).mono ?_
  rintro e v1 ⟨rfl, hv1⟩
  have A4 := A3.below hv1
  have B4 := B3.below hv1
  have R4 := R3.below hv1
  have SR4 := SR3.below hv1
  have hw4 := below_tr hw3 hv1
  clear A3 B3 R3 SR3
  clear hv1
  have a' := A4
  obtain ⟨a0, a1, a2, a3, a4⟩ := a'
  have b' := B4
  obtain ⟨b0, b1, b2, b3, b4⟩ := b'
  have r' := R4
  obtain ⟨r0, r1, r2, r3, r4⟩ := r'
  have sr' := SR4
  obtain ⟨s0, s1, s2, s3, s4⟩ := sr'
  go_wp2_with fail
  have hwz := below_put4 hw4 (by omega : w.heap.size ≤ w.heap.size + 1 + 1) 0 0 0 ⟨#[]⟩
  obtain ⟨q0, q1, q2, q3, q4⟩ := boxed_put4 R4 0 0 0 ⟨#[]⟩
  exact bodyPost_ret (w := put4 v1 (w.heap.size + 1 + 1) 0 0 0 ⟨#[]⟩) (v := .tuple #[.agg #[.int .u8 0, .int .i64 0, .int .i64 0, .string ⟨#[]⟩], .int .i64 60]) (by simp [results, Try.results35, go_sem, q0, q1, q2, q3]) rfl ⟨rfl, hwz⟩

set_option maxHeartbeats 4000000 in
theorem rless_3 (k n u : Int) (t : ByteArray) (n' u' : Int) (t' : ByteArray) (z : (k == 0) = false) (b : Bool) (hb : decide (cmpK k n u t n' u' t' < 0) = b) (w : World) :
    Calls Try.prog 35 #[.agg #[.int .u8 k, .int .i64 n, .int .i64 u, .string t], .agg #[.int .u8 k, .int .i64 n', .int .i64 u', .string t']] w fun e w' => e = .returned (.tuple #[.agg #[.int .u8 2, .int .i64 (ofN b), .int .i64 0, .string ⟨#[]⟩], .int .i64 0]) ∧ Below w.heap.size w w' := by
  have Hz := Lib.hid z
  clear z
  have Hhb := Lib.hid hb
  clear hb
  have hw0 := Below.refl w.heap.size w
  go_enter Try.func35, Try.ntmps35
  go_wp2_with fail
  have hn0 := Below.allocs w (.cells #[.int .u8 k, .int .i64 n, .int .i64 u, .string t] 23)
  have An := Boxed.new w k n u t 23
  have hw1 := below_tr hw0 hn0
  have A1 := An
  clear An hn0
  have hn1 := Below.allocs (w.alloc (.cells #[.int .u8 k, .int .i64 n, .int .i64 u, .string t] 23)) (.cells #[.int .u8 k, .int .i64 n', .int .i64 u', .string t'] 23)
  have Bn := Boxed.new (w.alloc (.cells #[.int .u8 k, .int .i64 n, .int .i64 u, .string t] 23)) k n' u' t' 23
  rw [show (w.alloc (.cells #[.int .u8 k, .int .i64 n, .int .i64 u, .string t] 23)).heap.size = w.heap.size + 1 by simp] at Bn
  have A2 := A1.below hn1
  have hw2 := below_tr hw1 hn1
  clear A1
  have B2 := Bn
  clear Bn hn1
  have hn2 := Below.allocs ((w.alloc (.cells #[.int .u8 k, .int .i64 n, .int .i64 u, .string t] 23)).alloc (.cells #[.int .u8 k, .int .i64 n', .int .i64 u', .string t'] 23)) (.cells #[.int .u8 0, .int .i64 0, .int .i64 0, .string ⟨#[]⟩] 23)
  have Rn := Boxed.new ((w.alloc (.cells #[.int .u8 k, .int .i64 n, .int .i64 u, .string t] 23)).alloc (.cells #[.int .u8 k, .int .i64 n', .int .i64 u', .string t'] 23)) 0 0 0 ⟨#[]⟩ 23
  have SRn := Soft.new ((w.alloc (.cells #[.int .u8 k, .int .i64 n, .int .i64 u, .string t] 23)).alloc (.cells #[.int .u8 k, .int .i64 n', .int .i64 u', .string t'] 23)) 0 0 0 ⟨#[]⟩ 23
  rw [show ((w.alloc (.cells #[.int .u8 k, .int .i64 n, .int .i64 u, .string t] 23)).alloc (.cells #[.int .u8 k, .int .i64 n', .int .i64 u', .string t'] 23)).heap.size = w.heap.size + 1 + 1 by simp] at Rn SRn
  have A3 := A2.below hn2
  have B3 := B2.below hn2
  have hw3 := below_tr hw2 hn2
  clear A2 B2
  have R3 := Rn
  clear Rn hn2
  have SR3 := SRn
  clear SRn
  refine (alike_3 k n u t k n' u' t' Hz.out Hz.out (by simp) _).mono ?_
  rintro e v1 ⟨rfl, hv1⟩
  have A4 := A3.below hv1
  have B4 := B3.below hv1
  have R4 := R3.below hv1
  have SR4 := SR3.below hv1
  have hw4 := below_tr hw3 hv1
  clear A3 B3 R3 SR3
  clear hv1
  have a' := A4
  obtain ⟨a0, a1, a2, a3, a4⟩ := a'
  have b' := B4
  obtain ⟨b0, b1, b2, b3, b4⟩ := b'
  have r' := R4
  obtain ⟨r0, r1, r2, r3, r4⟩ := r'
  go_wp2_with fail
  clear a0 a1 a2 a3 a4 b0 b1 b2 b3 b4 r0 r1 r2 r3 r4
  refine (ahead_is k n u t n' u' t' b Hhb.out _).mono ?_
  rintro e v2 ⟨rfl, hv2⟩
  have A5 := A4.below hv2
  have B5 := B4.below hv2
  have R5 := R4.below hv2
  have SR5 := SR4.below hv2
  have hw5 := below_tr hw4 hv2
  clear A4 B4 R4 SR4
  clear hv2
  have a' := A5
  obtain ⟨a0, a1, a2, a3, a4⟩ := a'
  have b' := B5
  obtain ⟨b0, b1, b2, b3, b4⟩ := b'
  have r' := R5
  obtain ⟨r0, r1, r2, r3, r4⟩ := r'
  go_wp2_with fail
  clear a0 a1 a2 a3 a4 b0 b1 b2 b3 b4 r0 r1 r2 r3 r4
  refine (rof_is b _).mono ?_
  rintro e v3 ⟨rfl, hv3⟩
  have A6 := A5.below hv3
  have B6 := B5.below hv3
  have R6 := R5.below hv3
  have SR6 := SR5.below hv3
  have hw6 := below_tr hw5 hv3
  clear A5 B5 R5 SR5
  clear hv3
  have a' := A6
  obtain ⟨a0, a1, a2, a3, a4⟩ := a'
  have b' := B6
  obtain ⟨b0, b1, b2, b3, b4⟩ := b'
  have r' := R6
  obtain ⟨r0, r1, r2, r3, r4⟩ := r'
  have sr' := SR6
  obtain ⟨s0, s1, s2, s3, s4⟩ := sr'
  go_wp2_with fail
  have hwz := below_put4 hw6 (by omega : w.heap.size ≤ w.heap.size + 1 + 1) 2 (ofN b) 0 ⟨#[]⟩
  obtain ⟨q0, q1, q2, q3, q4⟩ := boxed_put4 R6 2 (ofN b) 0 ⟨#[]⟩
  exact bodyPost_ret (w := put4 v3 (w.heap.size + 1 + 1) 2 (ofN b) 0 ⟨#[]⟩) (v := .tuple #[.agg #[.int .u8 2, .int .i64 (ofN b), .int .i64 0, .string ⟨#[]⟩], .int .i64 0]) (by simp [results, Try.results35, go_sem, q0, q1, q2, q3]) rfl ⟨rfl, hwz⟩

theorem rless_is (k n u : Int) (t : ByteArray) (k' n' u' : Int) (t' : ByteArray) (r : Res) (hr : lessR k n u t k' n' u' t' = r) (w : World) :
    Calls Try.prog 35 #[.agg #[.int .u8 k, .int .i64 n, .int .i64 u, .string t], .agg #[.int .u8 k', .int .i64 n', .int .i64 u', .string t']] w fun e w' => e = .returned (.tuple #[.agg #[.int .u8 r.k, .int .i64 r.n, .int .i64 0, .string ⟨#[]⟩], .int .i64 r.e]) ∧ Below w.heap.size w w' := by
  subst hr
  by_cases k0 : k = 0
  · rw [lessR_null (.inl k0)]; exact rless_0 k n u t k' n' u' t' (by simpa using k0) w
  · have z : (k == 0) = false := by simpa using k0
    by_cases k1 : k' = 0
    · rw [lessR_null (.inr k1)]; exact rless_1 k n u t k' n' u' t' z (by simpa using k1) w
    · by_cases e : k = k'
      · subst e
        rw [lessR_same k0]
        exact rless_3 k n u t n' u' t' z _ rfl w
      · rw [lessR_ne k0 k1 e]; exact rless_2 k n u t k' n' u' t' z (by simpa using k1) (by simpa using e) w

set_option maxHeartbeats 4000000 in
theorem requal_0 (k n u : Int) (t : ByteArray) (k' n' u' : Int) (t' : ByteArray) (z : (k == 0) = true) (w : World) :
    Calls Try.prog 33 #[.agg #[.int .u8 k, .int .i64 n, .int .i64 u, .string t], .agg #[.int .u8 k', .int .i64 n', .int .i64 u', .string t']] w fun e w' => e = .returned (.tuple #[.agg #[.int .u8 0, .int .i64 0, .int .i64 0, .string ⟨#[]⟩], .int .i64 0]) ∧ Below w.heap.size w w' := by
  have Hz := Lib.hid z
  clear z
  have hw0 := Below.refl w.heap.size w
  go_enter Try.func33, Try.ntmps33
  go_wp2_with fail
  have hn0 := Below.allocs w (.cells #[.int .u8 k, .int .i64 n, .int .i64 u, .string t] 23)
  have An := Boxed.new w k n u t 23
  have hw1 := below_tr hw0 hn0
  have A1 := An
  clear An hn0
  have hn1 := Below.allocs (w.alloc (.cells #[.int .u8 k, .int .i64 n, .int .i64 u, .string t] 23)) (.cells #[.int .u8 k', .int .i64 n', .int .i64 u', .string t'] 23)
  have Bn := Boxed.new (w.alloc (.cells #[.int .u8 k, .int .i64 n, .int .i64 u, .string t] 23)) k' n' u' t' 23
  rw [show (w.alloc (.cells #[.int .u8 k, .int .i64 n, .int .i64 u, .string t] 23)).heap.size = w.heap.size + 1 by simp] at Bn
  have A2 := A1.below hn1
  have hw2 := below_tr hw1 hn1
  clear A1
  have B2 := Bn
  clear Bn hn1
  have hn2 := Below.allocs ((w.alloc (.cells #[.int .u8 k, .int .i64 n, .int .i64 u, .string t] 23)).alloc (.cells #[.int .u8 k', .int .i64 n', .int .i64 u', .string t'] 23)) (.cells #[.int .u8 0, .int .i64 0, .int .i64 0, .string ⟨#[]⟩] 23)
  have Rn := Boxed.new ((w.alloc (.cells #[.int .u8 k, .int .i64 n, .int .i64 u, .string t] 23)).alloc (.cells #[.int .u8 k', .int .i64 n', .int .i64 u', .string t'] 23)) 0 0 0 ⟨#[]⟩ 23
  have SRn := Soft.new ((w.alloc (.cells #[.int .u8 k, .int .i64 n, .int .i64 u, .string t] 23)).alloc (.cells #[.int .u8 k', .int .i64 n', .int .i64 u', .string t'] 23)) 0 0 0 ⟨#[]⟩ 23
  rw [show ((w.alloc (.cells #[.int .u8 k, .int .i64 n, .int .i64 u, .string t] 23)).alloc (.cells #[.int .u8 k', .int .i64 n', .int .i64 u', .string t'] 23)).heap.size = w.heap.size + 1 + 1 by simp] at Rn SRn
  have A3 := A2.below hn2
  have B3 := B2.below hn2
  have hw3 := below_tr hw2 hn2
  clear A2 B2
  have R3 := Rn
  clear Rn hn2
  have SR3 := SRn
  clear SRn
  refine (alike_0 k n u t k' n' u' t' Hz.out _).mono ?_
  rintro e v1 ⟨rfl, hv1⟩
  have A4 := A3.below hv1
  have B4 := B3.below hv1
  have R4 := R3.below hv1
  have SR4 := SR3.below hv1
  have hw4 := below_tr hw3 hv1
  clear A3 B3 R3 SR3
  clear hv1
  have a' := A4
  obtain ⟨a0, a1, a2, a3, a4⟩ := a'
  have b' := B4
  obtain ⟨b0, b1, b2, b3, b4⟩ := b'
  have r' := R4
  obtain ⟨r0, r1, r2, r3, r4⟩ := r'
  have sr' := SR4
  obtain ⟨s0, s1, s2, s3, s4⟩ := sr'
  go_wp2_with fail
  have hwz := below_put4 hw4 (by omega : w.heap.size ≤ w.heap.size + 1 + 1) 0 0 0 ⟨#[]⟩
  obtain ⟨q0, q1, q2, q3, q4⟩ := boxed_put4 R4 0 0 0 ⟨#[]⟩
  exact bodyPost_ret (w := put4 v1 (w.heap.size + 1 + 1) 0 0 0 ⟨#[]⟩) (v := .tuple #[.agg #[.int .u8 0, .int .i64 0, .int .i64 0, .string ⟨#[]⟩], .int .i64 0]) (by simp [results, Try.results33, go_sem, q0, q1, q2, q3]) rfl ⟨rfl, hwz⟩

set_option maxHeartbeats 4000000 in
theorem requal_1 (k n u : Int) (t : ByteArray) (k' n' u' : Int) (t' : ByteArray) (z : (k == 0) = false) (z2 : (k' == 0) = true) (w : World) :
    Calls Try.prog 33 #[.agg #[.int .u8 k, .int .i64 n, .int .i64 u, .string t], .agg #[.int .u8 k', .int .i64 n', .int .i64 u', .string t']] w fun e w' => e = .returned (.tuple #[.agg #[.int .u8 0, .int .i64 0, .int .i64 0, .string ⟨#[]⟩], .int .i64 0]) ∧ Below w.heap.size w w' := by
  have Hz := Lib.hid z
  clear z
  have Hz2 := Lib.hid z2
  clear z2
  have hw0 := Below.refl w.heap.size w
  go_enter Try.func33, Try.ntmps33
  go_wp2_with fail
  have hn0 := Below.allocs w (.cells #[.int .u8 k, .int .i64 n, .int .i64 u, .string t] 23)
  have An := Boxed.new w k n u t 23
  have hw1 := below_tr hw0 hn0
  have A1 := An
  clear An hn0
  have hn1 := Below.allocs (w.alloc (.cells #[.int .u8 k, .int .i64 n, .int .i64 u, .string t] 23)) (.cells #[.int .u8 k', .int .i64 n', .int .i64 u', .string t'] 23)
  have Bn := Boxed.new (w.alloc (.cells #[.int .u8 k, .int .i64 n, .int .i64 u, .string t] 23)) k' n' u' t' 23
  rw [show (w.alloc (.cells #[.int .u8 k, .int .i64 n, .int .i64 u, .string t] 23)).heap.size = w.heap.size + 1 by simp] at Bn
  have A2 := A1.below hn1
  have hw2 := below_tr hw1 hn1
  clear A1
  have B2 := Bn
  clear Bn hn1
  have hn2 := Below.allocs ((w.alloc (.cells #[.int .u8 k, .int .i64 n, .int .i64 u, .string t] 23)).alloc (.cells #[.int .u8 k', .int .i64 n', .int .i64 u', .string t'] 23)) (.cells #[.int .u8 0, .int .i64 0, .int .i64 0, .string ⟨#[]⟩] 23)
  have Rn := Boxed.new ((w.alloc (.cells #[.int .u8 k, .int .i64 n, .int .i64 u, .string t] 23)).alloc (.cells #[.int .u8 k', .int .i64 n', .int .i64 u', .string t'] 23)) 0 0 0 ⟨#[]⟩ 23
  have SRn := Soft.new ((w.alloc (.cells #[.int .u8 k, .int .i64 n, .int .i64 u, .string t] 23)).alloc (.cells #[.int .u8 k', .int .i64 n', .int .i64 u', .string t'] 23)) 0 0 0 ⟨#[]⟩ 23
  rw [show ((w.alloc (.cells #[.int .u8 k, .int .i64 n, .int .i64 u, .string t] 23)).alloc (.cells #[.int .u8 k', .int .i64 n', .int .i64 u', .string t'] 23)).heap.size = w.heap.size + 1 + 1 by simp] at Rn SRn
  have A3 := A2.below hn2
  have B3 := B2.below hn2
  have hw3 := below_tr hw2 hn2
  clear A2 B2
  have R3 := Rn
  clear Rn hn2
  have SR3 := SRn
  clear SRn
  refine (alike_1 k n u t k' n' u' t' Hz.out Hz2.out _).mono ?_
  rintro e v1 ⟨rfl, hv1⟩
  have A4 := A3.below hv1
  have B4 := B3.below hv1
  have R4 := R3.below hv1
  have SR4 := SR3.below hv1
  have hw4 := below_tr hw3 hv1
  clear A3 B3 R3 SR3
  clear hv1
  have a' := A4
  obtain ⟨a0, a1, a2, a3, a4⟩ := a'
  have b' := B4
  obtain ⟨b0, b1, b2, b3, b4⟩ := b'
  have r' := R4
  obtain ⟨r0, r1, r2, r3, r4⟩ := r'
  have sr' := SR4
  obtain ⟨s0, s1, s2, s3, s4⟩ := sr'
  go_wp2_with fail
  have hwz := below_put4 hw4 (by omega : w.heap.size ≤ w.heap.size + 1 + 1) 0 0 0 ⟨#[]⟩
  obtain ⟨q0, q1, q2, q3, q4⟩ := boxed_put4 R4 0 0 0 ⟨#[]⟩
  exact bodyPost_ret (w := put4 v1 (w.heap.size + 1 + 1) 0 0 0 ⟨#[]⟩) (v := .tuple #[.agg #[.int .u8 0, .int .i64 0, .int .i64 0, .string ⟨#[]⟩], .int .i64 0]) (by simp [results, Try.results33, go_sem, q0, q1, q2, q3]) rfl ⟨rfl, hwz⟩

set_option maxHeartbeats 4000000 in
theorem requal_2 (k n u : Int) (t : ByteArray) (k' n' u' : Int) (t' : ByteArray) (z : (k == 0) = false) (z2 : (k' == 0) = false) (h : (k != k') = true) (w : World) :
    Calls Try.prog 33 #[.agg #[.int .u8 k, .int .i64 n, .int .i64 u, .string t], .agg #[.int .u8 k', .int .i64 n', .int .i64 u', .string t']] w fun e w' => e = .returned (.tuple #[.agg #[.int .u8 0, .int .i64 0, .int .i64 0, .string ⟨#[]⟩], .int .i64 60]) ∧ Below w.heap.size w w' := by
  have Hz := Lib.hid z
  clear z
  have Hz2 := Lib.hid z2
  clear z2
  have Hh := Lib.hid h
  clear h
  have hw0 := Below.refl w.heap.size w
  go_enter Try.func33, Try.ntmps33
  go_wp2_with fail
  have hn0 := Below.allocs w (.cells #[.int .u8 k, .int .i64 n, .int .i64 u, .string t] 23)
  have An := Boxed.new w k n u t 23
  have hw1 := below_tr hw0 hn0
  have A1 := An
  clear An hn0
  have hn1 := Below.allocs (w.alloc (.cells #[.int .u8 k, .int .i64 n, .int .i64 u, .string t] 23)) (.cells #[.int .u8 k', .int .i64 n', .int .i64 u', .string t'] 23)
  have Bn := Boxed.new (w.alloc (.cells #[.int .u8 k, .int .i64 n, .int .i64 u, .string t] 23)) k' n' u' t' 23
  rw [show (w.alloc (.cells #[.int .u8 k, .int .i64 n, .int .i64 u, .string t] 23)).heap.size = w.heap.size + 1 by simp] at Bn
  have A2 := A1.below hn1
  have hw2 := below_tr hw1 hn1
  clear A1
  have B2 := Bn
  clear Bn hn1
  have hn2 := Below.allocs ((w.alloc (.cells #[.int .u8 k, .int .i64 n, .int .i64 u, .string t] 23)).alloc (.cells #[.int .u8 k', .int .i64 n', .int .i64 u', .string t'] 23)) (.cells #[.int .u8 0, .int .i64 0, .int .i64 0, .string ⟨#[]⟩] 23)
  have Rn := Boxed.new ((w.alloc (.cells #[.int .u8 k, .int .i64 n, .int .i64 u, .string t] 23)).alloc (.cells #[.int .u8 k', .int .i64 n', .int .i64 u', .string t'] 23)) 0 0 0 ⟨#[]⟩ 23
  have SRn := Soft.new ((w.alloc (.cells #[.int .u8 k, .int .i64 n, .int .i64 u, .string t] 23)).alloc (.cells #[.int .u8 k', .int .i64 n', .int .i64 u', .string t'] 23)) 0 0 0 ⟨#[]⟩ 23
  rw [show ((w.alloc (.cells #[.int .u8 k, .int .i64 n, .int .i64 u, .string t] 23)).alloc (.cells #[.int .u8 k', .int .i64 n', .int .i64 u', .string t'] 23)).heap.size = w.heap.size + 1 + 1 by simp] at Rn SRn
  have A3 := A2.below hn2
  have B3 := B2.below hn2
  have hw3 := below_tr hw2 hn2
  clear A2 B2
  have R3 := Rn
  clear Rn hn2
  have SR3 := SRn
  clear SRn
  refine (alike_2 k n u t k' n' u' t' Hz.out Hz2.out Hh.out _).mono ?_
  rintro e v1 ⟨rfl, hv1⟩
  have A4 := A3.below hv1
  have B4 := B3.below hv1
  have R4 := R3.below hv1
  have SR4 := SR3.below hv1
  have hw4 := below_tr hw3 hv1
  clear A3 B3 R3 SR3
  clear hv1
  have a' := A4
  obtain ⟨a0, a1, a2, a3, a4⟩ := a'
  have b' := B4
  obtain ⟨b0, b1, b2, b3, b4⟩ := b'
  have r' := R4
  obtain ⟨r0, r1, r2, r3, r4⟩ := r'
  have sr' := SR4
  obtain ⟨s0, s1, s2, s3, s4⟩ := sr'
  go_wp2_with fail
  have hwz := below_put4 hw4 (by omega : w.heap.size ≤ w.heap.size + 1 + 1) 0 0 0 ⟨#[]⟩
  obtain ⟨q0, q1, q2, q3, q4⟩ := boxed_put4 R4 0 0 0 ⟨#[]⟩
  exact bodyPost_ret (w := put4 v1 (w.heap.size + 1 + 1) 0 0 0 ⟨#[]⟩) (v := .tuple #[.agg #[.int .u8 0, .int .i64 0, .int .i64 0, .string ⟨#[]⟩], .int .i64 60]) (by simp [results, Try.results33, go_sem, q0, q1, q2, q3]) rfl ⟨rfl, hwz⟩

set_option maxHeartbeats 4000000 in
theorem requal_3 (k n u : Int) (t : ByteArray) (n' u' : Int) (t' : ByteArray) (z : (k == 0) = false) (hb : decide (cmpK k n u t n' u' t' < 0) = true) (w : World) :
    Calls Try.prog 33 #[.agg #[.int .u8 k, .int .i64 n, .int .i64 u, .string t], .agg #[.int .u8 k, .int .i64 n', .int .i64 u', .string t']] w fun e w' => e = .returned (.tuple #[.agg #[.int .u8 2, .int .i64 (ofN false), .int .i64 0, .string ⟨#[]⟩], .int .i64 0]) ∧ Below w.heap.size w w' := by
  have Hz := Lib.hid z
  clear z
  have Hhb := Lib.hid hb
  clear hb
  have hw0 := Below.refl w.heap.size w
  go_enter Try.func33, Try.ntmps33
  go_wp2_with fail
  have hn0 := Below.allocs w (.cells #[.int .u8 k, .int .i64 n, .int .i64 u, .string t] 23)
  have An := Boxed.new w k n u t 23
  have hw1 := below_tr hw0 hn0
  have A1 := An
  clear An hn0
  have hn1 := Below.allocs (w.alloc (.cells #[.int .u8 k, .int .i64 n, .int .i64 u, .string t] 23)) (.cells #[.int .u8 k, .int .i64 n', .int .i64 u', .string t'] 23)
  have Bn := Boxed.new (w.alloc (.cells #[.int .u8 k, .int .i64 n, .int .i64 u, .string t] 23)) k n' u' t' 23
  rw [show (w.alloc (.cells #[.int .u8 k, .int .i64 n, .int .i64 u, .string t] 23)).heap.size = w.heap.size + 1 by simp] at Bn
  have A2 := A1.below hn1
  have hw2 := below_tr hw1 hn1
  clear A1
  have B2 := Bn
  clear Bn hn1
  have hn2 := Below.allocs ((w.alloc (.cells #[.int .u8 k, .int .i64 n, .int .i64 u, .string t] 23)).alloc (.cells #[.int .u8 k, .int .i64 n', .int .i64 u', .string t'] 23)) (.cells #[.int .u8 0, .int .i64 0, .int .i64 0, .string ⟨#[]⟩] 23)
  have Rn := Boxed.new ((w.alloc (.cells #[.int .u8 k, .int .i64 n, .int .i64 u, .string t] 23)).alloc (.cells #[.int .u8 k, .int .i64 n', .int .i64 u', .string t'] 23)) 0 0 0 ⟨#[]⟩ 23
  have SRn := Soft.new ((w.alloc (.cells #[.int .u8 k, .int .i64 n, .int .i64 u, .string t] 23)).alloc (.cells #[.int .u8 k, .int .i64 n', .int .i64 u', .string t'] 23)) 0 0 0 ⟨#[]⟩ 23
  rw [show ((w.alloc (.cells #[.int .u8 k, .int .i64 n, .int .i64 u, .string t] 23)).alloc (.cells #[.int .u8 k, .int .i64 n', .int .i64 u', .string t'] 23)).heap.size = w.heap.size + 1 + 1 by simp] at Rn SRn
  have A3 := A2.below hn2
  have B3 := B2.below hn2
  have hw3 := below_tr hw2 hn2
  clear A2 B2
  have R3 := Rn
  clear Rn hn2
  have SR3 := SRn
  clear SRn
  refine (alike_3 k n u t k n' u' t' Hz.out Hz.out (by simp) _).mono ?_
  rintro e v1 ⟨rfl, hv1⟩
  have A4 := A3.below hv1
  have B4 := B3.below hv1
  have R4 := R3.below hv1
  have SR4 := SR3.below hv1
  have hw4 := below_tr hw3 hv1
  clear A3 B3 R3 SR3
  clear hv1
  have a' := A4
  obtain ⟨a0, a1, a2, a3, a4⟩ := a'
  have b' := B4
  obtain ⟨b0, b1, b2, b3, b4⟩ := b'
  have r' := R4
  obtain ⟨r0, r1, r2, r3, r4⟩ := r'
  go_wp2_with fail
  clear a0 a1 a2 a3 a4 b0 b1 b2 b3 b4 r0 r1 r2 r3 r4
  refine (ahead_is k n u t n' u' t' true Hhb.out _).mono ?_
  rintro e v2 ⟨rfl, hv2⟩
  have A5 := A4.below hv2
  have B5 := B4.below hv2
  have R5 := R4.below hv2
  have SR5 := SR4.below hv2
  have hw5 := below_tr hw4 hv2
  clear A4 B4 R4 SR4
  clear hv2
  have a' := A5
  obtain ⟨a0, a1, a2, a3, a4⟩ := a'
  have b' := B5
  obtain ⟨b0, b1, b2, b3, b4⟩ := b'
  have r' := R5
  obtain ⟨r0, r1, r2, r3, r4⟩ := r'
  go_wp2_with fail
  clear a0 a1 a2 a3 a4 b0 b1 b2 b3 b4 r0 r1 r2 r3 r4
  refine (rof_is false _).mono ?_
  rintro e v3 ⟨rfl, hv3⟩
  have A6 := A5.below hv3
  have B6 := B5.below hv3
  have R6 := R5.below hv3
  have SR6 := SR5.below hv3
  have hw6 := below_tr hw5 hv3
  clear A5 B5 R5 SR5
  clear hv3
  have a' := A6
  obtain ⟨a0, a1, a2, a3, a4⟩ := a'
  have b' := B6
  obtain ⟨b0, b1, b2, b3, b4⟩ := b'
  have r' := R6
  obtain ⟨r0, r1, r2, r3, r4⟩ := r'
  have sr' := SR6
  obtain ⟨s0, s1, s2, s3, s4⟩ := sr'
  go_wp2_with fail
  have hwz := below_put4 hw6 (by omega : w.heap.size ≤ w.heap.size + 1 + 1) 2 (ofN false) 0 ⟨#[]⟩
  obtain ⟨q0, q1, q2, q3, q4⟩ := boxed_put4 R6 2 (ofN false) 0 ⟨#[]⟩
  exact bodyPost_ret (w := put4 v3 (w.heap.size + 1 + 1) 2 (ofN false) 0 ⟨#[]⟩) (v := .tuple #[.agg #[.int .u8 2, .int .i64 (ofN false), .int .i64 0, .string ⟨#[]⟩], .int .i64 0]) (by simp [results, Try.results33, go_sem, q0, q1, q2, q3]) rfl ⟨rfl, hwz⟩

set_option maxHeartbeats 4000000 in
theorem requal_4 (k n u : Int) (t : ByteArray) (n' u' : Int) (t' : ByteArray) (z : (k == 0) = false) (hb : decide (cmpK k n u t n' u' t' < 0) = false) (b : Bool) (hc : decide (cmpK k n' u' t' n u t < 0) = b) (w : World) :
    Calls Try.prog 33 #[.agg #[.int .u8 k, .int .i64 n, .int .i64 u, .string t], .agg #[.int .u8 k, .int .i64 n', .int .i64 u', .string t']] w fun e w' => e = .returned (.tuple #[.agg #[.int .u8 2, .int .i64 (ofN (!b)), .int .i64 0, .string ⟨#[]⟩], .int .i64 0]) ∧ Below w.heap.size w w' := by
  have Hz := Lib.hid z
  clear z
  have Hhb := Lib.hid hb
  clear hb
  have Hhc := Lib.hid hc
  clear hc
  have hw0 := Below.refl w.heap.size w
  go_enter Try.func33, Try.ntmps33
  go_wp2_with fail
  have hn0 := Below.allocs w (.cells #[.int .u8 k, .int .i64 n, .int .i64 u, .string t] 23)
  have An := Boxed.new w k n u t 23
  have hw1 := below_tr hw0 hn0
  have A1 := An
  clear An hn0
  have hn1 := Below.allocs (w.alloc (.cells #[.int .u8 k, .int .i64 n, .int .i64 u, .string t] 23)) (.cells #[.int .u8 k, .int .i64 n', .int .i64 u', .string t'] 23)
  have Bn := Boxed.new (w.alloc (.cells #[.int .u8 k, .int .i64 n, .int .i64 u, .string t] 23)) k n' u' t' 23
  rw [show (w.alloc (.cells #[.int .u8 k, .int .i64 n, .int .i64 u, .string t] 23)).heap.size = w.heap.size + 1 by simp] at Bn
  have A2 := A1.below hn1
  have hw2 := below_tr hw1 hn1
  clear A1
  have B2 := Bn
  clear Bn hn1
  have hn2 := Below.allocs ((w.alloc (.cells #[.int .u8 k, .int .i64 n, .int .i64 u, .string t] 23)).alloc (.cells #[.int .u8 k, .int .i64 n', .int .i64 u', .string t'] 23)) (.cells #[.int .u8 0, .int .i64 0, .int .i64 0, .string ⟨#[]⟩] 23)
  have Rn := Boxed.new ((w.alloc (.cells #[.int .u8 k, .int .i64 n, .int .i64 u, .string t] 23)).alloc (.cells #[.int .u8 k, .int .i64 n', .int .i64 u', .string t'] 23)) 0 0 0 ⟨#[]⟩ 23
  have SRn := Soft.new ((w.alloc (.cells #[.int .u8 k, .int .i64 n, .int .i64 u, .string t] 23)).alloc (.cells #[.int .u8 k, .int .i64 n', .int .i64 u', .string t'] 23)) 0 0 0 ⟨#[]⟩ 23
  rw [show ((w.alloc (.cells #[.int .u8 k, .int .i64 n, .int .i64 u, .string t] 23)).alloc (.cells #[.int .u8 k, .int .i64 n', .int .i64 u', .string t'] 23)).heap.size = w.heap.size + 1 + 1 by simp] at Rn SRn
  have A3 := A2.below hn2
  have B3 := B2.below hn2
  have hw3 := below_tr hw2 hn2
  clear A2 B2
  have R3 := Rn
  clear Rn hn2
  have SR3 := SRn
  clear SRn
  refine (alike_3 k n u t k n' u' t' Hz.out Hz.out (by simp) _).mono ?_
  rintro e v1 ⟨rfl, hv1⟩
  have A4 := A3.below hv1
  have B4 := B3.below hv1
  have R4 := R3.below hv1
  have SR4 := SR3.below hv1
  have hw4 := below_tr hw3 hv1
  clear A3 B3 R3 SR3
  clear hv1
  have a' := A4
  obtain ⟨a0, a1, a2, a3, a4⟩ := a'
  have b' := B4
  obtain ⟨b0, b1, b2, b3, b4⟩ := b'
  have r' := R4
  obtain ⟨r0, r1, r2, r3, r4⟩ := r'
  go_wp2_with fail
  clear a0 a1 a2 a3 a4 b0 b1 b2 b3 b4 r0 r1 r2 r3 r4
  refine (ahead_is k n u t n' u' t' false Hhb.out _).mono ?_
  rintro e v2 ⟨rfl, hv2⟩
  have A5 := A4.below hv2
  have B5 := B4.below hv2
  have R5 := R4.below hv2
  have SR5 := SR4.below hv2
  have hw5 := below_tr hw4 hv2
  clear A4 B4 R4 SR4
  clear hv2
  have a' := A5
  obtain ⟨a0, a1, a2, a3, a4⟩ := a'
  have b' := B5
  obtain ⟨b0, b1, b2, b3, b4⟩ := b'
  have r' := R5
  obtain ⟨r0, r1, r2, r3, r4⟩ := r'
  go_wp2_with fail
  clear a0 a1 a2 a3 a4 b0 b1 b2 b3 b4 r0 r1 r2 r3 r4
  refine (ahead_is k n' u' t' n u t b Hhc.out _).mono ?_
  rintro e v3 ⟨rfl, hv3⟩
  have A6 := A5.below hv3
  have B6 := B5.below hv3
  have R6 := R5.below hv3
  have SR6 := SR5.below hv3
  have hw6 := below_tr hw5 hv3
  clear A5 B5 R5 SR5
  clear hv3
  have a' := A6
  obtain ⟨a0, a1, a2, a3, a4⟩ := a'
  have b' := B6
  obtain ⟨b0, b1, b2, b3, b4⟩ := b'
  have r' := R6
  obtain ⟨r0, r1, r2, r3, r4⟩ := r'
  go_wp2_with fail
  clear a0 a1 a2 a3 a4 b0 b1 b2 b3 b4 r0 r1 r2 r3 r4
  refine (rof_is (!b) _).mono ?_
  rintro e v4 ⟨rfl, hv4⟩
  have A7 := A6.below hv4
  have B7 := B6.below hv4
  have R7 := R6.below hv4
  have SR7 := SR6.below hv4
  have hw7 := below_tr hw6 hv4
  clear A6 B6 R6 SR6
  clear hv4
  have a' := A7
  obtain ⟨a0, a1, a2, a3, a4⟩ := a'
  have b' := B7
  obtain ⟨b0, b1, b2, b3, b4⟩ := b'
  have r' := R7
  obtain ⟨r0, r1, r2, r3, r4⟩ := r'
  have sr' := SR7
  obtain ⟨s0, s1, s2, s3, s4⟩ := sr'
  go_wp2_with fail
  have hwz := below_put4 hw7 (by omega : w.heap.size ≤ w.heap.size + 1 + 1) 2 (ofN (!b)) 0 ⟨#[]⟩
  obtain ⟨q0, q1, q2, q3, q4⟩ := boxed_put4 R7 2 (ofN (!b)) 0 ⟨#[]⟩
  exact bodyPost_ret (w := put4 v4 (w.heap.size + 1 + 1) 2 (ofN (!b)) 0 ⟨#[]⟩) (v := .tuple #[.agg #[.int .u8 2, .int .i64 (ofN (!b)), .int .i64 0, .string ⟨#[]⟩], .int .i64 0]) (by simp [results, Try.results33, go_sem, q0, q1, q2, q3]) rfl ⟨rfl, hwz⟩

theorem requal_is (k n u : Int) (t : ByteArray) (k' n' u' : Int) (t' : ByteArray) (r : Res) (hr : equalR k n u t k' n' u' t' = r) (w : World) :
    Calls Try.prog 33 #[.agg #[.int .u8 k, .int .i64 n, .int .i64 u, .string t], .agg #[.int .u8 k', .int .i64 n', .int .i64 u', .string t']] w fun e w' => e = .returned (.tuple #[.agg #[.int .u8 r.k, .int .i64 r.n, .int .i64 0, .string ⟨#[]⟩], .int .i64 r.e]) ∧ Below w.heap.size w w' := by
  subst hr
  by_cases k0 : k = 0
  · rw [equalR_null (.inl k0)]; exact requal_0 k n u t k' n' u' t' (by simpa using k0) w
  · have z : (k == 0) = false := by simpa using k0
    by_cases k1 : k' = 0
    · rw [equalR_null (.inr k1)]; exact requal_1 k n u t k' n' u' t' z (by simpa using k1) w
    · by_cases e : k = k'
      · subst e
        rw [equalR_same k0]
        cases hb : decide (cmpK k n u t n' u' t' < 0)
        · have hn := cmpK_neg k n u t n' u' t'
          have e2 : (cmpK k n u t n' u' t' == 0) = !(decide (cmpK k n' u' t' n u t < 0)) := by
            have h := of_decide_eq_false hb
            rw [Bool.eq_iff_iff]
            simp only [beq_iff_eq, Bool.not_eq_true', decide_eq_false_iff_not]
            omega
          rw [e2]
          exact requal_4 k n u t n' u' t' z hb _ rfl w
        · have h := of_decide_eq_true hb
          rw [show (cmpK k n u t n' u' t' == 0) = false by rw [beq_eq_false_iff_ne]; omega]
          exact requal_3 k n u t n' u' t' z hb w
      · rw [equalR_ne k0 k1 e]; exact requal_2 k n u t k' n' u' t' z (by simpa using k1) (by simpa using e) w

end Go.Proofs.Ytmbjhahlbbhdaaa
