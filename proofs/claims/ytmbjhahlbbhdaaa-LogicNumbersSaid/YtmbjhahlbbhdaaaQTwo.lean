/-
  The laws' helper two: what comes of two values, by a call.
-/
import Derived.Test.YtmbjhahlbbhdaaaQAwake
import Derived.Deep.DeepCutAuto
namespace Go.Proofs.Ytmbjhahlbbhdaaa
open Go.RowKit

set_option maxHeartbeats 2000000 in
theorem two_add (k n u : Int) (t : ByteArray) (k' n' u' : Int) (t' : ByteArray) (hn : I64 n) (hm : I64 n') (r : Res) (hr : calcR k k' (n + n') = r) (b : Bool) (hb : (r.e == 0) = b) (w : World) :
    Calls Try.prog 39 #[.func (.func 26) #[] #[], .agg #[.int .u8 k, .int .i64 n, .int .i64 u, .string t], .agg #[.int .u8 k', .int .i64 n', .int .i64 u', .string t']] w fun e w' => e = .returned (.tuple #[.agg #[.int .u8 r.k, .int .i64 r.n, .int .i64 0, .string ⟨#[]⟩], .bool b]) ∧ Below w.heap.size w w' := by
  have HR := Lib.hid hr
  have HN := Lib.hid hn
  have HM := Lib.hid hm
  clear hr hn hm
  have hw0 := Below.refl w.heap.size w
  go_enter Try.func39, Try.ntmps39
  go_wp2_with fail
  have hn0 := Below.allocs w (.cells #[.int .u8 k, .int .i64 n, .int .i64 u, .string t] 23)
  have An := Boxed.new w k n u t 23
  have hw1 := below_tr hw0 hn0
  have A1 := An
  clear An hn0
  have hn1 := Below.allocs (w.alloc (.cells #[.int .u8 k, .int .i64 n, .int .i64 u, .string t] 23)) (.cells #[.int .u8 k', .int .i64 n', .int .i64 u', .string t'] 23)
  have Bn := Boxed.new (w.alloc (.cells #[.int .u8 k, .int .i64 n, .int .i64 u, .string t] 23)) k' n' u' t' 23
  rw [show (w.alloc (.cells #[.int .u8 k, .int .i64 n, .int .i64 u, .string t] 23)).heap.size = w.heap.size + 1 by simp] at Bn
  have A2 := A1.below hn1
  have hw2 := below_tr hw1 hn1
  clear A1
  have B2 := Bn
  clear Bn hn1
  have hn2 := Below.allocs ((w.alloc (.cells #[.int .u8 k, .int .i64 n, .int .i64 u, .string t] 23)).alloc (.cells #[.int .u8 k', .int .i64 n', .int .i64 u', .string t'] 23)) (.cells #[.int .u8 0, .int .i64 0, .int .i64 0, .string ⟨#[]⟩] 23)
  have Rn := Boxed.new ((w.alloc (.cells #[.int .u8 k, .int .i64 n, .int .i64 u, .string t] 23)).alloc (.cells #[.int .u8 k', .int .i64 n', .int .i64 u', .string t'] 23)) 0 0 0 ⟨#[]⟩ 23
  have SRn := Soft.new ((w.alloc (.cells #[.int .u8 k, .int .i64 n, .int .i64 u, .string t] 23)).alloc (.cells #[.int .u8 k', .int .i64 n', .int .i64 u', .string t'] 23)) 0 0 0 ⟨#[]⟩ 23
  rw [show ((w.alloc (.cells #[.int .u8 k, .int .i64 n, .int .i64 u, .string t] 23)).alloc (.cells #[.int .u8 k', .int .i64 n', .int .i64 u', .string t'] 23)).heap.size = w.heap.size + 1 + 1 by simp] at Rn SRn
  have A3 := A2.below hn2
  have B3 := B2.below hn2
  have hw3 := below_tr hw2 hn2
  clear A2 B2
  have R3 := Rn
  clear Rn hn2
  have SR3 := SRn
  clear SRn
  refine (add_is k n u t k' n' u' t' r HR.out HN.out HM.out _).mono ?_
  rintro e v1 ⟨rfl, hv1⟩
  have A4 := A3.below hv1
  have B4 := B3.below hv1
  have R4 := R3.below hv1
  have SR4 := SR3.below hv1
  have hw4 := below_tr hw3 hv1
  clear A3 B3 R3 SR3
  clear hv1
  have r' := R4
  obtain ⟨r0, r1, r2, r3, r4⟩ := r'
  have sr' := SR4
  obtain ⟨s0, s1, s2, s3, s4⟩ := sr'
  have hwp := below_put4 hw4 (by omega : w.heap.size ≤ w.heap.size + 1 + 1) r.k r.n 0 ⟨#[]⟩
  have hn := Below.allocs (put4 v1 (w.heap.size + 1 + 1) r.k r.n 0 ⟨#[]⟩) (.cells #[.int .u8 r.k, .int .i64 r.n, .int .i64 0, .string ⟨#[]⟩] 23)
  have hwz := below_tr hwp hn
  obtain ⟨q0, q1, q2, q3, q4⟩ := (boxed_put4 R4 r.k r.n 0 ⟨#[]⟩).below hn
  go_wp2_with fail
  exact bodyPost_ret (w := (put4 v1 (w.heap.size + 1 + 1) r.k r.n 0 ⟨#[]⟩).alloc (.cells #[.int .u8 r.k, .int .i64 r.n, .int .i64 0, .string ⟨#[]⟩] 23)) (v := .tuple #[.agg #[.int .u8 r.k, .int .i64 r.n, .int .i64 0, .string ⟨#[]⟩], .bool b]) (by simp [results, Try.results39, go_sem, q0, q1, q2, q3]) rfl ⟨rfl, hwz⟩

set_option maxHeartbeats 2000000 in
theorem two_sub (k n u : Int) (t : ByteArray) (k' n' u' : Int) (t' : ByteArray) (hn : I64 n) (hm : I64 n') (r : Res) (hr : calcR k k' (n - n') = r) (b : Bool) (hb : (r.e == 0) = b) (w : World) :
    Calls Try.prog 39 #[.func (.func 28) #[] #[], .agg #[.int .u8 k, .int .i64 n, .int .i64 u, .string t], .agg #[.int .u8 k', .int .i64 n', .int .i64 u', .string t']] w fun e w' => e = .returned (.tuple #[.agg #[.int .u8 r.k, .int .i64 r.n, .int .i64 0, .string ⟨#[]⟩], .bool b]) ∧ Below w.heap.size w w' := by
  have HR := Lib.hid hr
  have HN := Lib.hid hn
  have HM := Lib.hid hm
  clear hr hn hm
  have hw0 := Below.refl w.heap.size w
  go_enter Try.func39, Try.ntmps39
  go_wp2_with fail
  have hn0 := Below.allocs w (.cells #[.int .u8 k, .int .i64 n, .int .i64 u, .string t] 23)
  have An := Boxed.new w k n u t 23
  have hw1 := below_tr hw0 hn0
  have A1 := An
  clear An hn0
  have hn1 := Below.allocs (w.alloc (.cells #[.int .u8 k, .int .i64 n, .int .i64 u, .string t] 23)) (.cells #[.int .u8 k', .int .i64 n', .int .i64 u', .string t'] 23)
  have Bn := Boxed.new (w.alloc (.cells #[.int .u8 k, .int .i64 n, .int .i64 u, .string t] 23)) k' n' u' t' 23
  rw [show (w.alloc (.cells #[.int .u8 k, .int .i64 n, .int .i64 u, .string t] 23)).heap.size = w.heap.size + 1 by simp] at Bn
  have A2 := A1.below hn1
  have hw2 := below_tr hw1 hn1
  clear A1
  have B2 := Bn
  clear Bn hn1
  have hn2 := Below.allocs ((w.alloc (.cells #[.int .u8 k, .int .i64 n, .int .i64 u, .string t] 23)).alloc (.cells #[.int .u8 k', .int .i64 n', .int .i64 u', .string t'] 23)) (.cells #[.int .u8 0, .int .i64 0, .int .i64 0, .string ⟨#[]⟩] 23)
  have Rn := Boxed.new ((w.alloc (.cells #[.int .u8 k, .int .i64 n, .int .i64 u, .string t] 23)).alloc (.cells #[.int .u8 k', .int .i64 n', .int .i64 u', .string t'] 23)) 0 0 0 ⟨#[]⟩ 23
  have SRn := Soft.new ((w.alloc (.cells #[.int .u8 k, .int .i64 n, .int .i64 u, .string t] 23)).alloc (.cells #[.int .u8 k', .int .i64 n', .int .i64 u', .string t'] 23)) 0 0 0 ⟨#[]⟩ 23
  rw [show ((w.alloc (.cells #[.int .u8 k, .int .i64 n, .int .i64 u, .string t] 23)).alloc (.cells #[.int .u8 k', .int .i64 n', .int .i64 u', .string t'] 23)).heap.size = w.heap.size + 1 + 1 by simp] at Rn SRn
  have A3 := A2.below hn2
  have B3 := B2.below hn2
  have hw3 := below_tr hw2 hn2
  clear A2 B2
  have R3 := Rn
  clear Rn hn2
  have SR3 := SRn
  clear SRn
  refine (sub_is k n u t k' n' u' t' r HR.out HN.out HM.out _).mono ?_
  rintro e v1 ⟨rfl, hv1⟩
  have A4 := A3.below hv1
  have B4 := B3.below hv1
  have R4 := R3.below hv1
  have SR4 := SR3.below hv1
  have hw4 := below_tr hw3 hv1
  clear A3 B3 R3 SR3
  clear hv1
  have r' := R4
  obtain ⟨r0, r1, r2, r3, r4⟩ := r'
  have sr' := SR4
  obtain ⟨s0, s1, s2, s3, s4⟩ := sr'
  have hwp := below_put4 hw4 (by omega : w.heap.size ≤ w.heap.size + 1 + 1) r.k r.n 0 ⟨#[]⟩
  have hn := Below.allocs (put4 v1 (w.heap.size + 1 + 1) r.k r.n 0 ⟨#[]⟩) (.cells #[.int .u8 r.k, .int .i64 r.n, .int .i64 0, .string ⟨#[]⟩] 23)
  have hwz := below_tr hwp hn
  obtain ⟨q0, q1, q2, q3, q4⟩ := (boxed_put4 R4 r.k r.n 0 ⟨#[]⟩).below hn
  go_wp2_with fail
  exact bodyPost_ret (w := (put4 v1 (w.heap.size + 1 + 1) r.k r.n 0 ⟨#[]⟩).alloc (.cells #[.int .u8 r.k, .int .i64 r.n, .int .i64 0, .string ⟨#[]⟩] 23)) (v := .tuple #[.agg #[.int .u8 r.k, .int .i64 r.n, .int .i64 0, .string ⟨#[]⟩], .bool b]) (by simp [results, Try.results39, go_sem, q0, q1, q2, q3]) rfl ⟨rfl, hwz⟩

set_option maxHeartbeats 2000000 in
theorem two_mul (k n u : Int) (t : ByteArray) (k' n' u' : Int) (t' : ByteArray) (hn : I64 n) (hm : I64 n') (r : Res) (hr : calcR k k' (n * n') = r) (b : Bool) (hb : (r.e == 0) = b) (w : World) :
    Calls Try.prog 39 #[.func (.func 30) #[] #[], .agg #[.int .u8 k, .int .i64 n, .int .i64 u, .string t], .agg #[.int .u8 k', .int .i64 n', .int .i64 u', .string t']] w fun e w' => e = .returned (.tuple #[.agg #[.int .u8 r.k, .int .i64 r.n, .int .i64 0, .string ⟨#[]⟩], .bool b]) ∧ Below w.heap.size w w' := by
  have HR := Lib.hid hr
  have HN := Lib.hid hn
  have HM := Lib.hid hm
  clear hr hn hm
  have hw0 := Below.refl w.heap.size w
  go_enter Try.func39, Try.ntmps39
  go_wp2_with fail
  have hn0 := Below.allocs w (.cells #[.int .u8 k, .int .i64 n, .int .i64 u, .string t] 23)
  have An := Boxed.new w k n u t 23
  have hw1 := below_tr hw0 hn0
  have A1 := An
  clear An hn0
  have hn1 := Below.allocs (w.alloc (.cells #[.int .u8 k, .int .i64 n, .int .i64 u, .string t] 23)) (.cells #[.int .u8 k', .int .i64 n', .int .i64 u', .string t'] 23)
  have Bn := Boxed.new (w.alloc (.cells #[.int .u8 k, .int .i64 n, .int .i64 u, .string t] 23)) k' n' u' t' 23
  rw [show (w.alloc (.cells #[.int .u8 k, .int .i64 n, .int .i64 u, .string t] 23)).heap.size = w.heap.size + 1 by simp] at Bn
  have A2 := A1.below hn1
  have hw2 := below_tr hw1 hn1
  clear A1
  have B2 := Bn
  clear Bn hn1
  have hn2 := Below.allocs ((w.alloc (.cells #[.int .u8 k, .int .i64 n, .int .i64 u, .string t] 23)).alloc (.cells #[.int .u8 k', .int .i64 n', .int .i64 u', .string t'] 23)) (.cells #[.int .u8 0, .int .i64 0, .int .i64 0, .string ⟨#[]⟩] 23)
  have Rn := Boxed.new ((w.alloc (.cells #[.int .u8 k, .int .i64 n, .int .i64 u, .string t] 23)).alloc (.cells #[.int .u8 k', .int .i64 n', .int .i64 u', .string t'] 23)) 0 0 0 ⟨#[]⟩ 23
  have SRn := Soft.new ((w.alloc (.cells #[.int .u8 k, .int .i64 n, .int .i64 u, .string t] 23)).alloc (.cells #[.int .u8 k', .int .i64 n', .int .i64 u', .string t'] 23)) 0 0 0 ⟨#[]⟩ 23
  rw [show ((w.alloc (.cells #[.int .u8 k, .int .i64 n, .int .i64 u, .string t] 23)).alloc (.cells #[.int .u8 k', .int .i64 n', .int .i64 u', .string t'] 23)).heap.size = w.heap.size + 1 + 1 by simp] at Rn SRn
  have A3 := A2.below hn2
  have B3 := B2.below hn2
  have hw3 := below_tr hw2 hn2
  clear A2 B2
  have R3 := Rn
  clear Rn hn2
  have SR3 := SRn
  clear SRn
  refine (mul_is k n u t k' n' u' t' r HR.out HN.out HM.out _).mono ?_
  rintro e v1 ⟨rfl, hv1⟩
  have A4 := A3.below hv1
  have B4 := B3.below hv1
  have R4 := R3.below hv1
  have SR4 := SR3.below hv1
  have hw4 := below_tr hw3 hv1
  clear A3 B3 R3 SR3
  clear hv1
  have r' := R4
  obtain ⟨r0, r1, r2, r3, r4⟩ := r'
  have sr' := SR4
  obtain ⟨s0, s1, s2, s3, s4⟩ := sr'
  have hwp := below_put4 hw4 (by omega : w.heap.size ≤ w.heap.size + 1 + 1) r.k r.n 0 ⟨#[]⟩
  have hn := Below.allocs (put4 v1 (w.heap.size + 1 + 1) r.k r.n 0 ⟨#[]⟩) (.cells #[.int .u8 r.k, .int .i64 r.n, .int .i64 0, .string ⟨#[]⟩] 23)
  have hwz := below_tr hwp hn
  obtain ⟨q0, q1, q2, q3, q4⟩ := (boxed_put4 R4 r.k r.n 0 ⟨#[]⟩).below hn
  go_wp2_with fail
  exact bodyPost_ret (w := (put4 v1 (w.heap.size + 1 + 1) r.k r.n 0 ⟨#[]⟩).alloc (.cells #[.int .u8 r.k, .int .i64 r.n, .int .i64 0, .string ⟨#[]⟩] 23)) (v := .tuple #[.agg #[.int .u8 r.k, .int .i64 r.n, .int .i64 0, .string ⟨#[]⟩], .bool b]) (by simp [results, Try.results39, go_sem, q0, q1, q2, q3]) rfl ⟨rfl, hwz⟩

end Go.Proofs.Ytmbjhahlbbhdaaa
