/-
  The law LogicOrder as a walk over this translation: it answers true, and of what was there nothing has turned.
-/
import Derived.Test.YtmbjhahlbbhdaaaQSlice
namespace Go.Proofs.Ytmbjhahlbbhdaaa
open Go.RowKit

set_option maxRecDepth 100000 in
set_option maxHeartbeats 4000000 in
theorem order_big1 (k n u : Int) (t : ByteArray) (k' n' u' : Int) (t' : ByteArray) (k'' n'' u'' : Int) (t'' : ByteArray) (h1 : 2000 < t.size) (w : World) :
    Calls Try.prog 7 #[.agg #[.int .u8 k, .int .i64 n, .int .i64 u, .string t], .agg #[.int .u8 k', .int .i64 n', .int .i64 u', .string t'], .agg #[.int .u8 k'', .int .i64 n'', .int .i64 u'', .string t'']] w fun e w' => e = .returned (.bool true) ∧ Below w.heap.size w w' := by
  have d1 : decide (2000 < (t.size : Int)) = true := by simp; omega
  have hw0 := Below.refl w.heap.size w
  go_enter Try.func7, Try.ntmps7
  go_wp2_with fail
  have hn0 := Below.allocs w (.cells #[.int .u8 k, .int .i64 n, .int .i64 u, .string t] 23)
  have An := Boxed.new w k n u t 23
  have hw1 := below_tr hw0 hn0
  have A1 := An
  clear An hn0
  have hn1 := Below.allocs (w.alloc (.cells #[.int .u8 k, .int .i64 n, .int .i64 u, .string t] 23)) (.cells #[.int .u8 k', .int .i64 n', .int .i64 u', .string t'] 23)
  have Bn := Boxed.new (w.alloc (.cells #[.int .u8 k, .int .i64 n, .int .i64 u, .string t] 23)) k' n' u' t' 23
  rw [show (w.alloc (.cells #[.int .u8 k, .int .i64 n, .int .i64 u, .string t] 23)).heap.size = w.heap.size + 1 by simp] at Bn
  have A2 := A1.below hn1
  have hw2 := below_tr hw1 hn1
  clear A1
  have B2 := Bn
  clear Bn hn1
  have hn2 := Below.allocs ((w.alloc (.cells #[.int .u8 k, .int .i64 n, .int .i64 u, .string t] 23)).alloc (.cells #[.int .u8 k', .int .i64 n', .int .i64 u', .string t'] 23)) (.cells #[.int .u8 k'', .int .i64 n'', .int .i64 u'', .string t''] 23)
  have Cn := Boxed.new ((w.alloc (.cells #[.int .u8 k, .int .i64 n, .int .i64 u, .string t] 23)).alloc (.cells #[.int .u8 k', .int .i64 n', .int .i64 u', .string t'] 23)) k'' n'' u'' t'' 23
  rw [show ((w.alloc (.cells #[.int .u8 k, .int .i64 n, .int .i64 u, .string t] 23)).alloc (.cells #[.int .u8 k', .int .i64 n', .int .i64 u', .string t'] 23)).heap.size = w.heap.size + 1 + 1 by simp] at Cn
  have A3 := A2.below hn2
  have B3 := B2.below hn2
  have hw3 := below_tr hw2 hn2
  clear A2 B2
  have C3 := Cn
  clear Cn hn2
  refine (awake_is _).mono ?_
  rintro e v1 ⟨rfl, hv1⟩
  have A4 := A3.below hv1
  have B4 := B3.below hv1
  have C4 := C3.below hv1
  have hw4 := below_tr hw3 hv1
  clear A3 B3 C3
  clear hv1
  go_wp2_with fail
  go_ret
  exact ⟨rfl, hw4⟩

set_option maxRecDepth 100000 in
set_option maxHeartbeats 4000000 in
theorem order_big2 (k n u : Int) (t : ByteArray) (k' n' u' : Int) (t' : ByteArray) (k'' n'' u'' : Int) (t'' : ByteArray) (h1 : t.size ≤ 2000) (h2 : 2000 < t'.size) (w : World) :
    Calls Try.prog 7 #[.agg #[.int .u8 k, .int .i64 n, .int .i64 u, .string t], .agg #[.int .u8 k', .int .i64 n', .int .i64 u', .string t'], .agg #[.int .u8 k'', .int .i64 n'', .int .i64 u'', .string t'']] w fun e w' => e = .returned (.bool true) ∧ Below w.heap.size w w' := by
  have d1 : decide (2000 < (t.size : Int)) = false := by simp; omega
  have d2 : decide (2000 < (t'.size : Int)) = true := by simp; omega
  have hw0 := Below.refl w.heap.size w
  go_enter Try.func7, Try.ntmps7
  go_wp2_with fail
  have hn0 := Below.allocs w (.cells #[.int .u8 k, .int .i64 n, .int .i64 u, .string t] 23)
  have An := Boxed.new w k n u t 23
  have hw1 := below_tr hw0 hn0
  have A1 := An
  clear An hn0
  have hn1 := Below.allocs (w.alloc (.cells #[.int .u8 k, .int .i64 n, .int .i64 u, .string t] 23)) (.cells #[.int .u8 k', .int .i64 n', .int .i64 u', .string t'] 23)
  have Bn := Boxed.new (w.alloc (.cells #[.int .u8 k, .int .i64 n, .int .i64 u, .string t] 23)) k' n' u' t' 23
  rw [show (w.alloc (.cells #[.int .u8 k, .int .i64 n, .int .i64 u, .string t] 23)).heap.size = w.heap.size + 1 by simp] at Bn
  have A2 := A1.below hn1
  have hw2 := below_tr hw1 hn1
  clear A1
  have B2 := Bn
  clear Bn hn1
  have hn2 := Below.allocs ((w.alloc (.cells #[.int .u8 k, .int .i64 n, .int .i64 u, .string t] 23)).alloc (.cells #[.int .u8 k', .int .i64 n', .int .i64 u', .string t'] 23)) (.cells #[.int .u8 k'', .int .i64 n'', .int .i64 u'', .string t''] 23)
  have Cn := Boxed.new ((w.alloc (.cells #[.int .u8 k, .int .i64 n, .int .i64 u, .string t] 23)).alloc (.cells #[.int .u8 k', .int .i64 n', .int .i64 u', .string t'] 23)) k'' n'' u'' t'' 23
  rw [show ((w.alloc (.cells #[.int .u8 k, .int .i64 n, .int .i64 u, .string t] 23)).alloc (.cells #[.int .u8 k', .int .i64 n', .int .i64 u', .string t'] 23)).heap.size = w.heap.size + 1 + 1 by simp] at Cn
  have A3 := A2.below hn2
  have B3 := B2.below hn2
  have hw3 := below_tr hw2 hn2
  clear A2 B2
  have C3 := Cn
  clear Cn hn2
  refine (awake_is _).mono ?_
  rintro e v1 ⟨rfl, hv1⟩
  have A4 := A3.below hv1
  have B4 := B3.below hv1
  have C4 := C3.below hv1
  have hw4 := below_tr hw3 hv1
  clear A3 B3 C3
  clear hv1
  go_wp2_with fail
  go_ret
  exact ⟨rfl, hw4⟩

set_option maxRecDepth 100000 in
set_option maxHeartbeats 4000000 in
theorem order_big3 (k n u : Int) (t : ByteArray) (k' n' u' : Int) (t' : ByteArray) (k'' n'' u'' : Int) (t'' : ByteArray) (h1 : t.size ≤ 2000) (h2 : t'.size ≤ 2000) (h3 : 2000 < t''.size) (w : World) :
    Calls Try.prog 7 #[.agg #[.int .u8 k, .int .i64 n, .int .i64 u, .string t], .agg #[.int .u8 k', .int .i64 n', .int .i64 u', .string t'], .agg #[.int .u8 k'', .int .i64 n'', .int .i64 u'', .string t'']] w fun e w' => e = .returned (.bool true) ∧ Below w.heap.size w w' := by
  have d1 : decide (2000 < (t.size : Int)) = false := by simp; omega
  have d2 : decide (2000 < (t'.size : Int)) = false := by simp; omega
  have d3 : decide (2000 < (t''.size : Int)) = true := by simp; omega
  have hw0 := Below.refl w.heap.size w
  go_enter Try.func7, Try.ntmps7
  go_wp2_with fail
  have hn0 := Below.allocs w (.cells #[.int .u8 k, .int .i64 n, .int .i64 u, .string t] 23)
  have An := Boxed.new w k n u t 23
  have hw1 := below_tr hw0 hn0
  have A1 := An
  clear An hn0
  have hn1 := Below.allocs (w.alloc (.cells #[.int .u8 k, .int .i64 n, .int .i64 u, .string t] 23)) (.cells #[.int .u8 k', .int .i64 n', .int .i64 u', .string t'] 23)
  have Bn := Boxed.new (w.alloc (.cells #[.int .u8 k, .int .i64 n, .int .i64 u, .string t] 23)) k' n' u' t' 23
  rw [show (w.alloc (.cells #[.int .u8 k, .int .i64 n, .int .i64 u, .string t] 23)).heap.size = w.heap.size + 1 by simp] at Bn
  have A2 := A1.below hn1
  have hw2 := below_tr hw1 hn1
  clear A1
  have B2 := Bn
  clear Bn hn1
  have hn2 := Below.allocs ((w.alloc (.cells #[.int .u8 k, .int .i64 n, .int .i64 u, .string t] 23)).alloc (.cells #[.int .u8 k', .int .i64 n', .int .i64 u', .string t'] 23)) (.cells #[.int .u8 k'', .int .i64 n'', .int .i64 u'', .string t''] 23)
  have Cn := Boxed.new ((w.alloc (.cells #[.int .u8 k, .int .i64 n, .int .i64 u, .string t] 23)).alloc (.cells #[.int .u8 k', .int .i64 n', .int .i64 u', .string t'] 23)) k'' n'' u'' t'' 23
  rw [show ((w.alloc (.cells #[.int .u8 k, .int .i64 n, .int .i64 u, .string t] 23)).alloc (.cells #[.int .u8 k', .int .i64 n', .int .i64 u', .string t'] 23)).heap.size = w.heap.size + 1 + 1 by simp] at Cn
  have A3 := A2.below hn2
  have B3 := B2.below hn2
  have hw3 := below_tr hw2 hn2
  clear A2 B2
  have C3 := Cn
  clear Cn hn2
  refine (awake_is _).mono ?_
  rintro e v1 ⟨rfl, hv1⟩
  have A4 := A3.below hv1
  have B4 := B3.below hv1
  have C4 := C3.below hv1
  have hw4 := below_tr hw3 hv1
  clear A3 B3 C3
  clear hv1
  go_wp2_with fail
  go_ret
  exact ⟨rfl, hw4⟩

set_option maxRecDepth 100000 in
set_option maxHeartbeats 4000000 in
theorem order_null1 (k n u : Int) (t : ByteArray) (k' n' u' : Int) (t' : ByteArray) (k'' n'' u'' : Int) (t'' : ByteArray) (h1 : t.size ≤ 2000) (h2 : t'.size ≤ 2000) (h3 : t''.size ≤ 2000) (hx : lessR k n u t k' n' u' t' = ⟨0, 0, 0⟩) (hy : lessR k' n' u' t' k n u t = ⟨0, 0, 0⟩) (hz : equalR k n u t k' n' u' t' = ⟨0, 0, 0⟩) (hk : (k == 0) = true) (w : World) :
    Calls Try.prog 7 #[.agg #[.int .u8 k, .int .i64 n, .int .i64 u, .string t], .agg #[.int .u8 k', .int .i64 n', .int .i64 u', .string t'], .agg #[.int .u8 k'', .int .i64 n'', .int .i64 u'', .string t'']] w fun e w' => e = .returned (.bool true) ∧ Below w.heap.size w w' := by
  have Hhx := Lib.hid hx
  clear hx
  have Hhy := Lib.hid hy
  clear hy
  have Hhz := Lib.hid hz
  clear hz
  have d1 : decide (2000 < (t.size : Int)) = false := by simp; omega
  have d2 : decide (2000 < (t'.size : Int)) = false := by simp; omega
  have d3 : decide (2000 < (t''.size : Int)) = false := by simp; omega
  clear h1 h2 h3
  have hw0 := Below.refl w.heap.size w
  go_enter Try.func7, Try.ntmps7
  go_wp2_with fail
  have hn0 := Below.allocs w (.cells #[.int .u8 k, .int .i64 n, .int .i64 u, .string t] 23)
  have An := Boxed.new w k n u t 23
  have hw1 := below_tr hw0 hn0
  have A1 := An
  clear An hn0
  have hn1 := Below.allocs (w.alloc (.cells #[.int .u8 k, .int .i64 n, .int .i64 u, .string t] 23)) (.cells #[.int .u8 k', .int .i64 n', .int .i64 u', .string t'] 23)
  have Bn := Boxed.new (w.alloc (.cells #[.int .u8 k, .int .i64 n, .int .i64 u, .string t] 23)) k' n' u' t' 23
  rw [show (w.alloc (.cells #[.int .u8 k, .int .i64 n, .int .i64 u, .string t] 23)).heap.size = w.heap.size + 1 by simp] at Bn
  have A2 := A1.below hn1
  have hw2 := below_tr hw1 hn1
  clear A1
  have B2 := Bn
  clear Bn hn1
  have hn2 := Below.allocs ((w.alloc (.cells #[.int .u8 k, .int .i64 n, .int .i64 u, .string t] 23)).alloc (.cells #[.int .u8 k', .int .i64 n', .int .i64 u', .string t'] 23)) (.cells #[.int .u8 k'', .int .i64 n'', .int .i64 u'', .string t''] 23)
  have Cn := Boxed.new ((w.alloc (.cells #[.int .u8 k, .int .i64 n, .int .i64 u, .string t] 23)).alloc (.cells #[.int .u8 k', .int .i64 n', .int .i64 u', .string t'] 23)) k'' n'' u'' t'' 23
  rw [show ((w.alloc (.cells #[.int .u8 k, .int .i64 n, .int .i64 u, .string t] 23)).alloc (.cells #[.int .u8 k', .int .i64 n', .int .i64 u', .string t'] 23)).heap.size = w.heap.size + 1 + 1 by simp] at Cn
  have A3 := A2.below hn2
  have B3 := B2.below hn2
  have hw3 := below_tr hw2 hn2
  clear A2 B2
  have C3 := Cn
  clear Cn hn2
  refine (awake_is _).mono ?_
  rintro e v1 ⟨rfl, hv1⟩
  have A4 := A3.below hv1
  have B4 := B3.below hv1
  have C4 := C3.below hv1
  have hw4 := below_tr hw3 hv1
  clear A3 B3 C3
  clear hv1
  have a' := A4
  obtain ⟨a0, a1, a2, a3, a4⟩ := a'
  have b' := B4
  obtain ⟨b0, b1, b2, b3, b4⟩ := b'
  go_wp2_with fail
  clear a0 a1 a2 a3 a4 b0 b1 b2 b3 b4
  refine (less_is k n u t k' n' u' t' ⟨0, 0, 0⟩ Hhx.out _).mono ?_
  rintro e v2 ⟨rfl, hv2⟩
  have A5 := A4.below hv2
  have B5 := B4.below hv2
  have C5 := C4.below hv2
  have hw5 := below_tr hw4 hv2
  clear A4 B4 C4
  clear hv2
  have a' := A5
  obtain ⟨a0, a1, a2, a3, a4⟩ := a'
  have b' := B5
  obtain ⟨b0, b1, b2, b3, b4⟩ := b'
  go_wp2_with fail
  clear a0 a1 a2 a3 a4 b0 b1 b2 b3 b4
  have hn5 := Below.allocs v2 (.cells #[.int .u8 0, .int .i64 0, .int .i64 0, .string ⟨#[]⟩] 23)
  have Xn := Boxed.new v2 0 0 0 ⟨#[]⟩ 23
  have A6 := A5.below hn5
  have B6 := B5.below hn5
  have C6 := C5.below hn5
  have hw6 := below_tr hw5 hn5
  clear A5 B5 C5
  have X6 := Xn
  clear Xn hn5
  refine (less_is k' n' u' t' k n u t ⟨0, 0, 0⟩ Hhy.out _).mono ?_
  rintro e v3 ⟨rfl, hv3⟩
  have A7 := A6.below hv3
  have B7 := B6.below hv3
  have C7 := C6.below hv3
  have X7 := X6.below hv3
  have hw7 := below_tr hw6 hv3
  clear A6 B6 C6 X6
  clear hv3
  have a' := A7
  obtain ⟨a0, a1, a2, a3, a4⟩ := a'
  have b' := B7
  obtain ⟨b0, b1, b2, b3, b4⟩ := b'
  go_wp2_with fail
  clear a0 a1 a2 a3 a4 b0 b1 b2 b3 b4
  have hn7 := Below.allocs v3 (.cells #[.int .u8 0, .int .i64 0, .int .i64 0, .string ⟨#[]⟩] 23)
  have Yn := Boxed.new v3 0 0 0 ⟨#[]⟩ 23
  have A8 := A7.below hn7
  have B8 := B7.below hn7
  have C8 := C7.below hn7
  have X8 := X7.below hn7
  have hw8 := below_tr hw7 hn7
  clear A7 B7 C7 X7
  have Y8 := Yn
  clear Yn hn7
  refine (equal_is k n u t k' n' u' t' ⟨0, 0, 0⟩ Hhz.out _).mono ?_
  rintro e v4 ⟨rfl, hv4⟩
  have A9 := A8.below hv4
  have B9 := B8.below hv4
  have C9 := C8.below hv4
  have X9 := X8.below hv4
  have Y9 := Y8.below hv4
  have hw9 := below_tr hw8 hv4
  clear A8 B8 C8 X8 Y8
  clear hv4
  have a' := A9
  obtain ⟨a0, a1, a2, a3, a4⟩ := a'
  have b' := B9
  obtain ⟨b0, b1, b2, b3, b4⟩ := b'
  have x' := X9
  obtain ⟨x0, x1, x2, x3, x4⟩ := x'
  have y' := Y9
  obtain ⟨y0, y1, y2, y3, y4⟩ := y'
  go_wp2_with fail
  clear a0 a1 a2 a3 a4 b0 b1 b2 b3 b4 x0 x1 x2 x3 x4 y0 y1 y2 y3 y4
  have hn9 := Below.allocs v4 (.cells #[.int .u8 0, .int .i64 0, .int .i64 0, .string ⟨#[]⟩] 23)
  have Zn := Boxed.new v4 0 0 0 ⟨#[]⟩ 23
  have A10 := A9.below hn9
  have B10 := B9.below hn9
  have C10 := C9.below hn9
  have X10 := X9.below hn9
  have Y10 := Y9.below hn9
  have hw10 := below_tr hw9 hn9
  clear A9 B9 C9 X9 Y9
  have Z10 := Zn
  clear Zn hn9
  go_ret
  exact ⟨rfl, hw10⟩

set_option maxRecDepth 100000 in
set_option maxHeartbeats 4000000 in
theorem order_null2 (k n u : Int) (t : ByteArray) (k' n' u' : Int) (t' : ByteArray) (k'' n'' u'' : Int) (t'' : ByteArray) (h1 : t.size ≤ 2000) (h2 : t'.size ≤ 2000) (h3 : t''.size ≤ 2000) (hx : lessR k n u t k' n' u' t' = ⟨0, 0, 0⟩) (hy : lessR k' n' u' t' k n u t = ⟨0, 0, 0⟩) (hz : equalR k n u t k' n' u' t' = ⟨0, 0, 0⟩) (hk : (k == 0) = false) (hk' : (k' == 0) = true) (w : World) :
    Calls Try.prog 7 #[.agg #[.int .u8 k, .int .i64 n, .int .i64 u, .string t], .agg #[.int .u8 k', .int .i64 n', .int .i64 u', .string t'], .agg #[.int .u8 k'', .int .i64 n'', .int .i64 u'', .string t'']] w fun e w' => e = .returned (.bool true) ∧ Below w.heap.size w w' := by
  have Hhx := Lib.hid hx
  clear hx
  have Hhy := Lib.hid hy
  clear hy
  have Hhz := Lib.hid hz
  clear hz
  have d1 : decide (2000 < (t.size : Int)) = false := by simp; omega
  have d2 : decide (2000 < (t'.size : Int)) = false := by simp; omega
  have d3 : decide (2000 < (t''.size : Int)) = false := by simp; omega
  clear h1 h2 h3
  have hw0 := Below.refl w.heap.size w
  go_enter Try.func7, Try.ntmps7
  go_wp2_with fail
  have hn0 := Below.allocs w (.cells #[.int .u8 k, .int .i64 n, .int .i64 u, .string t] 23)
  have An := Boxed.new w k n u t 23
  have hw1 := below_tr hw0 hn0
  have A1 := An
  clear An hn0
  have hn1 := Below.allocs (w.alloc (.cells #[.int .u8 k, .int .i64 n, .int .i64 u, .string t] 23)) (.cells #[.int .u8 k', .int .i64 n', .int .i64 u', .string t'] 23)
  have Bn := Boxed.new (w.alloc (.cells #[.int .u8 k, .int .i64 n, .int .i64 u, .string t] 23)) k' n' u' t' 23
  rw [show (w.alloc (.cells #[.int .u8 k, .int .i64 n, .int .i64 u, .string t] 23)).heap.size = w.heap.size + 1 by simp] at Bn
  have A2 := A1.below hn1
  have hw2 := below_tr hw1 hn1
  clear A1
  have B2 := Bn
  clear Bn hn1
  have hn2 := Below.allocs ((w.alloc (.cells #[.int .u8 k, .int .i64 n, .int .i64 u, .string t] 23)).alloc (.cells #[.int .u8 k', .int .i64 n', .int .i64 u', .string t'] 23)) (.cells #[.int .u8 k'', .int .i64 n'', .int .i64 u'', .string t''] 23)
  have Cn := Boxed.new ((w.alloc (.cells #[.int .u8 k, .int .i64 n, .int .i64 u, .string t] 23)).alloc (.cells #[.int .u8 k', .int .i64 n', .int .i64 u', .string t'] 23)) k'' n'' u'' t'' 23
  rw [show ((w.alloc (.cells #[.int .u8 k, .int .i64 n, .int .i64 u, .string t] 23)).alloc (.cells #[.int .u8 k', .int .i64 n', .int .i64 u', .string t'] 23)).heap.size = w.heap.size + 1 + 1 by simp] at Cn
  have A3 := A2.below hn2
  have B3 := B2.below hn2
  have hw3 := below_tr hw2 hn2
  clear A2 B2
  have C3 := Cn
  clear Cn hn2
  refine (awake_is _).mono ?_
  rintro e v1 ⟨rfl, hv1⟩
  have A4 := A3.below hv1
  have B4 := B3.below hv1
  have C4 := C3.below hv1
  have hw4 := below_tr hw3 hv1
  clear A3 B3 C3
  clear hv1
  have a' := A4
  obtain ⟨a0, a1, a2, a3, a4⟩ := a'
  have b' := B4
  obtain ⟨b0, b1, b2, b3, b4⟩ := b'
  go_wp2_with fail
  clear a0 a1 a2 a3 a4 b0 b1 b2 b3 b4
  refine (less_is k n u t k' n' u' t' ⟨0, 0, 0⟩ Hhx.out _).mono ?_
  rintro e v2 ⟨rfl, hv2⟩
  have A5 := A4.below hv2
  have B5 := B4.below hv2
  have C5 := C4.below hv2
  have hw5 := below_tr hw4 hv2
  clear A4 B4 C4
  clear hv2
  have a' := A5
  obtain ⟨a0, a1, a2, a3, a4⟩ := a'
  have b' := B5
  obtain ⟨b0, b1, b2, b3, b4⟩ := b'
  go_wp2_with fail
  clear a0 a1 a2 a3 a4 b0 b1 b2 b3 b4
  have hn5 := Below.allocs v2 (.cells #[.int .u8 0, .int .i64 0, .int .i64 0, .string ⟨#[]⟩] 23)
  have Xn := Boxed.new v2 0 0 0 ⟨#[]⟩ 23
  have A6 := A5.below hn5
  have B6 := B5.below hn5
  have C6 := C5.below hn5
  have hw6 := below_tr hw5 hn5
  clear A5 B5 C5
  have X6 := Xn
  clear Xn hn5
  refine (less_is k' n' u' t' k n u t ⟨0, 0, 0⟩ Hhy.out _).mono ?_
  rintro e v3 ⟨rfl, hv3⟩
  have A7 := A6.below hv3
  have B7 := B6.below hv3
  have C7 := C6.below hv3
  have X7 := X6.below hv3
  have hw7 := below_tr hw6 hv3
  clear A6 B6 C6 X6
  clear hv3
  have a' := A7
  obtain ⟨a0, a1, a2, a3, a4⟩ := a'
  have b' := B7
  obtain ⟨b0, b1, b2, b3, b4⟩ := b'
  go_wp2_with fail
  clear a0 a1 a2 a3 a4 b0 b1 b2 b3 b4
  have hn7 := Below.allocs v3 (.cells #[.int .u8 0, .int .i64 0, .int .i64 0, .string ⟨#[]⟩] 23)
  have Yn := Boxed.new v3 0 0 0 ⟨#[]⟩ 23
  have A8 := A7.below hn7
  have B8 := B7.below hn7
  have C8 := C7.below hn7
  have X8 := X7.below hn7
  have hw8 := below_tr hw7 hn7
  clear A7 B7 C7 X7
  have Y8 := Yn
  clear Yn hn7
  refine (equal_is k n u t k' n' u' t' ⟨0, 0, 0⟩ Hhz.out _).mono ?_
  rintro e v4 ⟨rfl, hv4⟩
  have A9 := A8.below hv4
  have B9 := B8.below hv4
  have C9 := C8.below hv4
  have X9 := X8.below hv4
  have Y9 := Y8.below hv4
  have hw9 := below_tr hw8 hv4
  clear A8 B8 C8 X8 Y8
  clear hv4
  have a' := A9
  obtain ⟨a0, a1, a2, a3, a4⟩ := a'
  have b' := B9
  obtain ⟨b0, b1, b2, b3, b4⟩ := b'
  have x' := X9
  obtain ⟨x0, x1, x2, x3, x4⟩ := x'
  have y' := Y9
  obtain ⟨y0, y1, y2, y3, y4⟩ := y'
  go_wp2_with fail
  clear a0 a1 a2 a3 a4 b0 b1 b2 b3 b4 x0 x1 x2 x3 x4 y0 y1 y2 y3 y4
  have hn9 := Below.allocs v4 (.cells #[.int .u8 0, .int .i64 0, .int .i64 0, .string ⟨#[]⟩] 23)
  have Zn := Boxed.new v4 0 0 0 ⟨#[]⟩ 23
  have A10 := A9.below hn9
  have B10 := B9.below hn9
  have C10 := C9.below hn9
  have X10 := X9.below hn9
  have Y10 := Y9.below hn9
  have hw10 := below_tr hw9 hn9
  clear A9 B9 C9 X9 Y9
  have Z10 := Zn
  clear Zn hn9
  go_ret
  exact ⟨rfl, hw10⟩

set_option maxRecDepth 100000 in
set_option maxHeartbeats 4000000 in
theorem order_kinds (k n u : Int) (t : ByteArray) (k' n' u' : Int) (t' : ByteArray) (k'' n'' u'' : Int) (t'' : ByteArray) (h1 : t.size ≤ 2000) (h2 : t'.size ≤ 2000) (h3 : t''.size ≤ 2000) (hx : lessR k n u t k' n' u' t' = ⟨0, 0, 60⟩) (hy : lessR k' n' u' t' k n u t = ⟨0, 0, 60⟩) (hz : equalR k n u t k' n' u' t' = ⟨0, 0, 60⟩) (hk : (k == 0) = false) (hk' : (k' == 0) = false) (hn : (k != k') = true) (w : World) :
    Calls Try.prog 7 #[.agg #[.int .u8 k, .int .i64 n, .int .i64 u, .string t], .agg #[.int .u8 k', .int .i64 n', .int .i64 u', .string t'], .agg #[.int .u8 k'', .int .i64 n'', .int .i64 u'', .string t'']] w fun e w' => e = .returned (.bool true) ∧ Below w.heap.size w w' := by
  have Hhx := Lib.hid hx
  clear hx
  have Hhy := Lib.hid hy
  clear hy
  have Hhz := Lib.hid hz
  clear hz
  have d1 : decide (2000 < (t.size : Int)) = false := by simp; omega
  have d2 : decide (2000 < (t'.size : Int)) = false := by simp; omega
  have d3 : decide (2000 < (t''.size : Int)) = false := by simp; omega
  clear h1 h2 h3
  have hw0 := Below.refl w.heap.size w
  go_enter Try.func7, Try.ntmps7
  go_wp2_with fail
  have hn0 := Below.allocs w (.cells #[.int .u8 k, .int .i64 n, .int .i64 u, .string t] 23)
  have An := Boxed.new w k n u t 23
  have hw1 := below_tr hw0 hn0
  have A1 := An
  clear An hn0
  have hn1 := Below.allocs (w.alloc (.cells #[.int .u8 k, .int .i64 n, .int .i64 u, .string t] 23)) (.cells #[.int .u8 k', .int .i64 n', .int .i64 u', .string t'] 23)
  have Bn := Boxed.new (w.alloc (.cells #[.int .u8 k, .int .i64 n, .int .i64 u, .string t] 23)) k' n' u' t' 23
  rw [show (w.alloc (.cells #[.int .u8 k, .int .i64 n, .int .i64 u, .string t] 23)).heap.size = w.heap.size + 1 by simp] at Bn
  have A2 := A1.below hn1
  have hw2 := below_tr hw1 hn1
  clear A1
  have B2 := Bn
  clear Bn hn1
  have hn2 := Below.allocs ((w.alloc (.cells #[.int .u8 k, .int .i64 n, .int .i64 u, .string t] 23)).alloc (.cells #[.int .u8 k', .int .i64 n', .int .i64 u', .string t'] 23)) (.cells #[.int .u8 k'', .int .i64 n'', .int .i64 u'', .string t''] 23)
  have Cn := Boxed.new ((w.alloc (.cells #[.int .u8 k, .int .i64 n, .int .i64 u, .string t] 23)).alloc (.cells #[.int .u8 k', .int .i64 n', .int .i64 u', .string t'] 23)) k'' n'' u'' t'' 23
  rw [show ((w.alloc (.cells #[.int .u8 k, .int .i64 n, .int .i64 u, .string t] 23)).alloc (.cells #[.int .u8 k', .int .i64 n', .int .i64 u', .string t'] 23)).heap.size = w.heap.size + 1 + 1 by simp] at Cn
  have A3 := A2.below hn2
  have B3 := B2.below hn2
  have hw3 := below_tr hw2 hn2
  clear A2 B2
  have C3 := Cn
  clear Cn hn2
  refine (awake_is _).mono ?_
  rintro e v1 ⟨rfl, hv1⟩
  have A4 := A3.below hv1
  have B4 := B3.below hv1
  have C4 := C3.below hv1
  have hw4 := below_tr hw3 hv1
  clear A3 B3 C3
  clear hv1
  have a' := A4
  obtain ⟨a0, a1, a2, a3, a4⟩ := a'
  have b' := B4
  obtain ⟨b0, b1, b2, b3, b4⟩ := b'
  go_wp2_with fail
  clear a0 a1 a2 a3 a4 b0 b1 b2 b3 b4
  refine (less_is k n u t k' n' u' t' ⟨0, 0, 60⟩ Hhx.out _).mono ?_
  rintro e v2 ⟨rfl, hv2⟩
  have A5 := A4.below hv2
  have B5 := B4.below hv2
  have C5 := C4.below hv2
  have hw5 := below_tr hw4 hv2
  clear A4 B4 C4
  clear hv2
  have a' := A5
  obtain ⟨a0, a1, a2, a3, a4⟩ := a'
  have b' := B5
  obtain ⟨b0, b1, b2, b3, b4⟩ := b'
  go_wp2_with fail
  clear a0 a1 a2 a3 a4 b0 b1 b2 b3 b4
  have hn5 := Below.allocs v2 (.cells #[.int .u8 0, .int .i64 0, .int .i64 0, .string ⟨#[]⟩] 23)
  have Xn := Boxed.new v2 0 0 0 ⟨#[]⟩ 23
  have A6 := A5.below hn5
  have B6 := B5.below hn5
  have C6 := C5.below hn5
  have hw6 := below_tr hw5 hn5
  clear A5 B5 C5
  have X6 := Xn
  clear Xn hn5
  refine (less_is k' n' u' t' k n u t ⟨0, 0, 60⟩ Hhy.out _).mono ?_
  rintro e v3 ⟨rfl, hv3⟩
  have A7 := A6.below hv3
  have B7 := B6.below hv3
  have C7 := C6.below hv3
  have X7 := X6.below hv3
  have hw7 := below_tr hw6 hv3
  clear A6 B6 C6 X6
  clear hv3
  have a' := A7
  obtain ⟨a0, a1, a2, a3, a4⟩ := a'
  have b' := B7
  obtain ⟨b0, b1, b2, b3, b4⟩ := b'
  go_wp2_with fail
  clear a0 a1 a2 a3 a4 b0 b1 b2 b3 b4
  have hn7 := Below.allocs v3 (.cells #[.int .u8 0, .int .i64 0, .int .i64 0, .string ⟨#[]⟩] 23)
  have Yn := Boxed.new v3 0 0 0 ⟨#[]⟩ 23
  have A8 := A7.below hn7
  have B8 := B7.below hn7
  have C8 := C7.below hn7
  have X8 := X7.below hn7
  have hw8 := below_tr hw7 hn7
  clear A7 B7 C7 X7
  have Y8 := Yn
  clear Yn hn7
  refine (equal_is k n u t k' n' u' t' ⟨0, 0, 60⟩ Hhz.out _).mono ?_
  rintro e v4 ⟨rfl, hv4⟩
  have A9 := A8.below hv4
  have B9 := B8.below hv4
  have C9 := C8.below hv4
  have X9 := X8.below hv4
  have Y9 := Y8.below hv4
  have hw9 := below_tr hw8 hv4
  clear A8 B8 C8 X8 Y8
  clear hv4
  have a' := A9
  obtain ⟨a0, a1, a2, a3, a4⟩ := a'
  have b' := B9
  obtain ⟨b0, b1, b2, b3, b4⟩ := b'
  have x' := X9
  obtain ⟨x0, x1, x2, x3, x4⟩ := x'
  have y' := Y9
  obtain ⟨y0, y1, y2, y3, y4⟩ := y'
  go_wp2_with fail
  clear a0 a1 a2 a3 a4 b0 b1 b2 b3 b4 x0 x1 x2 x3 x4 y0 y1 y2 y3 y4
  have hn9 := Below.allocs v4 (.cells #[.int .u8 0, .int .i64 0, .int .i64 0, .string ⟨#[]⟩] 23)
  have Zn := Boxed.new v4 0 0 0 ⟨#[]⟩ 23
  have A10 := A9.below hn9
  have B10 := B9.below hn9
  have C10 := C9.below hn9
  have X10 := X9.below hn9
  have Y10 := Y9.below hn9
  have hw10 := below_tr hw9 hn9
  clear A9 B9 C9 X9 Y9
  have Z10 := Zn
  clear Zn hn9
  go_ret
  exact ⟨rfl, hw10⟩

set_option maxRecDepth 100000 in
set_option maxHeartbeats 4000000 in
theorem order_lt_T1 (k n u : Int) (t : ByteArray) (n' u' : Int) (t' : ByteArray) (k'' n'' u'' : Int) (t'' : ByteArray) (h1 : t.size ≤ 2000) (h2 : t'.size ≤ 2000) (h3 : t''.size ≤ 2000) (hx : lessR k n u t k n' u' t' = ⟨2, 1, 0⟩) (hy : lessR k n' u' t' k n u t = ⟨2, 0, 0⟩) (hz : equalR k n u t k n' u' t' = ⟨2, 0, 0⟩) (hk : (k == 0) = false) (sk sn se : Int) (hp : lessR k n' u' t' k'' n'' u'' t'' = ⟨0, 0, 60⟩) (hq : lessR k n u t k'' n'' u'' t'' = ⟨sk, sn, se⟩) (w : World) :
    Calls Try.prog 7 #[.agg #[.int .u8 k, .int .i64 n, .int .i64 u, .string t], .agg #[.int .u8 k, .int .i64 n', .int .i64 u', .string t'], .agg #[.int .u8 k'', .int .i64 n'', .int .i64 u'', .string t'']] w fun e w' => e = .returned (.bool true) ∧ Below w.heap.size w w' := by
  have Hhx := Lib.hid hx
  clear hx
  have Hhy := Lib.hid hy
  clear hy
  have Hhz := Lib.hid hz
  clear hz
  have Hhp := Lib.hid hp
  clear hp
  have Hhq := Lib.hid hq
  clear hq
  have hkk : (k != k) = false := by simp
  have d1 : decide (2000 < (t.size : Int)) = false := by simp; omega
  have d2 : decide (2000 < (t'.size : Int)) = false := by simp; omega
  have d3 : decide (2000 < (t''.size : Int)) = false := by simp; omega
  clear h1 h2 h3
  have hw0 := Below.refl w.heap.size w
  go_enter Try.func7, Try.ntmps7
  go_wp2_with fail
  have hn0 := Below.allocs w (.cells #[.int .u8 k, .int .i64 n, .int .i64 u, .string t] 23)
  have An := Boxed.new w k n u t 23
  have hw1 := below_tr hw0 hn0
  have A1 := An
  clear An hn0
  have hn1 := Below.allocs (w.alloc (.cells #[.int .u8 k, .int .i64 n, .int .i64 u, .string t] 23)) (.cells #[.int .u8 k, .int .i64 n', .int .i64 u', .string t'] 23)
  have Bn := Boxed.new (w.alloc (.cells #[.int .u8 k, .int .i64 n, .int .i64 u, .string t] 23)) k n' u' t' 23
  rw [show (w.alloc (.cells #[.int .u8 k, .int .i64 n, .int .i64 u, .string t] 23)).heap.size = w.heap.size + 1 by simp] at Bn
  have A2 := A1.below hn1
  have hw2 := below_tr hw1 hn1
  clear A1
  have B2 := Bn
  clear Bn hn1
  have hn2 := Below.allocs ((w.alloc (.cells #[.int .u8 k, .int .i64 n, .int .i64 u, .string t] 23)).alloc (.cells #[.int .u8 k, .int .i64 n', .int .i64 u', .string t'] 23)) (.cells #[.int .u8 k'', .int .i64 n'', .int .i64 u'', .string t''] 23)
  have Cn := Boxed.new ((w.alloc (.cells #[.int .u8 k, .int .i64 n, .int .i64 u, .string t] 23)).alloc (.cells #[.int .u8 k, .int .i64 n', .int .i64 u', .string t'] 23)) k'' n'' u'' t'' 23
  rw [show ((w.alloc (.cells #[.int .u8 k, .int .i64 n, .int .i64 u, .string t] 23)).alloc (.cells #[.int .u8 k, .int .i64 n', .int .i64 u', .string t'] 23)).heap.size = w.heap.size + 1 + 1 by simp] at Cn
  have A3 := A2.below hn2
  have B3 := B2.below hn2
  have hw3 := below_tr hw2 hn2
  clear A2 B2
  have C3 := Cn
  clear Cn hn2
  refine (awake_is _).mono ?_
  rintro e v1 ⟨rfl, hv1⟩
  have A4 := A3.below hv1
  have B4 := B3.below hv1
  have C4 := C3.below hv1
  have hw4 := below_tr hw3 hv1
  clear A3 B3 C3
  clear hv1
  have a' := A4
  obtain ⟨a0, a1, a2, a3, a4⟩ := a'
  have b' := B4
  obtain ⟨b0, b1, b2, b3, b4⟩ := b'
  go_wp2_with fail
  clear a0 a1 a2 a3 a4 b0 b1 b2 b3 b4
  refine (less_is k n u t k n' u' t' ⟨2, 1, 0⟩ Hhx.out _).mono ?_
  rintro e v2 ⟨rfl, hv2⟩
  have A5 := A4.below hv2
  have B5 := B4.below hv2
  have C5 := C4.below hv2
  have hw5 := below_tr hw4 hv2
  clear A4 B4 C4
  clear hv2
  have a' := A5
  obtain ⟨a0, a1, a2, a3, a4⟩ := a'
  have b' := B5
  obtain ⟨b0, b1, b2, b3, b4⟩ := b'
  go_wp2_with fail
  clear a0 a1 a2 a3 a4 b0 b1 b2 b3 b4
  have hn5 := Below.allocs v2 (.cells #[.int .u8 2, .int .i64 1, .int .i64 0, .string ⟨#[]⟩] 23)
  have Xn := Boxed.new v2 2 1 0 ⟨#[]⟩ 23
  have A6 := A5.below hn5
  have B6 := B5.below hn5
  have C6 := C5.below hn5
  have hw6 := below_tr hw5 hn5
  clear A5 B5 C5
  have X6 := Xn
  clear Xn hn5
  refine (less_is k n' u' t' k n u t ⟨2, 0, 0⟩ Hhy.out _).mono ?_
  rintro e v3 ⟨rfl, hv3⟩
  have A7 := A6.below hv3
  have B7 := B6.below hv3
  have C7 := C6.below hv3
  have X7 := X6.below hv3
  have hw7 := below_tr hw6 hv3
  clear A6 B6 C6 X6
  clear hv3
  have a' := A7
  obtain ⟨a0, a1, a2, a3, a4⟩ := a'
  have b' := B7
  obtain ⟨b0, b1, b2, b3, b4⟩ := b'
  go_wp2_with fail
  clear a0 a1 a2 a3 a4 b0 b1 b2 b3 b4
  have hn7 := Below.allocs v3 (.cells #[.int .u8 2, .int .i64 0, .int .i64 0, .string ⟨#[]⟩] 23)
  have Yn := Boxed.new v3 2 0 0 ⟨#[]⟩ 23
  have A8 := A7.below hn7
  have B8 := B7.below hn7
  have C8 := C7.below hn7
  have X8 := X7.below hn7
  have hw8 := below_tr hw7 hn7
  clear A7 B7 C7 X7
  have Y8 := Yn
  clear Yn hn7
  refine (equal_is k n u t k n' u' t' ⟨2, 0, 0⟩ Hhz.out _).mono ?_
  rintro e v4 ⟨rfl, hv4⟩
  have A9 := A8.below hv4
  have B9 := B8.below hv4
  have C9 := C8.below hv4
  have X9 := X8.below hv4
  have Y9 := Y8.below hv4
  have hw9 := below_tr hw8 hv4
  clear A8 B8 C8 X8 Y8
  clear hv4
  have a' := A9
  obtain ⟨a0, a1, a2, a3, a4⟩ := a'
  have b' := B9
  obtain ⟨b0, b1, b2, b3, b4⟩ := b'
  have x' := X9
  obtain ⟨x0, x1, x2, x3, x4⟩ := x'
  have y' := Y9
  obtain ⟨y0, y1, y2, y3, y4⟩ := y'
  go_wp2_with fail
  clear a0 a1 a2 a3 a4 b0 b1 b2 b3 b4 x0 x1 x2 x3 x4 y0 y1 y2 y3 y4
  have hn9 := Below.allocs v4 (.cells #[.int .u8 2, .int .i64 0, .int .i64 0, .string ⟨#[]⟩] 23)
  have Zn := Boxed.new v4 2 0 0 ⟨#[]⟩ 23
  have A10 := A9.below hn9
  have B10 := B9.below hn9
  have C10 := C9.below hn9
  have X10 := X9.below hn9
  have Y10 := Y9.below hn9
  have hw10 := below_tr hw9 hn9
  clear A9 B9 C9 X9 Y9
  have Z10 := Zn
  clear Zn hn9
  have hn10 := Below.allocs (v4.alloc (.cells #[.int .u8 2, .int .i64 0, .int .i64 0, .string ⟨#[]⟩] 23)) (.cells #[.int .u8 2, .int .i64 1, .int .i64 0, .string ⟨#[]⟩, .int .u8 2, .int .i64 0, .int .i64 0, .string ⟨#[]⟩, .int .u8 2, .int .i64 0, .int .i64 0, .string ⟨#[]⟩] 23)
  have ht10 := three_new (v4.alloc (.cells #[.int .u8 2, .int .i64 0, .int .i64 0, .string ⟨#[]⟩] 23)) 2 1 0 ⟨#[]⟩ 2 0 0 ⟨#[]⟩ 2 0 0 ⟨#[]⟩ 23
  rw [show (v4.alloc (.cells #[.int .u8 2, .int .i64 0, .int .i64 0, .string ⟨#[]⟩] 23)).heap.size = v4.heap.size + 1 by simp] at ht10
  obtain ⟨Pn, Qn, On⟩ := ht10
  have A11 := A10.below hn10
  have B11 := B10.below hn10
  have C11 := C10.below hn10
  have X11 := X10.below hn10
  have Y11 := Y10.below hn10
  have Z11 := Z10.below hn10
  have hw11 := below_tr hw10 hn10
  clear A10 B10 C10 X10 Y10 Z10
  have P11 := Pn
  clear Pn
  have Q11 := Qn
  clear Qn
  have O11 := On
  clear On
  clear hn10
  have p' := P11
  obtain ⟨p0, p1, p2, p3, p4⟩ := p'
  have q' := Q11
  obtain ⟨q0, q1, q2, q3, q4⟩ := q'
  have o' := O11
  obtain ⟨o0, o1, o2, o3, o4⟩ := o'
  refine wp_loop_rounds 4 ?_
  rw [rounds_succ]
  go_wp2_with fail
  clear p0 p1 p2 p3 p4 q0 q1 q2 q3 q4 o0 o1 o2 o3 o4
  have hn11 := Below.allocs ((v4.alloc (.cells #[.int .u8 2, .int .i64 0, .int .i64 0, .string ⟨#[]⟩] 23)).alloc (.cells #[.int .u8 2, .int .i64 1, .int .i64 0, .string ⟨#[]⟩, .int .u8 2, .int .i64 0, .int .i64 0, .string ⟨#[]⟩, .int .u8 2, .int .i64 0, .int .i64 0, .string ⟨#[]⟩] 23)) (.cells #[.int .u8 2, .int .i64 1, .int .i64 0, .string ⟨#[]⟩] 23)
  have L0n := Boxed.new ((v4.alloc (.cells #[.int .u8 2, .int .i64 0, .int .i64 0, .string ⟨#[]⟩] 23)).alloc (.cells #[.int .u8 2, .int .i64 1, .int .i64 0, .string ⟨#[]⟩, .int .u8 2, .int .i64 0, .int .i64 0, .string ⟨#[]⟩, .int .u8 2, .int .i64 0, .int .i64 0, .string ⟨#[]⟩] 23)) 2 1 0 ⟨#[]⟩ 23
  rw [show ((v4.alloc (.cells #[.int .u8 2, .int .i64 0, .int .i64 0, .string ⟨#[]⟩] 23)).alloc (.cells #[.int .u8 2, .int .i64 1, .int .i64 0, .string ⟨#[]⟩, .int .u8 2, .int .i64 0, .int .i64 0, .string ⟨#[]⟩, .int .u8 2, .int .i64 0, .int .i64 0, .string ⟨#[]⟩] 23)).heap.size = v4.heap.size + 1 + 1 by simp] at L0n
  have A12 := A11.below hn11
  have B12 := B11.below hn11
  have C12 := C11.below hn11
  have X12 := X11.below hn11
  have Y12 := Y11.below hn11
  have Z12 := Z11.below hn11
  have P12 := P11.below hn11
  have Q12 := Q11.below hn11
  have O12 := O11.below hn11
  have hw12 := below_tr hw11 hn11
  clear A11 B11 C11 X11 Y11 Z11 P11 Q11 O11
  have L012 := L0n
  clear L0n hn11
  refine (yes_is 2 1 0 ⟨#[]⟩ true (by decide) _).mono ?_
  rintro e v5 ⟨rfl, hv5⟩
  have A13 := A12.below hv5
  have B13 := B12.below hv5
  have C13 := C12.below hv5
  have X13 := X12.below hv5
  have Y13 := Y12.below hv5
  have Z13 := Z12.below hv5
  have P13 := P12.below hv5
  have Q13 := Q12.below hv5
  have O13 := O12.below hv5
  have L013 := L012.below hv5
  have hw13 := below_tr hw12 hv5
  clear A12 B12 C12 X12 Y12 Z12 P12 Q12 O12 L012
  clear hv5
  have p' := P13
  obtain ⟨p0, p1, p2, p3, p4⟩ := p'
  have q' := Q13
  obtain ⟨q0, q1, q2, q3, q4⟩ := q'
  have o' := O13
  obtain ⟨o0, o1, o2, o3, o4⟩ := o'
  go_wp2_with fail
  clear L013
  rw [rounds_succ]
  go_wp2_with fail
  clear p0 p1 p2 p3 p4 q0 q1 q2 q3 q4 o0 o1 o2 o3 o4
  have hn13 := Below.allocs v5 (.cells #[.int .u8 2, .int .i64 0, .int .i64 0, .string ⟨#[]⟩] 23)
  have L1n := Boxed.new v5 2 0 0 ⟨#[]⟩ 23
  have A14 := A13.below hn13
  have B14 := B13.below hn13
  have C14 := C13.below hn13
  have X14 := X13.below hn13
  have Y14 := Y13.below hn13
  have Z14 := Z13.below hn13
  have P14 := P13.below hn13
  have Q14 := Q13.below hn13
  have O14 := O13.below hn13
  have hw14 := below_tr hw13 hn13
  clear A13 B13 C13 X13 Y13 Z13 P13 Q13 O13
  have L114 := L1n
  clear L1n hn13
  refine (yes_is 2 0 0 ⟨#[]⟩ false (by decide) _).mono ?_
  rintro e v6 ⟨rfl, hv6⟩
  have A15 := A14.below hv6
  have B15 := B14.below hv6
  have C15 := C14.below hv6
  have X15 := X14.below hv6
  have Y15 := Y14.below hv6
  have Z15 := Z14.below hv6
  have P15 := P14.below hv6
  have Q15 := Q14.below hv6
  have O15 := O14.below hv6
  have L115 := L114.below hv6
  have hw15 := below_tr hw14 hv6
  clear A14 B14 C14 X14 Y14 Z14 P14 Q14 O14 L114
  clear hv6
  have p' := P15
  obtain ⟨p0, p1, p2, p3, p4⟩ := p'
  have q' := Q15
  obtain ⟨q0, q1, q2, q3, q4⟩ := q'
  have o' := O15
  obtain ⟨o0, o1, o2, o3, o4⟩ := o'
  go_wp2_with fail
  clear L115
  rw [rounds_succ]
  go_wp2_with fail
  clear p0 p1 p2 p3 p4 q0 q1 q2 q3 q4 o0 o1 o2 o3 o4
  have hn15 := Below.allocs v6 (.cells #[.int .u8 2, .int .i64 0, .int .i64 0, .string ⟨#[]⟩] 23)
  have L2n := Boxed.new v6 2 0 0 ⟨#[]⟩ 23
  have A16 := A15.below hn15
  have B16 := B15.below hn15
  have C16 := C15.below hn15
  have X16 := X15.below hn15
  have Y16 := Y15.below hn15
  have Z16 := Z15.below hn15
  have P16 := P15.below hn15
  have Q16 := Q15.below hn15
  have O16 := O15.below hn15
  have hw16 := below_tr hw15 hn15
  clear A15 B15 C15 X15 Y15 Z15 P15 Q15 O15
  have L216 := L2n
  clear L2n hn15
  refine (yes_is 2 0 0 ⟨#[]⟩ false (by decide) _).mono ?_
  rintro e v7 ⟨rfl, hv7⟩
  have A17 := A16.below hv7
  have B17 := B16.below hv7
  have C17 := C16.below hv7
  have X17 := X16.below hv7
  have Y17 := Y16.below hv7
  have Z17 := Z16.below hv7
  have P17 := P16.below hv7
  have Q17 := Q16.below hv7
  have O17 := O16.below hv7
  have L217 := L216.below hv7
  have hw17 := below_tr hw16 hv7
  clear A16 B16 C16 X16 Y16 Z16 P16 Q16 O16 L216
  clear hv7
  have p' := P17
  obtain ⟨p0, p1, p2, p3, p4⟩ := p'
  have q' := Q17
  obtain ⟨q0, q1, q2, q3, q4⟩ := q'
  have o' := O17
  obtain ⟨o0, o1, o2, o3, o4⟩ := o'
  go_wp2_with fail
  clear L217
  clear P17
  clear Q17
  clear O17
  clear p0 p1 p2 p3 p4 q0 q1 q2 q3 q4 o0 o1 o2 o3 o4
  have a' := A17
  obtain ⟨a0, a1, a2, a3, a4⟩ := a'
  have b' := B17
  obtain ⟨b0, b1, b2, b3, b4⟩ := b'
  have c' := C17
  obtain ⟨c0, c1, c2, c3, c4⟩ := c'
  have x' := X17
  obtain ⟨x0, x1, x2, x3, x4⟩ := x'
  have y' := Y17
  obtain ⟨y0, y1, y2, y3, y4⟩ := y'
  have z' := Z17
  obtain ⟨z0, z1, z2, z3, z4⟩ := z'
  rw [rounds_succ]
  go_wp2_with fail
  clear a0 a1 a2 a3 a4 b0 b1 b2 b3 b4 c0 c1 c2 c3 c4 x0 x1 x2 x3 x4 y0 y1 y2 y3 y4 z0 z1 z2 z3 z4
  refine (less_is k n' u' t' k'' n'' u'' t'' ⟨0, 0, 60⟩ Hhp.out _).mono ?_
  rintro e v8 ⟨rfl, hv8⟩
  have A18 := A17.below hv8
  have B18 := B17.below hv8
  have C18 := C17.below hv8
  have X18 := X17.below hv8
  have Y18 := Y17.below hv8
  have Z18 := Z17.below hv8
  have hw18 := below_tr hw17 hv8
  clear A17 B17 C17 X17 Y17 Z17
  clear hv8
  have a' := A18
  obtain ⟨a0, a1, a2, a3, a4⟩ := a'
  have c' := C18
  obtain ⟨c0, c1, c2, c3, c4⟩ := c'
  have x' := X18
  obtain ⟨x0, x1, x2, x3, x4⟩ := x'
  go_wp2_with fail
  clear a0 a1 a2 a3 a4 c0 c1 c2 c3 c4 x0 x1 x2 x3 x4
  have hn18 := Below.allocs v8 (.cells #[.int .u8 0, .int .i64 0, .int .i64 0, .string ⟨#[]⟩] 23)
  have Un := Boxed.new v8 0 0 0 ⟨#[]⟩ 23
  have A19 := A18.below hn18
  have B19 := B18.below hn18
  have C19 := C18.below hn18
  have X19 := X18.below hn18
  have Y19 := Y18.below hn18
  have Z19 := Z18.below hn18
  have hw19 := below_tr hw18 hn18
  clear A18 B18 C18 X18 Y18 Z18
  have U19 := Un
  clear Un hn18
  refine (less_is k n u t k'' n'' u'' t'' ⟨sk, sn, se⟩ Hhq.out _).mono ?_
  rintro e v9 ⟨rfl, hv9⟩
  have A20 := A19.below hv9
  have B20 := B19.below hv9
  have C20 := C19.below hv9
  have X20 := X19.below hv9
  have Y20 := Y19.below hv9
  have Z20 := Z19.below hv9
  have U20 := U19.below hv9
  have hw20 := below_tr hw19 hv9
  clear A19 B19 C19 X19 Y19 Z19 U19
  clear hv9
  have x' := X20
  obtain ⟨x0, x1, x2, x3, x4⟩ := x'
  have u' := U20
  obtain ⟨u0, u1, u2, u3, u4⟩ := u'
  go_wp2_with fail
  clear x0 x1 x2 x3 x4 u0 u1 u2 u3 u4
  have hn20 := Below.allocs v9 (.cells #[.int .u8 sk, .int .i64 sn, .int .i64 0, .string ⟨#[]⟩] 23)
  have Tn := Boxed.new v9 sk sn 0 ⟨#[]⟩ 23
  have A21 := A20.below hn20
  have B21 := B20.below hn20
  have C21 := C20.below hn20
  have X21 := X20.below hn20
  have Y21 := Y20.below hn20
  have Z21 := Z20.below hn20
  have U21 := U20.below hn20
  have hw21 := below_tr hw20 hn20
  clear A20 B20 C20 X20 Y20 Z20 U20
  have T21 := Tn
  clear Tn hn20
  go_ret
  exact ⟨rfl, hw21⟩

set_option maxRecDepth 100000 in
set_option maxHeartbeats 4000000 in
theorem order_gt_T1 (k n u : Int) (t : ByteArray) (n' u' : Int) (t' : ByteArray) (k'' n'' u'' : Int) (t'' : ByteArray) (h1 : t.size ≤ 2000) (h2 : t'.size ≤ 2000) (h3 : t''.size ≤ 2000) (hx : lessR k n u t k n' u' t' = ⟨2, 0, 0⟩) (hy : lessR k n' u' t' k n u t = ⟨2, 1, 0⟩) (hz : equalR k n u t k n' u' t' = ⟨2, 0, 0⟩) (hk : (k == 0) = false) (sk sn se : Int) (hp : lessR k n' u' t' k'' n'' u'' t'' = ⟨0, 0, 60⟩) (hq : lessR k n u t k'' n'' u'' t'' = ⟨sk, sn, se⟩) (w : World) :
    Calls Try.prog 7 #[.agg #[.int .u8 k, .int .i64 n, .int .i64 u, .string t], .agg #[.int .u8 k, .int .i64 n', .int .i64 u', .string t'], .agg #[.int .u8 k'', .int .i64 n'', .int .i64 u'', .string t'']] w fun e w' => e = .returned (.bool true) ∧ Below w.heap.size w w' := by
  have Hhx := Lib.hid hx
  clear hx
  have Hhy := Lib.hid hy
  clear hy
  have Hhz := Lib.hid hz
  clear hz
  have Hhp := Lib.hid hp
  clear hp
  have Hhq := Lib.hid hq
  clear hq
  have hkk : (k != k) = false := by simp
  have d1 : decide (2000 < (t.size : Int)) = false := by simp; omega
  have d2 : decide (2000 < (t'.size : Int)) = false := by simp; omega
  have d3 : decide (2000 < (t''.size : Int)) = false := by simp; omega
  clear h1 h2 h3
  have hw0 := Below.refl w.heap.size w
  go_enter Try.func7, Try.ntmps7
  go_wp2_with fail
  have hn0 := Below.allocs w (.cells #[.int .u8 k, .int .i64 n, .int .i64 u, .string t] 23)
  have An := Boxed.new w k n u t 23
  have hw1 := below_tr hw0 hn0
  have A1 := An
  clear An hn0
  have hn1 := Below.allocs (w.alloc (.cells #[.int .u8 k, .int .i64 n, .int .i64 u, .string t] 23)) (.cells #[.int .u8 k, .int .i64 n', .int .i64 u', .string t'] 23)
  have Bn := Boxed.new (w.alloc (.cells #[.int .u8 k, .int .i64 n, .int .i64 u, .string t] 23)) k n' u' t' 23
  rw [show (w.alloc (.cells #[.int .u8 k, .int .i64 n, .int .i64 u, .string t] 23)).heap.size = w.heap.size + 1 by simp] at Bn
  have A2 := A1.below hn1
  have hw2 := below_tr hw1 hn1
  clear A1
  have B2 := Bn
  clear Bn hn1
  have hn2 := Below.allocs ((w.alloc (.cells #[.int .u8 k, .int .i64 n, .int .i64 u, .string t] 23)).alloc (.cells #[.int .u8 k, .int .i64 n', .int .i64 u', .string t'] 23)) (.cells #[.int .u8 k'', .int .i64 n'', .int .i64 u'', .string t''] 23)
  have Cn := Boxed.new ((w.alloc (.cells #[.int .u8 k, .int .i64 n, .int .i64 u, .string t] 23)).alloc (.cells #[.int .u8 k, .int .i64 n', .int .i64 u', .string t'] 23)) k'' n'' u'' t'' 23
  rw [show ((w.alloc (.cells #[.int .u8 k, .int .i64 n, .int .i64 u, .string t] 23)).alloc (.cells #[.int .u8 k, .int .i64 n', .int .i64 u', .string t'] 23)).heap.size = w.heap.size + 1 + 1 by simp] at Cn
  have A3 := A2.below hn2
  have B3 := B2.below hn2
  have hw3 := below_tr hw2 hn2
  clear A2 B2
  have C3 := Cn
  clear Cn hn2
  refine (awake_is _).mono ?_
  rintro e v1 ⟨rfl, hv1⟩
  have A4 := A3.below hv1
  have B4 := B3.below hv1
  have C4 := C3.below hv1
  have hw4 := below_tr hw3 hv1
  clear A3 B3 C3
  clear hv1
  have a' := A4
  obtain ⟨a0, a1, a2, a3, a4⟩ := a'
  have b' := B4
  obtain ⟨b0, b1, b2, b3, b4⟩ := b'
  go_wp2_with fail
  clear a0 a1 a2 a3 a4 b0 b1 b2 b3 b4
  refine (less_is k n u t k n' u' t' ⟨2, 0, 0⟩ Hhx.out _).mono ?_
  rintro e v2 ⟨rfl, hv2⟩
  have A5 := A4.below hv2
  have B5 := B4.below hv2
  have C5 := C4.below hv2
  have hw5 := below_tr hw4 hv2
  clear A4 B4 C4
  clear hv2
  have a' := A5
  obtain ⟨a0, a1, a2, a3, a4⟩ := a'
  have b' := B5
  obtain ⟨b0, b1, b2, b3, b4⟩ := b'
  go_wp2_with fail
  clear a0 a1 a2 a3 a4 b0 b1 b2 b3 b4
  have hn5 := Below.allocs v2 (.cells #[.int .u8 2, .int .i64 0, .int .i64 0, .string ⟨#[]⟩] 23)
  have Xn := Boxed.new v2 2 0 0 ⟨#[]⟩ 23
  have A6 := A5.below hn5
  have B6 := B5.below hn5
  have C6 := C5.below hn5
  have hw6 := below_tr hw5 hn5
  clear A5 B5 C5
  have X6 := Xn
  clear Xn hn5
  refine (less_is k n' u' t' k n u t ⟨2, 1, 0⟩ Hhy.out _).mono ?_
  rintro e v3 ⟨rfl, hv3⟩
  have A7 := A6.below hv3
  have B7 := B6.below hv3
  have C7 := C6.below hv3
  have X7 := X6.below hv3
  have hw7 := below_tr hw6 hv3
  clear A6 B6 C6 X6
  clear hv3
  have a' := A7
  obtain ⟨a0, a1, a2, a3, a4⟩ := a'
  have b' := B7
  obtain ⟨b0, b1, b2, b3, b4⟩ := b'
  go_wp2_with fail
  clear a0 a1 a2 a3 a4 b0 b1 b2 b3 b4
  have hn7 := Below.allocs v3 (.cells #[.int .u8 2, .int .i64 1, .int .i64 0, .string ⟨#[]⟩] 23)
  have Yn := Boxed.new v3 2 1 0 ⟨#[]⟩ 23
  have A8 := A7.below hn7
  have B8 := B7.below hn7
  have C8 := C7.below hn7
  have X8 := X7.below hn7
  have hw8 := below_tr hw7 hn7
  clear A7 B7 C7 X7
  have Y8 := Yn
  clear Yn hn7
  refine (equal_is k n u t k n' u' t' ⟨2, 0, 0⟩ Hhz.out _).mono ?_
  rintro e v4 ⟨rfl, hv4⟩
  have A9 := A8.below hv4
  have B9 := B8.below hv4
  have C9 := C8.below hv4
  have X9 := X8.below hv4
  have Y9 := Y8.below hv4
  have hw9 := below_tr hw8 hv4
  clear A8 B8 C8 X8 Y8
  clear hv4
  have a' := A9
  obtain ⟨a0, a1, a2, a3, a4⟩ := a'
  have b' := B9
  obtain ⟨b0, b1, b2, b3, b4⟩ := b'
  have x' := X9
  obtain ⟨x0, x1, x2, x3, x4⟩ := x'
  have y' := Y9
  obtain ⟨y0, y1, y2, y3, y4⟩ := y'
  go_wp2_with fail
  clear a0 a1 a2 a3 a4 b0 b1 b2 b3 b4 x0 x1 x2 x3 x4 y0 y1 y2 y3 y4
  have hn9 := Below.allocs v4 (.cells #[.int .u8 2, .int .i64 0, .int .i64 0, .string ⟨#[]⟩] 23)
  have Zn := Boxed.new v4 2 0 0 ⟨#[]⟩ 23
  have A10 := A9.below hn9
  have B10 := B9.below hn9
  have C10 := C9.below hn9
  have X10 := X9.below hn9
  have Y10 := Y9.below hn9
  have hw10 := below_tr hw9 hn9
  clear A9 B9 C9 X9 Y9
  have Z10 := Zn
  clear Zn hn9
  have hn10 := Below.allocs (v4.alloc (.cells #[.int .u8 2, .int .i64 0, .int .i64 0, .string ⟨#[]⟩] 23)) (.cells #[.int .u8 2, .int .i64 0, .int .i64 0, .string ⟨#[]⟩, .int .u8 2, .int .i64 1, .int .i64 0, .string ⟨#[]⟩, .int .u8 2, .int .i64 0, .int .i64 0, .string ⟨#[]⟩] 23)
  have ht10 := three_new (v4.alloc (.cells #[.int .u8 2, .int .i64 0, .int .i64 0, .string ⟨#[]⟩] 23)) 2 0 0 ⟨#[]⟩ 2 1 0 ⟨#[]⟩ 2 0 0 ⟨#[]⟩ 23
  rw [show (v4.alloc (.cells #[.int .u8 2, .int .i64 0, .int .i64 0, .string ⟨#[]⟩] 23)).heap.size = v4.heap.size + 1 by simp] at ht10
  obtain ⟨Pn, Qn, On⟩ := ht10
  have A11 := A10.below hn10
  have B11 := B10.below hn10
  have C11 := C10.below hn10
  have X11 := X10.below hn10
  have Y11 := Y10.below hn10
  have Z11 := Z10.below hn10
  have hw11 := below_tr hw10 hn10
  clear A10 B10 C10 X10 Y10 Z10
  have P11 := Pn
  clear Pn
  have Q11 := Qn
  clear Qn
  have O11 := On
  clear On
  clear hn10
  have p' := P11
  obtain ⟨p0, p1, p2, p3, p4⟩ := p'
  have q' := Q11
  obtain ⟨q0, q1, q2, q3, q4⟩ := q'
  have o' := O11
  obtain ⟨o0, o1, o2, o3, o4⟩ := o'
  refine wp_loop_rounds 4 ?_
  rw [rounds_succ]
  go_wp2_with fail
  clear p0 p1 p2 p3 p4 q0 q1 q2 q3 q4 o0 o1 o2 o3 o4
  have hn11 := Below.allocs ((v4.alloc (.cells #[.int .u8 2, .int .i64 0, .int .i64 0, .string ⟨#[]⟩] 23)).alloc (.cells #[.int .u8 2, .int .i64 0, .int .i64 0, .string ⟨#[]⟩, .int .u8 2, .int .i64 1, .int .i64 0, .string ⟨#[]⟩, .int .u8 2, .int .i64 0, .int .i64 0, .string ⟨#[]⟩] 23)) (.cells #[.int .u8 2, .int .i64 0, .int .i64 0, .string ⟨#[]⟩] 23)
  have L0n := Boxed.new ((v4.alloc (.cells #[.int .u8 2, .int .i64 0, .int .i64 0, .string ⟨#[]⟩] 23)).alloc (.cells #[.int .u8 2, .int .i64 0, .int .i64 0, .string ⟨#[]⟩, .int .u8 2, .int .i64 1, .int .i64 0, .string ⟨#[]⟩, .int .u8 2, .int .i64 0, .int .i64 0, .string ⟨#[]⟩] 23)) 2 0 0 ⟨#[]⟩ 23
  rw [show ((v4.alloc (.cells #[.int .u8 2, .int .i64 0, .int .i64 0, .string ⟨#[]⟩] 23)).alloc (.cells #[.int .u8 2, .int .i64 0, .int .i64 0, .string ⟨#[]⟩, .int .u8 2, .int .i64 1, .int .i64 0, .string ⟨#[]⟩, .int .u8 2, .int .i64 0, .int .i64 0, .string ⟨#[]⟩] 23)).heap.size = v4.heap.size + 1 + 1 by simp] at L0n
  have A12 := A11.below hn11
  have B12 := B11.below hn11
  have C12 := C11.below hn11
  have X12 := X11.below hn11
  have Y12 := Y11.below hn11
  have Z12 := Z11.below hn11
  have P12 := P11.below hn11
  have Q12 := Q11.below hn11
  have O12 := O11.below hn11
  have hw12 := below_tr hw11 hn11
  clear A11 B11 C11 X11 Y11 Z11 P11 Q11 O11
  have L012 := L0n
  clear L0n hn11
  refine (yes_is 2 0 0 ⟨#[]⟩ false (by decide) _).mono ?_
  rintro e v5 ⟨rfl, hv5⟩
  have A13 := A12.below hv5
  have B13 := B12.below hv5
  have C13 := C12.below hv5
  have X13 := X12.below hv5
  have Y13 := Y12.below hv5
  have Z13 := Z12.below hv5
  have P13 := P12.below hv5
  have Q13 := Q12.below hv5
  have O13 := O12.below hv5
  have L013 := L012.below hv5
  have hw13 := below_tr hw12 hv5
  clear A12 B12 C12 X12 Y12 Z12 P12 Q12 O12 L012
  clear hv5
  have p' := P13
  obtain ⟨p0, p1, p2, p3, p4⟩ := p'
  have q' := Q13
  obtain ⟨q0, q1, q2, q3, q4⟩ := q'
  have o' := O13
  obtain ⟨o0, o1, o2, o3, o4⟩ := o'
  go_wp2_with fail
  clear L013
  rw [rounds_succ]
  go_wp2_with fail
  clear p0 p1 p2 p3 p4 q0 q1 q2 q3 q4 o0 o1 o2 o3 o4
  have hn13 := Below.allocs v5 (.cells #[.int .u8 2, .int .i64 1, .int .i64 0, .string ⟨#[]⟩] 23)
  have L1n := Boxed.new v5 2 1 0 ⟨#[]⟩ 23
  have A14 := A13.below hn13
  have B14 := B13.below hn13
  have C14 := C13.below hn13
  have X14 := X13.below hn13
  have Y14 := Y13.below hn13
  have Z14 := Z13.below hn13
  have P14 := P13.below hn13
  have Q14 := Q13.below hn13
  have O14 := O13.below hn13
  have hw14 := below_tr hw13 hn13
  clear A13 B13 C13 X13 Y13 Z13 P13 Q13 O13
  have L114 := L1n
  clear L1n hn13
  refine (yes_is 2 1 0 ⟨#[]⟩ true (by decide) _).mono ?_
  rintro e v6 ⟨rfl, hv6⟩
  have A15 := A14.below hv6
  have B15 := B14.below hv6
  have C15 := C14.below hv6
  have X15 := X14.below hv6
  have Y15 := Y14.below hv6
  have Z15 := Z14.below hv6
  have P15 := P14.below hv6
  have Q15 := Q14.below hv6
  have O15 := O14.below hv6
  have L115 := L114.below hv6
  have hw15 := below_tr hw14 hv6
  clear A14 B14 C14 X14 Y14 Z14 P14 Q14 O14 L114
  clear hv6
  have p' := P15
  obtain ⟨p0, p1, p2, p3, p4⟩ := p'
  have q' := Q15
  obtain ⟨q0, q1, q2, q3, q4⟩ := q'
  have o' := O15
  obtain ⟨o0, o1, o2, o3, o4⟩ := o'
  go_wp2_with fail
  clear L115
  rw [rounds_succ]
  go_wp2_with fail
  clear p0 p1 p2 p3 p4 q0 q1 q2 q3 q4 o0 o1 o2 o3 o4
  have hn15 := Below.allocs v6 (.cells #[.int .u8 2, .int .i64 0, .int .i64 0, .string ⟨#[]⟩] 23)
  have L2n := Boxed.new v6 2 0 0 ⟨#[]⟩ 23
  have A16 := A15.below hn15
  have B16 := B15.below hn15
  have C16 := C15.below hn15
  have X16 := X15.below hn15
  have Y16 := Y15.below hn15
  have Z16 := Z15.below hn15
  have P16 := P15.below hn15
  have Q16 := Q15.below hn15
  have O16 := O15.below hn15
  have hw16 := below_tr hw15 hn15
  clear A15 B15 C15 X15 Y15 Z15 P15 Q15 O15
  have L216 := L2n
  clear L2n hn15
  refine (yes_is 2 0 0 ⟨#[]⟩ false (by decide) _).mono ?_
  rintro e v7 ⟨rfl, hv7⟩
  have A17 := A16.below hv7
  have B17 := B16.below hv7
  have C17 := C16.below hv7
  have X17 := X16.below hv7
  have Y17 := Y16.below hv7
  have Z17 := Z16.below hv7
  have P17 := P16.below hv7
  have Q17 := Q16.below hv7
  have O17 := O16.below hv7
  have L217 := L216.below hv7
  have hw17 := below_tr hw16 hv7
  clear A16 B16 C16 X16 Y16 Z16 P16 Q16 O16 L216
  clear hv7
  have p' := P17
  obtain ⟨p0, p1, p2, p3, p4⟩ := p'
  have q' := Q17
  obtain ⟨q0, q1, q2, q3, q4⟩ := q'
  have o' := O17
  obtain ⟨o0, o1, o2, o3, o4⟩ := o'
  go_wp2_with fail
  clear L217
  clear P17
  clear Q17
  clear O17
  clear p0 p1 p2 p3 p4 q0 q1 q2 q3 q4 o0 o1 o2 o3 o4
  have a' := A17
  obtain ⟨a0, a1, a2, a3, a4⟩ := a'
  have b' := B17
  obtain ⟨b0, b1, b2, b3, b4⟩ := b'
  have c' := C17
  obtain ⟨c0, c1, c2, c3, c4⟩ := c'
  have x' := X17
  obtain ⟨x0, x1, x2, x3, x4⟩ := x'
  have y' := Y17
  obtain ⟨y0, y1, y2, y3, y4⟩ := y'
  have z' := Z17
  obtain ⟨z0, z1, z2, z3, z4⟩ := z'
  rw [rounds_succ]
  go_wp2_with fail
  clear a0 a1 a2 a3 a4 b0 b1 b2 b3 b4 c0 c1 c2 c3 c4 x0 x1 x2 x3 x4 y0 y1 y2 y3 y4 z0 z1 z2 z3 z4
  refine (less_is k n' u' t' k'' n'' u'' t'' ⟨0, 0, 60⟩ Hhp.out _).mono ?_
  rintro e v8 ⟨rfl, hv8⟩
  have A18 := A17.below hv8
  have B18 := B17.below hv8
  have C18 := C17.below hv8
  have X18 := X17.below hv8
  have Y18 := Y17.below hv8
  have Z18 := Z17.below hv8
  have hw18 := below_tr hw17 hv8
  clear A17 B17 C17 X17 Y17 Z17
  clear hv8
  have a' := A18
  obtain ⟨a0, a1, a2, a3, a4⟩ := a'
  have c' := C18
  obtain ⟨c0, c1, c2, c3, c4⟩ := c'
  have x' := X18
  obtain ⟨x0, x1, x2, x3, x4⟩ := x'
  go_wp2_with fail
  clear a0 a1 a2 a3 a4 c0 c1 c2 c3 c4 x0 x1 x2 x3 x4
  have hn18 := Below.allocs v8 (.cells #[.int .u8 0, .int .i64 0, .int .i64 0, .string ⟨#[]⟩] 23)
  have Un := Boxed.new v8 0 0 0 ⟨#[]⟩ 23
  have A19 := A18.below hn18
  have B19 := B18.below hn18
  have C19 := C18.below hn18
  have X19 := X18.below hn18
  have Y19 := Y18.below hn18
  have Z19 := Z18.below hn18
  have hw19 := below_tr hw18 hn18
  clear A18 B18 C18 X18 Y18 Z18
  have U19 := Un
  clear Un hn18
  refine (less_is k n u t k'' n'' u'' t'' ⟨sk, sn, se⟩ Hhq.out _).mono ?_
  rintro e v9 ⟨rfl, hv9⟩
  have A20 := A19.below hv9
  have B20 := B19.below hv9
  have C20 := C19.below hv9
  have X20 := X19.below hv9
  have Y20 := Y19.below hv9
  have Z20 := Z19.below hv9
  have U20 := U19.below hv9
  have hw20 := below_tr hw19 hv9
  clear A19 B19 C19 X19 Y19 Z19 U19
  clear hv9
  have x' := X20
  obtain ⟨x0, x1, x2, x3, x4⟩ := x'
  have u' := U20
  obtain ⟨u0, u1, u2, u3, u4⟩ := u'
  go_wp2_with fail
  clear x0 x1 x2 x3 x4 u0 u1 u2 u3 u4
  have hn20 := Below.allocs v9 (.cells #[.int .u8 sk, .int .i64 sn, .int .i64 0, .string ⟨#[]⟩] 23)
  have Tn := Boxed.new v9 sk sn 0 ⟨#[]⟩ 23
  have A21 := A20.below hn20
  have B21 := B20.below hn20
  have C21 := C20.below hn20
  have X21 := X20.below hn20
  have Y21 := Y20.below hn20
  have Z21 := Z20.below hn20
  have U21 := U20.below hn20
  have hw21 := below_tr hw20 hn20
  clear A20 B20 C20 X20 Y20 Z20 U20
  have T21 := Tn
  clear Tn hn20
  go_ret
  exact ⟨rfl, hw21⟩

set_option maxRecDepth 100000 in
set_option maxHeartbeats 4000000 in
theorem order_eq_T1 (k n u : Int) (t : ByteArray) (n' u' : Int) (t' : ByteArray) (k'' n'' u'' : Int) (t'' : ByteArray) (h1 : t.size ≤ 2000) (h2 : t'.size ≤ 2000) (h3 : t''.size ≤ 2000) (hx : lessR k n u t k n' u' t' = ⟨2, 0, 0⟩) (hy : lessR k n' u' t' k n u t = ⟨2, 0, 0⟩) (hz : equalR k n u t k n' u' t' = ⟨2, 1, 0⟩) (hk : (k == 0) = false) (sk sn se : Int) (hp : lessR k n' u' t' k'' n'' u'' t'' = ⟨0, 0, 60⟩) (hq : lessR k n u t k'' n'' u'' t'' = ⟨sk, sn, se⟩) (w : World) :
    Calls Try.prog 7 #[.agg #[.int .u8 k, .int .i64 n, .int .i64 u, .string t], .agg #[.int .u8 k, .int .i64 n', .int .i64 u', .string t'], .agg #[.int .u8 k'', .int .i64 n'', .int .i64 u'', .string t'']] w fun e w' => e = .returned (.bool true) ∧ Below w.heap.size w w' := by
  have Hhx := Lib.hid hx
  clear hx
  have Hhy := Lib.hid hy
  clear hy
  have Hhz := Lib.hid hz
  clear hz
  have Hhp := Lib.hid hp
  clear hp
  have Hhq := Lib.hid hq
  clear hq
  have hkk : (k != k) = false := by simp
  have d1 : decide (2000 < (t.size : Int)) = false := by simp; omega
  have d2 : decide (2000 < (t'.size : Int)) = false := by simp; omega
  have d3 : decide (2000 < (t''.size : Int)) = false := by simp; omega
  clear h1 h2 h3
  have hw0 := Below.refl w.heap.size w
  go_enter Try.func7, Try.ntmps7
  go_wp2_with fail
  have hn0 := Below.allocs w (.cells #[.int .u8 k, .int .i64 n, .int .i64 u, .string t] 23)
  have An := Boxed.new w k n u t 23
  have hw1 := below_tr hw0 hn0
  have A1 := An
  clear An hn0
  have hn1 := Below.allocs (w.alloc (.cells #[.int .u8 k, .int .i64 n, .int .i64 u, .string t] 23)) (.cells #[.int .u8 k, .int .i64 n', .int .i64 u', .string t'] 23)
  have Bn := Boxed.new (w.alloc (.cells #[.int .u8 k, .int .i64 n, .int .i64 u, .string t] 23)) k n' u' t' 23
  rw [show (w.alloc (.cells #[.int .u8 k, .int .i64 n, .int .i64 u, .string t] 23)).heap.size = w.heap.size + 1 by simp] at Bn
  have A2 := A1.below hn1
  have hw2 := below_tr hw1 hn1
  clear A1
  have B2 := Bn
  clear Bn hn1
  have hn2 := Below.allocs ((w.alloc (.cells #[.int .u8 k, .int .i64 n, .int .i64 u, .string t] 23)).alloc (.cells #[.int .u8 k, .int .i64 n', .int .i64 u', .string t'] 23)) (.cells #[.int .u8 k'', .int .i64 n'', .int .i64 u'', .string t''] 23)
  have Cn := Boxed.new ((w.alloc (.cells #[.int .u8 k, .int .i64 n, .int .i64 u, .string t] 23)).alloc (.cells #[.int .u8 k, .int .i64 n', .int .i64 u', .string t'] 23)) k'' n'' u'' t'' 23
  rw [show ((w.alloc (.cells #[.int .u8 k, .int .i64 n, .int .i64 u, .string t] 23)).alloc (.cells #[.int .u8 k, .int .i64 n', .int .i64 u', .string t'] 23)).heap.size = w.heap.size + 1 + 1 by simp] at Cn
  have A3 := A2.below hn2
  have B3 := B2.below hn2
  have hw3 := below_tr hw2 hn2
  clear A2 B2
  have C3 := Cn
  clear Cn hn2
  refine (awake_is _).mono ?_
  rintro e v1 ⟨rfl, hv1⟩
  have A4 := A3.below hv1
  have B4 := B3.below hv1
  have C4 := C3.below hv1
  have hw4 := below_tr hw3 hv1
  clear A3 B3 C3
  clear hv1
  have a' := A4
  obtain ⟨a0, a1, a2, a3, a4⟩ := a'
  have b' := B4
  obtain ⟨b0, b1, b2, b3, b4⟩ := b'
  go_wp2_with fail
  clear a0 a1 a2 a3 a4 b0 b1 b2 b3 b4
  refine (less_is k n u t k n' u' t' ⟨2, 0, 0⟩ Hhx.out _).mono ?_
  rintro e v2 ⟨rfl, hv2⟩
  have A5 := A4.below hv2
  have B5 := B4.below hv2
  have C5 := C4.below hv2
  have hw5 := below_tr hw4 hv2
  clear A4 B4 C4
  clear hv2
  have a' := A5
  obtain ⟨a0, a1, a2, a3, a4⟩ := a'
  have b' := B5
  obtain ⟨b0, b1, b2, b3, b4⟩ := b'
  go_wp2_with fail
  clear a0 a1 a2 a3 a4 b0 b1 b2 b3 b4
  have hn5 := Below.allocs v2 (.cells #[.int .u8 2, .int .i64 0, .int .i64 0, .string ⟨#[]⟩] 23)
  have Xn := Boxed.new v2 2 0 0 ⟨#[]⟩ 23
  have A6 := A5.below hn5
  have B6 := B5.below hn5
  have C6 := C5.below hn5
  have hw6 := below_tr hw5 hn5
  clear A5 B5 C5
  have X6 := Xn
  clear Xn hn5
  refine (less_is k n' u' t' k n u t ⟨2, 0, 0⟩ Hhy.out _).mono ?_
  rintro e v3 ⟨rfl, hv3⟩
  have A7 := A6.below hv3
  have B7 := B6.below hv3
  have C7 := C6.below hv3
  have X7 := X6.below hv3
  have hw7 := below_tr hw6 hv3
  clear A6 B6 C6 X6
  clear hv3
  have a' := A7
  obtain ⟨a0, a1, a2, a3, a4⟩ := a'
  have b' := B7
  obtain ⟨b0, b1, b2, b3, b4⟩ := b'
  go_wp2_with fail
  clear a0 a1 a2 a3 a4 b0 b1 b2 b3 b4
  have hn7 := Below.allocs v3 (.cells #[.int .u8 2, .int .i64 0, .int .i64 0, .string ⟨#[]⟩] 23)
  have Yn := Boxed.new v3 2 0 0 ⟨#[]⟩ 23
  have A8 := A7.below hn7
  have B8 := B7.below hn7
  have C8 := C7.below hn7
  have X8 := X7.below hn7
  have hw8 := below_tr hw7 hn7
  clear A7 B7 C7 X7
  have Y8 := Yn
  clear Yn hn7
  refine (equal_is k n u t k n' u' t' ⟨2, 1, 0⟩ Hhz.out _).mono ?_
  rintro e v4 ⟨rfl, hv4⟩
  have A9 := A8.below hv4
  have B9 := B8.below hv4
  have C9 := C8.below hv4
  have X9 := X8.below hv4
  have Y9 := Y8.below hv4
  have hw9 := below_tr hw8 hv4
  clear A8 B8 C8 X8 Y8
  clear hv4
  have a' := A9
  obtain ⟨a0, a1, a2, a3, a4⟩ := a'
  have b' := B9
  obtain ⟨b0, b1, b2, b3, b4⟩ := b'
  have x' := X9
  obtain ⟨x0, x1, x2, x3, x4⟩ := x'
  have y' := Y9
  obtain ⟨y0, y1, y2, y3, y4⟩ := y'
  go_wp2_with fail
  clear a0 a1 a2 a3 a4 b0 b1 b2 b3 b4 x0 x1 x2 x3 x4 y0 y1 y2 y3 y4
  have hn9 := Below.allocs v4 (.cells #[.int .u8 2, .int .i64 1, .int .i64 0, .string ⟨#[]⟩] 23)
  have Zn := Boxed.new v4 2 1 0 ⟨#[]⟩ 23
  have A10 := A9.below hn9
  have B10 := B9.below hn9
  have C10 := C9.below hn9
  have X10 := X9.below hn9
  have Y10 := Y9.below hn9
  have hw10 := below_tr hw9 hn9
  clear A9 B9 C9 X9 Y9
  have Z10 := Zn
  clear Zn hn9
  have hn10 := Below.allocs (v4.alloc (.cells #[.int .u8 2, .int .i64 1, .int .i64 0, .string ⟨#[]⟩] 23)) (.cells #[.int .u8 2, .int .i64 0, .int .i64 0, .string ⟨#[]⟩, .int .u8 2, .int .i64 0, .int .i64 0, .string ⟨#[]⟩, .int .u8 2, .int .i64 1, .int .i64 0, .string ⟨#[]⟩] 23)
  have ht10 := three_new (v4.alloc (.cells #[.int .u8 2, .int .i64 1, .int .i64 0, .string ⟨#[]⟩] 23)) 2 0 0 ⟨#[]⟩ 2 0 0 ⟨#[]⟩ 2 1 0 ⟨#[]⟩ 23
  rw [show (v4.alloc (.cells #[.int .u8 2, .int .i64 1, .int .i64 0, .string ⟨#[]⟩] 23)).heap.size = v4.heap.size + 1 by simp] at ht10
  obtain ⟨Pn, Qn, On⟩ := ht10
  have A11 := A10.below hn10
  have B11 := B10.below hn10
  have C11 := C10.below hn10
  have X11 := X10.below hn10
  have Y11 := Y10.below hn10
  have Z11 := Z10.below hn10
  have hw11 := below_tr hw10 hn10
  clear A10 B10 C10 X10 Y10 Z10
  have P11 := Pn
  clear Pn
  have Q11 := Qn
  clear Qn
  have O11 := On
  clear On
  clear hn10
  have p' := P11
  obtain ⟨p0, p1, p2, p3, p4⟩ := p'
  have q' := Q11
  obtain ⟨q0, q1, q2, q3, q4⟩ := q'
  have o' := O11
  obtain ⟨o0, o1, o2, o3, o4⟩ := o'
  refine wp_loop_rounds 4 ?_
  rw [rounds_succ]
  go_wp2_with fail
  clear p0 p1 p2 p3 p4 q0 q1 q2 q3 q4 o0 o1 o2 o3 o4
  have hn11 := Below.allocs ((v4.alloc (.cells #[.int .u8 2, .int .i64 1, .int .i64 0, .string ⟨#[]⟩] 23)).alloc (.cells #[.int .u8 2, .int .i64 0, .int .i64 0, .string ⟨#[]⟩, .int .u8 2, .int .i64 0, .int .i64 0, .string ⟨#[]⟩, .int .u8 2, .int .i64 1, .int .i64 0, .string ⟨#[]⟩] 23)) (.cells #[.int .u8 2, .int .i64 0, .int .i64 0, .string ⟨#[]⟩] 23)
  have L0n := Boxed.new ((v4.alloc (.cells #[.int .u8 2, .int .i64 1, .int .i64 0, .string ⟨#[]⟩] 23)).alloc (.cells #[.int .u8 2, .int .i64 0, .int .i64 0, .string ⟨#[]⟩, .int .u8 2, .int .i64 0, .int .i64 0, .string ⟨#[]⟩, .int .u8 2, .int .i64 1, .int .i64 0, .string ⟨#[]⟩] 23)) 2 0 0 ⟨#[]⟩ 23
  rw [show ((v4.alloc (.cells #[.int .u8 2, .int .i64 1, .int .i64 0, .string ⟨#[]⟩] 23)).alloc (.cells #[.int .u8 2, .int .i64 0, .int .i64 0, .string ⟨#[]⟩, .int .u8 2, .int .i64 0, .int .i64 0, .string ⟨#[]⟩, .int .u8 2, .int .i64 1, .int .i64 0, .string ⟨#[]⟩] 23)).heap.size = v4.heap.size + 1 + 1 by simp] at L0n
  have A12 := A11.below hn11
  have B12 := B11.below hn11
  have C12 := C11.below hn11
  have X12 := X11.below hn11
  have Y12 := Y11.below hn11
  have Z12 := Z11.below hn11
  have P12 := P11.below hn11
  have Q12 := Q11.below hn11
  have O12 := O11.below hn11
  have hw12 := below_tr hw11 hn11
  clear A11 B11 C11 X11 Y11 Z11 P11 Q11 O11
  have L012 := L0n
  clear L0n hn11
  refine (yes_is 2 0 0 ⟨#[]⟩ false (by decide) _).mono ?_
  rintro e v5 ⟨rfl, hv5⟩
  have A13 := A12.below hv5
  have B13 := B12.below hv5
  have C13 := C12.below hv5
  have X13 := X12.below hv5
  have Y13 := Y12.below hv5
  have Z13 := Z12.below hv5
  have P13 := P12.below hv5
  have Q13 := Q12.below hv5
  have O13 := O12.below hv5
  have L013 := L012.below hv5
  have hw13 := below_tr hw12 hv5
  clear A12 B12 C12 X12 Y12 Z12 P12 Q12 O12 L012
  clear hv5
  have p' := P13
  obtain ⟨p0, p1, p2, p3, p4⟩ := p'
  have q' := Q13
  obtain ⟨q0, q1, q2, q3, q4⟩ := q'
  have o' := O13
  obtain ⟨o0, o1, o2, o3, o4⟩ := o'
  go_wp2_with fail
  clear L013
  rw [rounds_succ]
  go_wp2_with fail
  clear p0 p1 p2 p3 p4 q0 q1 q2 q3 q4 o0 o1 o2 o3 o4
  have hn13 := Below.allocs v5 (.cells #[.int .u8 2, .int .i64 0, .int .i64 0, .string ⟨#[]⟩] 23)
  have L1n := Boxed.new v5 2 0 0 ⟨#[]⟩ 23
  have A14 := A13.below hn13
  have B14 := B13.below hn13
  have C14 := C13.below hn13
  have X14 := X13.below hn13
  have Y14 := Y13.below hn13
  have Z14 := Z13.below hn13
  have P14 := P13.below hn13
  have Q14 := Q13.below hn13
  have O14 := O13.below hn13
  have hw14 := below_tr hw13 hn13
  clear A13 B13 C13 X13 Y13 Z13 P13 Q13 O13
  have L114 := L1n
  clear L1n hn13
  refine (yes_is 2 0 0 ⟨#[]⟩ false (by decide) _).mono ?_
  rintro e v6 ⟨rfl, hv6⟩
  have A15 := A14.below hv6
  have B15 := B14.below hv6
  have C15 := C14.below hv6
  have X15 := X14.below hv6
  have Y15 := Y14.below hv6
  have Z15 := Z14.below hv6
  have P15 := P14.below hv6
  have Q15 := Q14.below hv6
  have O15 := O14.below hv6
  have L115 := L114.below hv6
  have hw15 := below_tr hw14 hv6
  clear A14 B14 C14 X14 Y14 Z14 P14 Q14 O14 L114
  clear hv6
  have p' := P15
  obtain ⟨p0, p1, p2, p3, p4⟩ := p'
  have q' := Q15
  obtain ⟨q0, q1, q2, q3, q4⟩ := q'
  have o' := O15
  obtain ⟨o0, o1, o2, o3, o4⟩ := o'
  go_wp2_with fail
  clear L115
  rw [rounds_succ]
  go_wp2_with fail
  clear p0 p1 p2 p3 p4 q0 q1 q2 q3 q4 o0 o1 o2 o3 o4
  have hn15 := Below.allocs v6 (.cells #[.int .u8 2, .int .i64 1, .int .i64 0, .string ⟨#[]⟩] 23)
  have L2n := Boxed.new v6 2 1 0 ⟨#[]⟩ 23
  have A16 := A15.below hn15
  have B16 := B15.below hn15
  have C16 := C15.below hn15
  have X16 := X15.below hn15
  have Y16 := Y15.below hn15
  have Z16 := Z15.below hn15
  have P16 := P15.below hn15
  have Q16 := Q15.below hn15
  have O16 := O15.below hn15
  have hw16 := below_tr hw15 hn15
  clear A15 B15 C15 X15 Y15 Z15 P15 Q15 O15
  have L216 := L2n
  clear L2n hn15
  refine (yes_is 2 1 0 ⟨#[]⟩ true (by decide) _).mono ?_
  rintro e v7 ⟨rfl, hv7⟩
  have A17 := A16.below hv7
  have B17 := B16.below hv7
  have C17 := C16.below hv7
  have X17 := X16.below hv7
  have Y17 := Y16.below hv7
  have Z17 := Z16.below hv7
  have P17 := P16.below hv7
  have Q17 := Q16.below hv7
  have O17 := O16.below hv7
  have L217 := L216.below hv7
  have hw17 := below_tr hw16 hv7
  clear A16 B16 C16 X16 Y16 Z16 P16 Q16 O16 L216
  clear hv7
  have p' := P17
  obtain ⟨p0, p1, p2, p3, p4⟩ := p'
  have q' := Q17
  obtain ⟨q0, q1, q2, q3, q4⟩ := q'
  have o' := O17
  obtain ⟨o0, o1, o2, o3, o4⟩ := o'
  go_wp2_with fail
  clear L217
  clear P17
  clear Q17
  clear O17
  clear p0 p1 p2 p3 p4 q0 q1 q2 q3 q4 o0 o1 o2 o3 o4
  have a' := A17
  obtain ⟨a0, a1, a2, a3, a4⟩ := a'
  have b' := B17
  obtain ⟨b0, b1, b2, b3, b4⟩ := b'
  have c' := C17
  obtain ⟨c0, c1, c2, c3, c4⟩ := c'
  have x' := X17
  obtain ⟨x0, x1, x2, x3, x4⟩ := x'
  have y' := Y17
  obtain ⟨y0, y1, y2, y3, y4⟩ := y'
  have z' := Z17
  obtain ⟨z0, z1, z2, z3, z4⟩ := z'
  rw [rounds_succ]
  go_wp2_with fail
  clear a0 a1 a2 a3 a4 b0 b1 b2 b3 b4 c0 c1 c2 c3 c4 x0 x1 x2 x3 x4 y0 y1 y2 y3 y4 z0 z1 z2 z3 z4
  refine (less_is k n' u' t' k'' n'' u'' t'' ⟨0, 0, 60⟩ Hhp.out _).mono ?_
  rintro e v8 ⟨rfl, hv8⟩
  have A18 := A17.below hv8
  have B18 := B17.below hv8
  have C18 := C17.below hv8
  have X18 := X17.below hv8
  have Y18 := Y17.below hv8
  have Z18 := Z17.below hv8
  have hw18 := below_tr hw17 hv8
  clear A17 B17 C17 X17 Y17 Z17
  clear hv8
  have a' := A18
  obtain ⟨a0, a1, a2, a3, a4⟩ := a'
  have c' := C18
  obtain ⟨c0, c1, c2, c3, c4⟩ := c'
  have x' := X18
  obtain ⟨x0, x1, x2, x3, x4⟩ := x'
  go_wp2_with fail
  clear a0 a1 a2 a3 a4 c0 c1 c2 c3 c4 x0 x1 x2 x3 x4
  have hn18 := Below.allocs v8 (.cells #[.int .u8 0, .int .i64 0, .int .i64 0, .string ⟨#[]⟩] 23)
  have Un := Boxed.new v8 0 0 0 ⟨#[]⟩ 23
  have A19 := A18.below hn18
  have B19 := B18.below hn18
  have C19 := C18.below hn18
  have X19 := X18.below hn18
  have Y19 := Y18.below hn18
  have Z19 := Z18.below hn18
  have hw19 := below_tr hw18 hn18
  clear A18 B18 C18 X18 Y18 Z18
  have U19 := Un
  clear Un hn18
  refine (less_is k n u t k'' n'' u'' t'' ⟨sk, sn, se⟩ Hhq.out _).mono ?_
  rintro e v9 ⟨rfl, hv9⟩
  have A20 := A19.below hv9
  have B20 := B19.below hv9
  have C20 := C19.below hv9
  have X20 := X19.below hv9
  have Y20 := Y19.below hv9
  have Z20 := Z19.below hv9
  have U20 := U19.below hv9
  have hw20 := below_tr hw19 hv9
  clear A19 B19 C19 X19 Y19 Z19 U19
  clear hv9
  have x' := X20
  obtain ⟨x0, x1, x2, x3, x4⟩ := x'
  have u' := U20
  obtain ⟨u0, u1, u2, u3, u4⟩ := u'
  go_wp2_with fail
  clear x0 x1 x2 x3 x4 u0 u1 u2 u3 u4
  have hn20 := Below.allocs v9 (.cells #[.int .u8 sk, .int .i64 sn, .int .i64 0, .string ⟨#[]⟩] 23)
  have Tn := Boxed.new v9 sk sn 0 ⟨#[]⟩ 23
  have A21 := A20.below hn20
  have B21 := B20.below hn20
  have C21 := C20.below hn20
  have X21 := X20.below hn20
  have Y21 := Y20.below hn20
  have Z21 := Z20.below hn20
  have U21 := U20.below hn20
  have hw21 := below_tr hw20 hn20
  clear A20 B20 C20 X20 Y20 Z20 U20
  have T21 := Tn
  clear Tn hn20
  go_ret
  exact ⟨rfl, hw21⟩

set_option maxRecDepth 100000 in
set_option maxHeartbeats 4000000 in
theorem order_gt_T2 (k n u : Int) (t : ByteArray) (n' u' : Int) (t' : ByteArray) (k'' n'' u'' : Int) (t'' : ByteArray) (h1 : t.size ≤ 2000) (h2 : t'.size ≤ 2000) (h3 : t''.size ≤ 2000) (hx : lessR k n u t k n' u' t' = ⟨2, 0, 0⟩) (hy : lessR k n' u' t' k n u t = ⟨2, 1, 0⟩) (hz : equalR k n u t k n' u' t' = ⟨2, 0, 0⟩) (hk : (k == 0) = false) (rk rn : Int) (sk sn se : Int) (hp : lessR k n' u' t' k'' n'' u'' t'' = ⟨rk, rn, 0⟩) (hq : lessR k n u t k'' n'' u'' t'' = ⟨sk, sn, se⟩) (w : World) :
    Calls Try.prog 7 #[.agg #[.int .u8 k, .int .i64 n, .int .i64 u, .string t], .agg #[.int .u8 k, .int .i64 n', .int .i64 u', .string t'], .agg #[.int .u8 k'', .int .i64 n'', .int .i64 u'', .string t'']] w fun e w' => e = .returned (.bool true) ∧ Below w.heap.size w w' := by
  have Hhx := Lib.hid hx
  clear hx
  have Hhy := Lib.hid hy
  clear hy
  have Hhz := Lib.hid hz
  clear hz
  have Hhp := Lib.hid hp
  clear hp
  have Hhq := Lib.hid hq
  clear hq
  have hkk : (k != k) = false := by simp
  have d1 : decide (2000 < (t.size : Int)) = false := by simp; omega
  have d2 : decide (2000 < (t'.size : Int)) = false := by simp; omega
  have d3 : decide (2000 < (t''.size : Int)) = false := by simp; omega
  clear h1 h2 h3
  have hw0 := Below.refl w.heap.size w
  go_enter Try.func7, Try.ntmps7
  go_wp2_with fail
  have hn0 := Below.allocs w (.cells #[.int .u8 k, .int .i64 n, .int .i64 u, .string t] 23)
  have An := Boxed.new w k n u t 23
  have hw1 := below_tr hw0 hn0
  have A1 := An
  clear An hn0
  have hn1 := Below.allocs (w.alloc (.cells #[.int .u8 k, .int .i64 n, .int .i64 u, .string t] 23)) (.cells #[.int .u8 k, .int .i64 n', .int .i64 u', .string t'] 23)
  have Bn := Boxed.new (w.alloc (.cells #[.int .u8 k, .int .i64 n, .int .i64 u, .string t] 23)) k n' u' t' 23
  rw [show (w.alloc (.cells #[.int .u8 k, .int .i64 n, .int .i64 u, .string t] 23)).heap.size = w.heap.size + 1 by simp] at Bn
  have A2 := A1.below hn1
  have hw2 := below_tr hw1 hn1
  clear A1
  have B2 := Bn
  clear Bn hn1
  have hn2 := Below.allocs ((w.alloc (.cells #[.int .u8 k, .int .i64 n, .int .i64 u, .string t] 23)).alloc (.cells #[.int .u8 k, .int .i64 n', .int .i64 u', .string t'] 23)) (.cells #[.int .u8 k'', .int .i64 n'', .int .i64 u'', .string t''] 23)
  have Cn := Boxed.new ((w.alloc (.cells #[.int .u8 k, .int .i64 n, .int .i64 u, .string t] 23)).alloc (.cells #[.int .u8 k, .int .i64 n', .int .i64 u', .string t'] 23)) k'' n'' u'' t'' 23
  rw [show ((w.alloc (.cells #[.int .u8 k, .int .i64 n, .int .i64 u, .string t] 23)).alloc (.cells #[.int .u8 k, .int .i64 n', .int .i64 u', .string t'] 23)).heap.size = w.heap.size + 1 + 1 by simp] at Cn
  have A3 := A2.below hn2
  have B3 := B2.below hn2
  have hw3 := below_tr hw2 hn2
  clear A2 B2
  have C3 := Cn
  clear Cn hn2
  refine (awake_is _).mono ?_
  rintro e v1 ⟨rfl, hv1⟩
  have A4 := A3.below hv1
  have B4 := B3.below hv1
  have C4 := C3.below hv1
  have hw4 := below_tr hw3 hv1
  clear A3 B3 C3
  clear hv1
  have a' := A4
  obtain ⟨a0, a1, a2, a3, a4⟩ := a'
  have b' := B4
  obtain ⟨b0, b1, b2, b3, b4⟩ := b'
  go_wp2_with fail
  clear a0 a1 a2 a3 a4 b0 b1 b2 b3 b4
  refine (less_is k n u t k n' u' t' ⟨2, 0, 0⟩ Hhx.out _).mono ?_
  rintro e v2 ⟨rfl, hv2⟩
  have A5 := A4.below hv2
  have B5 := B4.below hv2
  have C5 := C4.below hv2
  have hw5 := below_tr hw4 hv2
  clear A4 B4 C4
  clear hv2
  have a' := A5
  obtain ⟨a0, a1, a2, a3, a4⟩ := a'
  have b' := B5
  obtain ⟨b0, b1, b2, b3, b4⟩ := b'
  go_wp2_with fail
  clear a0 a1 a2 a3 a4 b0 b1 b2 b3 b4
  have hn5 := Below.allocs v2 (.cells #[.int .u8 2, .int .i64 0, .int .i64 0, .string ⟨#[]⟩] 23)
  have Xn := Boxed.new v2 2 0 0 ⟨#[]⟩ 23
  have A6 := A5.below hn5
  have B6 := B5.below hn5
  have C6 := C5.below hn5
  have hw6 := below_tr hw5 hn5
  clear A5 B5 C5
  have X6 := Xn
  clear Xn hn5
  refine (less_is k n' u' t' k n u t ⟨2, 1, 0⟩ Hhy.out _).mono ?_
  rintro e v3 ⟨rfl, hv3⟩
  have A7 := A6.below hv3
  have B7 := B6.below hv3
  have C7 := C6.below hv3
  have X7 := X6.below hv3
  have hw7 := below_tr hw6 hv3
  clear A6 B6 C6 X6
  clear hv3
  have a' := A7
  obtain ⟨a0, a1, a2, a3, a4⟩ := a'
  have b' := B7
  obtain ⟨b0, b1, b2, b3, b4⟩ := b'
  go_wp2_with fail
  clear a0 a1 a2 a3 a4 b0 b1 b2 b3 b4
  have hn7 := Below.allocs v3 (.cells #[.int .u8 2, .int .i64 1, .int .i64 0, .string ⟨#[]⟩] 23)
  have Yn := Boxed.new v3 2 1 0 ⟨#[]⟩ 23
  have A8 := A7.below hn7
  have B8 := B7.below hn7
  have C8 := C7.below hn7
  have X8 := X7.below hn7
  have hw8 := below_tr hw7 hn7
  clear A7 B7 C7 X7
  have Y8 := Yn
  clear Yn hn7
  refine (equal_is k n u t k n' u' t' ⟨2, 0, 0⟩ Hhz.out _).mono ?_
  rintro e v4 ⟨rfl, hv4⟩
  have A9 := A8.below hv4
  have B9 := B8.below hv4
  have C9 := C8.below hv4
  have X9 := X8.below hv4
  have Y9 := Y8.below hv4
  have hw9 := below_tr hw8 hv4
  clear A8 B8 C8 X8 Y8
  clear hv4
  have a' := A9
  obtain ⟨a0, a1, a2, a3, a4⟩ := a'
  have b' := B9
  obtain ⟨b0, b1, b2, b3, b4⟩ := b'
  have x' := X9
  obtain ⟨x0, x1, x2, x3, x4⟩ := x'
  have y' := Y9
  obtain ⟨y0, y1, y2, y3, y4⟩ := y'
  go_wp2_with fail
  clear a0 a1 a2 a3 a4 b0 b1 b2 b3 b4 x0 x1 x2 x3 x4 y0 y1 y2 y3 y4
  have hn9 := Below.allocs v4 (.cells #[.int .u8 2, .int .i64 0, .int .i64 0, .string ⟨#[]⟩] 23)
  have Zn := Boxed.new v4 2 0 0 ⟨#[]⟩ 23
  have A10 := A9.below hn9
  have B10 := B9.below hn9
  have C10 := C9.below hn9
  have X10 := X9.below hn9
  have Y10 := Y9.below hn9
  have hw10 := below_tr hw9 hn9
  clear A9 B9 C9 X9 Y9
  have Z10 := Zn
  clear Zn hn9
  have hn10 := Below.allocs (v4.alloc (.cells #[.int .u8 2, .int .i64 0, .int .i64 0, .string ⟨#[]⟩] 23)) (.cells #[.int .u8 2, .int .i64 0, .int .i64 0, .string ⟨#[]⟩, .int .u8 2, .int .i64 1, .int .i64 0, .string ⟨#[]⟩, .int .u8 2, .int .i64 0, .int .i64 0, .string ⟨#[]⟩] 23)
  have ht10 := three_new (v4.alloc (.cells #[.int .u8 2, .int .i64 0, .int .i64 0, .string ⟨#[]⟩] 23)) 2 0 0 ⟨#[]⟩ 2 1 0 ⟨#[]⟩ 2 0 0 ⟨#[]⟩ 23
  rw [show (v4.alloc (.cells #[.int .u8 2, .int .i64 0, .int .i64 0, .string ⟨#[]⟩] 23)).heap.size = v4.heap.size + 1 by simp] at ht10
  obtain ⟨Pn, Qn, On⟩ := ht10
  have A11 := A10.below hn10
  have B11 := B10.below hn10
  have C11 := C10.below hn10
  have X11 := X10.below hn10
  have Y11 := Y10.below hn10
  have Z11 := Z10.below hn10
  have hw11 := below_tr hw10 hn10
  clear A10 B10 C10 X10 Y10 Z10
  have P11 := Pn
  clear Pn
  have Q11 := Qn
  clear Qn
  have O11 := On
  clear On
  clear hn10
  have p' := P11
  obtain ⟨p0, p1, p2, p3, p4⟩ := p'
  have q' := Q11
  obtain ⟨q0, q1, q2, q3, q4⟩ := q'
  have o' := O11
  obtain ⟨o0, o1, o2, o3, o4⟩ := o'
  refine wp_loop_rounds 4 ?_
  rw [rounds_succ]
  go_wp2_with fail
  clear p0 p1 p2 p3 p4 q0 q1 q2 q3 q4 o0 o1 o2 o3 o4
  have hn11 := Below.allocs ((v4.alloc (.cells #[.int .u8 2, .int .i64 0, .int .i64 0, .string ⟨#[]⟩] 23)).alloc (.cells #[.int .u8 2, .int .i64 0, .int .i64 0, .string ⟨#[]⟩, .int .u8 2, .int .i64 1, .int .i64 0, .string ⟨#[]⟩, .int .u8 2, .int .i64 0, .int .i64 0, .string ⟨#[]⟩] 23)) (.cells #[.int .u8 2, .int .i64 0, .int .i64 0, .string ⟨#[]⟩] 23)
  have L0n := Boxed.new ((v4.alloc (.cells #[.int .u8 2, .int .i64 0, .int .i64 0, .string ⟨#[]⟩] 23)).alloc (.cells #[.int .u8 2, .int .i64 0, .int .i64 0, .string ⟨#[]⟩, .int .u8 2, .int .i64 1, .int .i64 0, .string ⟨#[]⟩, .int .u8 2, .int .i64 0, .int .i64 0, .string ⟨#[]⟩] 23)) 2 0 0 ⟨#[]⟩ 23
  rw [show ((v4.alloc (.cells #[.int .u8 2, .int .i64 0, .int .i64 0, .string ⟨#[]⟩] 23)).alloc (.cells #[.int .u8 2, .int .i64 0, .int .i64 0, .string ⟨#[]⟩, .int .u8 2, .int .i64 1, .int .i64 0, .string ⟨#[]⟩, .int .u8 2, .int .i64 0, .int .i64 0, .string ⟨#[]⟩] 23)).heap.size = v4.heap.size + 1 + 1 by simp] at L0n
  have A12 := A11.below hn11
  have B12 := B11.below hn11
  have C12 := C11.below hn11
  have X12 := X11.below hn11
  have Y12 := Y11.below hn11
  have Z12 := Z11.below hn11
  have P12 := P11.below hn11
  have Q12 := Q11.below hn11
  have O12 := O11.below hn11
  have hw12 := below_tr hw11 hn11
  clear A11 B11 C11 X11 Y11 Z11 P11 Q11 O11
  have L012 := L0n
  clear L0n hn11
  refine (yes_is 2 0 0 ⟨#[]⟩ false (by decide) _).mono ?_
  rintro e v5 ⟨rfl, hv5⟩
  have A13 := A12.below hv5
  have B13 := B12.below hv5
  have C13 := C12.below hv5
  have X13 := X12.below hv5
  have Y13 := Y12.below hv5
  have Z13 := Z12.below hv5
  have P13 := P12.below hv5
  have Q13 := Q12.below hv5
  have O13 := O12.below hv5
  have L013 := L012.below hv5
  have hw13 := below_tr hw12 hv5
  clear A12 B12 C12 X12 Y12 Z12 P12 Q12 O12 L012
  clear hv5
  have p' := P13
  obtain ⟨p0, p1, p2, p3, p4⟩ := p'
  have q' := Q13
  obtain ⟨q0, q1, q2, q3, q4⟩ := q'
  have o' := O13
  obtain ⟨o0, o1, o2, o3, o4⟩ := o'
  go_wp2_with fail
  clear L013
  rw [rounds_succ]
  go_wp2_with fail
  clear p0 p1 p2 p3 p4 q0 q1 q2 q3 q4 o0 o1 o2 o3 o4
  have hn13 := Below.allocs v5 (.cells #[.int .u8 2, .int .i64 1, .int .i64 0, .string ⟨#[]⟩] 23)
  have L1n := Boxed.new v5 2 1 0 ⟨#[]⟩ 23
  have A14 := A13.below hn13
  have B14 := B13.below hn13
  have C14 := C13.below hn13
  have X14 := X13.below hn13
  have Y14 := Y13.below hn13
  have Z14 := Z13.below hn13
  have P14 := P13.below hn13
  have Q14 := Q13.below hn13
  have O14 := O13.below hn13
  have hw14 := below_tr hw13 hn13
  clear A13 B13 C13 X13 Y13 Z13 P13 Q13 O13
  have L114 := L1n
  clear L1n hn13
  refine (yes_is 2 1 0 ⟨#[]⟩ true (by decide) _).mono ?_
  rintro e v6 ⟨rfl, hv6⟩
  have A15 := A14.below hv6
  have B15 := B14.below hv6
  have C15 := C14.below hv6
  have X15 := X14.below hv6
  have Y15 := Y14.below hv6
  have Z15 := Z14.below hv6
  have P15 := P14.below hv6
  have Q15 := Q14.below hv6
  have O15 := O14.below hv6
  have L115 := L114.below hv6
  have hw15 := below_tr hw14 hv6
  clear A14 B14 C14 X14 Y14 Z14 P14 Q14 O14 L114
  clear hv6
  have p' := P15
  obtain ⟨p0, p1, p2, p3, p4⟩ := p'
  have q' := Q15
  obtain ⟨q0, q1, q2, q3, q4⟩ := q'
  have o' := O15
  obtain ⟨o0, o1, o2, o3, o4⟩ := o'
  go_wp2_with fail
  clear L115
  rw [rounds_succ]
  go_wp2_with fail
  clear p0 p1 p2 p3 p4 q0 q1 q2 q3 q4 o0 o1 o2 o3 o4
  have hn15 := Below.allocs v6 (.cells #[.int .u8 2, .int .i64 0, .int .i64 0, .string ⟨#[]⟩] 23)
  have L2n := Boxed.new v6 2 0 0 ⟨#[]⟩ 23
  have A16 := A15.below hn15
  have B16 := B15.below hn15
  have C16 := C15.below hn15
  have X16 := X15.below hn15
  have Y16 := Y15.below hn15
  have Z16 := Z15.below hn15
  have P16 := P15.below hn15
  have Q16 := Q15.below hn15
  have O16 := O15.below hn15
  have hw16 := below_tr hw15 hn15
  clear A15 B15 C15 X15 Y15 Z15 P15 Q15 O15
  have L216 := L2n
  clear L2n hn15
  refine (yes_is 2 0 0 ⟨#[]⟩ false (by decide) _).mono ?_
  rintro e v7 ⟨rfl, hv7⟩
  have A17 := A16.below hv7
  have B17 := B16.below hv7
  have C17 := C16.below hv7
  have X17 := X16.below hv7
  have Y17 := Y16.below hv7
  have Z17 := Z16.below hv7
  have P17 := P16.below hv7
  have Q17 := Q16.below hv7
  have O17 := O16.below hv7
  have L217 := L216.below hv7
  have hw17 := below_tr hw16 hv7
  clear A16 B16 C16 X16 Y16 Z16 P16 Q16 O16 L216
  clear hv7
  have p' := P17
  obtain ⟨p0, p1, p2, p3, p4⟩ := p'
  have q' := Q17
  obtain ⟨q0, q1, q2, q3, q4⟩ := q'
  have o' := O17
  obtain ⟨o0, o1, o2, o3, o4⟩ := o'
  go_wp2_with fail
  clear L217
  clear P17
  clear Q17
  clear O17
  clear p0 p1 p2 p3 p4 q0 q1 q2 q3 q4 o0 o1 o2 o3 o4
  have a' := A17
  obtain ⟨a0, a1, a2, a3, a4⟩ := a'
  have b' := B17
  obtain ⟨b0, b1, b2, b3, b4⟩ := b'
  have c' := C17
  obtain ⟨c0, c1, c2, c3, c4⟩ := c'
  have x' := X17
  obtain ⟨x0, x1, x2, x3, x4⟩ := x'
  have y' := Y17
  obtain ⟨y0, y1, y2, y3, y4⟩ := y'
  have z' := Z17
  obtain ⟨z0, z1, z2, z3, z4⟩ := z'
  rw [rounds_succ]
  go_wp2_with fail
  clear a0 a1 a2 a3 a4 b0 b1 b2 b3 b4 c0 c1 c2 c3 c4 x0 x1 x2 x3 x4 y0 y1 y2 y3 y4 z0 z1 z2 z3 z4
  refine (less_is k n' u' t' k'' n'' u'' t'' ⟨rk, rn, 0⟩ Hhp.out _).mono ?_
  rintro e v8 ⟨rfl, hv8⟩
  have A18 := A17.below hv8
  have B18 := B17.below hv8
  have C18 := C17.below hv8
  have X18 := X17.below hv8
  have Y18 := Y17.below hv8
  have Z18 := Z17.below hv8
  have hw18 := below_tr hw17 hv8
  clear A17 B17 C17 X17 Y17 Z17
  clear hv8
  have a' := A18
  obtain ⟨a0, a1, a2, a3, a4⟩ := a'
  have c' := C18
  obtain ⟨c0, c1, c2, c3, c4⟩ := c'
  have x' := X18
  obtain ⟨x0, x1, x2, x3, x4⟩ := x'
  go_wp2_with fail
  clear a0 a1 a2 a3 a4 c0 c1 c2 c3 c4 x0 x1 x2 x3 x4
  have hn18 := Below.allocs v8 (.cells #[.int .u8 rk, .int .i64 rn, .int .i64 0, .string ⟨#[]⟩] 23)
  have Un := Boxed.new v8 rk rn 0 ⟨#[]⟩ 23
  have A19 := A18.below hn18
  have B19 := B18.below hn18
  have C19 := C18.below hn18
  have X19 := X18.below hn18
  have Y19 := Y18.below hn18
  have Z19 := Z18.below hn18
  have hw19 := below_tr hw18 hn18
  clear A18 B18 C18 X18 Y18 Z18
  have U19 := Un
  clear Un hn18
  refine (less_is k n u t k'' n'' u'' t'' ⟨sk, sn, se⟩ Hhq.out _).mono ?_
  rintro e v9 ⟨rfl, hv9⟩
  have A20 := A19.below hv9
  have B20 := B19.below hv9
  have C20 := C19.below hv9
  have X20 := X19.below hv9
  have Y20 := Y19.below hv9
  have Z20 := Z19.below hv9
  have U20 := U19.below hv9
  have hw20 := below_tr hw19 hv9
  clear A19 B19 C19 X19 Y19 Z19 U19
  clear hv9
  have x' := X20
  obtain ⟨x0, x1, x2, x3, x4⟩ := x'
  have u' := U20
  obtain ⟨u0, u1, u2, u3, u4⟩ := u'
  go_wp2_with fail
  clear x0 x1 x2 x3 x4 u0 u1 u2 u3 u4
  have hn20 := Below.allocs v9 (.cells #[.int .u8 sk, .int .i64 sn, .int .i64 0, .string ⟨#[]⟩] 23)
  have Tn := Boxed.new v9 sk sn 0 ⟨#[]⟩ 23
  have A21 := A20.below hn20
  have B21 := B20.below hn20
  have C21 := C20.below hn20
  have X21 := X20.below hn20
  have Y21 := Y20.below hn20
  have Z21 := Z20.below hn20
  have U21 := U20.below hn20
  have hw21 := below_tr hw20 hn20
  clear A20 B20 C20 X20 Y20 Z20 U20
  have T21 := Tn
  clear Tn hn20
  refine (yes_is 2 0 0 ⟨#[]⟩ false (by decide) _).mono ?_
  rintro e v10 ⟨rfl, hv10⟩
  have A22 := A21.below hv10
  have B22 := B21.below hv10
  have C22 := C21.below hv10
  have X22 := X21.below hv10
  have Y22 := Y21.below hv10
  have Z22 := Z21.below hv10
  have U22 := U21.below hv10
  have T22 := T21.below hv10
  have hw22 := below_tr hw21 hv10
  clear A21 B21 C21 X21 Y21 Z21 U21 T21
  clear hv10
  have u' := U22
  obtain ⟨u0, u1, u2, u3, u4⟩ := u'
  go_wp2_with fail
  go_ret
  exact ⟨rfl, hw22⟩

set_option maxRecDepth 100000 in
set_option maxHeartbeats 4000000 in
theorem order_eq_T2 (k n u : Int) (t : ByteArray) (n' u' : Int) (t' : ByteArray) (k'' n'' u'' : Int) (t'' : ByteArray) (h1 : t.size ≤ 2000) (h2 : t'.size ≤ 2000) (h3 : t''.size ≤ 2000) (hx : lessR k n u t k n' u' t' = ⟨2, 0, 0⟩) (hy : lessR k n' u' t' k n u t = ⟨2, 0, 0⟩) (hz : equalR k n u t k n' u' t' = ⟨2, 1, 0⟩) (hk : (k == 0) = false) (rk rn : Int) (sk sn se : Int) (hp : lessR k n' u' t' k'' n'' u'' t'' = ⟨rk, rn, 0⟩) (hq : lessR k n u t k'' n'' u'' t'' = ⟨sk, sn, se⟩) (w : World) :
    Calls Try.prog 7 #[.agg #[.int .u8 k, .int .i64 n, .int .i64 u, .string t], .agg #[.int .u8 k, .int .i64 n', .int .i64 u', .string t'], .agg #[.int .u8 k'', .int .i64 n'', .int .i64 u'', .string t'']] w fun e w' => e = .returned (.bool true) ∧ Below w.heap.size w w' := by
  have Hhx := Lib.hid hx
  clear hx
  have Hhy := Lib.hid hy
  clear hy
  have Hhz := Lib.hid hz
  clear hz
  have Hhp := Lib.hid hp
  clear hp
  have Hhq := Lib.hid hq
  clear hq
  have hkk : (k != k) = false := by simp
  have d1 : decide (2000 < (t.size : Int)) = false := by simp; omega
  have d2 : decide (2000 < (t'.size : Int)) = false := by simp; omega
  have d3 : decide (2000 < (t''.size : Int)) = false := by simp; omega
  clear h1 h2 h3
  have hw0 := Below.refl w.heap.size w
  go_enter Try.func7, Try.ntmps7
  go_wp2_with fail
  have hn0 := Below.allocs w (.cells #[.int .u8 k, .int .i64 n, .int .i64 u, .string t] 23)
  have An := Boxed.new w k n u t 23
  have hw1 := below_tr hw0 hn0
  have A1 := An
  clear An hn0
  have hn1 := Below.allocs (w.alloc (.cells #[.int .u8 k, .int .i64 n, .int .i64 u, .string t] 23)) (.cells #[.int .u8 k, .int .i64 n', .int .i64 u', .string t'] 23)
  have Bn := Boxed.new (w.alloc (.cells #[.int .u8 k, .int .i64 n, .int .i64 u, .string t] 23)) k n' u' t' 23
  rw [show (w.alloc (.cells #[.int .u8 k, .int .i64 n, .int .i64 u, .string t] 23)).heap.size = w.heap.size + 1 by simp] at Bn
  have A2 := A1.below hn1
  have hw2 := below_tr hw1 hn1
  clear A1
  have B2 := Bn
  clear Bn hn1
  have hn2 := Below.allocs ((w.alloc (.cells #[.int .u8 k, .int .i64 n, .int .i64 u, .string t] 23)).alloc (.cells #[.int .u8 k, .int .i64 n', .int .i64 u', .string t'] 23)) (.cells #[.int .u8 k'', .int .i64 n'', .int .i64 u'', .string t''] 23)
  have Cn := Boxed.new ((w.alloc (.cells #[.int .u8 k, .int .i64 n, .int .i64 u, .string t] 23)).alloc (.cells #[.int .u8 k, .int .i64 n', .int .i64 u', .string t'] 23)) k'' n'' u'' t'' 23
  rw [show ((w.alloc (.cells #[.int .u8 k, .int .i64 n, .int .i64 u, .string t] 23)).alloc (.cells #[.int .u8 k, .int .i64 n', .int .i64 u', .string t'] 23)).heap.size = w.heap.size + 1 + 1 by simp] at Cn
  have A3 := A2.below hn2
  have B3 := B2.below hn2
  have hw3 := below_tr hw2 hn2
  clear A2 B2
  have C3 := Cn
  clear Cn hn2
  refine (awake_is _).mono ?_
  rintro e v1 ⟨rfl, hv1⟩
  have A4 := A3.below hv1
  have B4 := B3.below hv1
  have C4 := C3.below hv1
  have hw4 := below_tr hw3 hv1
  clear A3 B3 C3
  clear hv1
  have a' := A4
  obtain ⟨a0, a1, a2, a3, a4⟩ := a'
  have b' := B4
  obtain ⟨b0, b1, b2, b3, b4⟩ := b'
  go_wp2_with fail
  clear a0 a1 a2 a3 a4 b0 b1 b2 b3 b4
  refine (less_is k n u t k n' u' t' ⟨2, 0, 0⟩ Hhx.out _).mono ?_
  rintro e v2 ⟨rfl, hv2⟩
  have A5 := A4.below hv2
  have B5 := B4.below hv2
  have C5 := C4.below hv2
  have hw5 := below_tr hw4 hv2
  clear A4 B4 C4
  clear hv2
  have a' := A5
  obtain ⟨a0, a1, a2, a3, a4⟩ := a'
  have b' := B5
  obtain ⟨b0, b1, b2, b3, b4⟩ := b'
  go_wp2_with fail
  clear a0 a1 a2 a3 a4 b0 b1 b2 b3 b4
  have hn5 := Below.allocs v2 (.cells #[.int .u8 2, .int .i64 0, .int .i64 0, .string ⟨#[]⟩] 23)
  have Xn := Boxed.new v2 2 0 0 ⟨#[]⟩ 23
  have A6 := A5.below hn5
  have B6 := B5.below hn5
  have C6 := C5.below hn5
  have hw6 := below_tr hw5 hn5
  clear A5 B5 C5
  have X6 := Xn
  clear Xn hn5
  refine (less_is k n' u' t' k n u t ⟨2, 0, 0⟩ Hhy.out _).mono ?_
  rintro e v3 ⟨rfl, hv3⟩
  have A7 := A6.below hv3
  have B7 := B6.below hv3
  have C7 := C6.below hv3
  have X7 := X6.below hv3
  have hw7 := below_tr hw6 hv3
  clear A6 B6 C6 X6
  clear hv3
  have a' := A7
  obtain ⟨a0, a1, a2, a3, a4⟩ := a'
  have b' := B7
  obtain ⟨b0, b1, b2, b3, b4⟩ := b'
  go_wp2_with fail
  clear a0 a1 a2 a3 a4 b0 b1 b2 b3 b4
  have hn7 := Below.allocs v3 (.cells #[.int .u8 2, .int .i64 0, .int .i64 0, .string ⟨#[]⟩] 23)
  have Yn := Boxed.new v3 2 0 0 ⟨#[]⟩ 23
  have A8 := A7.below hn7
  have B8 := B7.below hn7
  have C8 := C7.below hn7
  have X8 := X7.below hn7
  have hw8 := below_tr hw7 hn7
  clear A7 B7 C7 X7
  have Y8 := Yn
  clear Yn hn7
  refine (equal_is k n u t k n' u' t' ⟨2, 1, 0⟩ Hhz.out _).mono ?_
  rintro e v4 ⟨rfl, hv4⟩
  have A9 := A8.below hv4
  have B9 := B8.below hv4
  have C9 := C8.below hv4
  have X9 := X8.below hv4
  have Y9 := Y8.below hv4
  have hw9 := below_tr hw8 hv4
  clear A8 B8 C8 X8 Y8
  clear hv4
  have a' := A9
  obtain ⟨a0, a1, a2, a3, a4⟩ := a'
  have b' := B9
  obtain ⟨b0, b1, b2, b3, b4⟩ := b'
  have x' := X9
  obtain ⟨x0, x1, x2, x3, x4⟩ := x'
  have y' := Y9
  obtain ⟨y0, y1, y2, y3, y4⟩ := y'
  go_wp2_with fail
  clear a0 a1 a2 a3 a4 b0 b1 b2 b3 b4 x0 x1 x2 x3 x4 y0 y1 y2 y3 y4
  have hn9 := Below.allocs v4 (.cells #[.int .u8 2, .int .i64 1, .int .i64 0, .string ⟨#[]⟩] 23)
  have Zn := Boxed.new v4 2 1 0 ⟨#[]⟩ 23
  have A10 := A9.below hn9
  have B10 := B9.below hn9
  have C10 := C9.below hn9
  have X10 := X9.below hn9
  have Y10 := Y9.below hn9
  have hw10 := below_tr hw9 hn9
  clear A9 B9 C9 X9 Y9
  have Z10 := Zn
  clear Zn hn9
  have hn10 := Below.allocs (v4.alloc (.cells #[.int .u8 2, .int .i64 1, .int .i64 0, .string ⟨#[]⟩] 23)) (.cells #[.int .u8 2, .int .i64 0, .int .i64 0, .string ⟨#[]⟩, .int .u8 2, .int .i64 0, .int .i64 0, .string ⟨#[]⟩, .int .u8 2, .int .i64 1, .int .i64 0, .string ⟨#[]⟩] 23)
  have ht10 := three_new (v4.alloc (.cells #[.int .u8 2, .int .i64 1, .int .i64 0, .string ⟨#[]⟩] 23)) 2 0 0 ⟨#[]⟩ 2 0 0 ⟨#[]⟩ 2 1 0 ⟨#[]⟩ 23
  rw [show (v4.alloc (.cells #[.int .u8 2, .int .i64 1, .int .i64 0, .string ⟨#[]⟩] 23)).heap.size = v4.heap.size + 1 by simp] at ht10
  obtain ⟨Pn, Qn, On⟩ := ht10
  have A11 := A10.below hn10
  have B11 := B10.below hn10
  have C11 := C10.below hn10
  have X11 := X10.below hn10
  have Y11 := Y10.below hn10
  have Z11 := Z10.below hn10
  have hw11 := below_tr hw10 hn10
  clear A10 B10 C10 X10 Y10 Z10
  have P11 := Pn
  clear Pn
  have Q11 := Qn
  clear Qn
  have O11 := On
  clear On
  clear hn10
  have p' := P11
  obtain ⟨p0, p1, p2, p3, p4⟩ := p'
  have q' := Q11
  obtain ⟨q0, q1, q2, q3, q4⟩ := q'
  have o' := O11
  obtain ⟨o0, o1, o2, o3, o4⟩ := o'
  refine wp_loop_rounds 4 ?_
  rw [rounds_succ]
  go_wp2_with fail
  clear p0 p1 p2 p3 p4 q0 q1 q2 q3 q4 o0 o1 o2 o3 o4
  have hn11 := Below.allocs ((v4.alloc (.cells #[.int .u8 2, .int .i64 1, .int .i64 0, .string ⟨#[]⟩] 23)).alloc (.cells #[.int .u8 2, .int .i64 0, .int .i64 0, .string ⟨#[]⟩, .int .u8 2, .int .i64 0, .int .i64 0, .string ⟨#[]⟩, .int .u8 2, .int .i64 1, .int .i64 0, .string ⟨#[]⟩] 23)) (.cells #[.int .u8 2, .int .i64 0, .int .i64 0, .string ⟨#[]⟩] 23)
  have L0n := Boxed.new ((v4.alloc (.cells #[.int .u8 2, .int .i64 1, .int .i64 0, .string ⟨#[]⟩] 23)).alloc (.cells #[.int .u8 2, .int .i64 0, .int .i64 0, .string ⟨#[]⟩, .int .u8 2, .int .i64 0, .int .i64 0, .string ⟨#[]⟩, .int .u8 2, .int .i64 1, .int .i64 0, .string ⟨#[]⟩] 23)) 2 0 0 ⟨#[]⟩ 23
  rw [show ((v4.alloc (.cells #[.int .u8 2, .int .i64 1, .int .i64 0, .string ⟨#[]⟩] 23)).alloc (.cells #[.int .u8 2, .int .i64 0, .int .i64 0, .string ⟨#[]⟩, .int .u8 2, .int .i64 0, .int .i64 0, .string ⟨#[]⟩, .int .u8 2, .int .i64 1, .int .i64 0, .string ⟨#[]⟩] 23)).heap.size = v4.heap.size + 1 + 1 by simp] at L0n
  have A12 := A11.below hn11
  have B12 := B11.below hn11
  have C12 := C11.below hn11
  have X12 := X11.below hn11
  have Y12 := Y11.below hn11
  have Z12 := Z11.below hn11
  have P12 := P11.below hn11
  have Q12 := Q11.below hn11
  have O12 := O11.below hn11
  have hw12 := below_tr hw11 hn11
  clear A11 B11 C11 X11 Y11 Z11 P11 Q11 O11
  have L012 := L0n
  clear L0n hn11
  refine (yes_is 2 0 0 ⟨#[]⟩ false (by decide) _).mono ?_
  rintro e v5 ⟨rfl, hv5⟩
  have A13 := A12.below hv5
  have B13 := B12.below hv5
  have C13 := C12.below hv5
  have X13 := X12.below hv5
  have Y13 := Y12.below hv5
  have Z13 := Z12.below hv5
  have P13 := P12.below hv5
  have Q13 := Q12.below hv5
  have O13 := O12.below hv5
  have L013 := L012.below hv5
  have hw13 := below_tr hw12 hv5
  clear A12 B12 C12 X12 Y12 Z12 P12 Q12 O12 L012
  clear hv5
  have p' := P13
  obtain ⟨p0, p1, p2, p3, p4⟩ := p'
  have q' := Q13
  obtain ⟨q0, q1, q2, q3, q4⟩ := q'
  have o' := O13
  obtain ⟨o0, o1, o2, o3, o4⟩ := o'
  go_wp2_with fail
  clear L013
  rw [rounds_succ]
  go_wp2_with fail
  clear p0 p1 p2 p3 p4 q0 q1 q2 q3 q4 o0 o1 o2 o3 o4
  have hn13 := Below.allocs v5 (.cells #[.int .u8 2, .int .i64 0, .int .i64 0, .string ⟨#[]⟩] 23)
  have L1n := Boxed.new v5 2 0 0 ⟨#[]⟩ 23
  have A14 := A13.below hn13
  have B14 := B13.below hn13
  have C14 := C13.below hn13
  have X14 := X13.below hn13
  have Y14 := Y13.below hn13
  have Z14 := Z13.below hn13
  have P14 := P13.below hn13
  have Q14 := Q13.below hn13
  have O14 := O13.below hn13
  have hw14 := below_tr hw13 hn13
  clear A13 B13 C13 X13 Y13 Z13 P13 Q13 O13
  have L114 := L1n
  clear L1n hn13
  refine (yes_is 2 0 0 ⟨#[]⟩ false (by decide) _).mono ?_
  rintro e v6 ⟨rfl, hv6⟩
  have A15 := A14.below hv6
  have B15 := B14.below hv6
  have C15 := C14.below hv6
  have X15 := X14.below hv6
  have Y15 := Y14.below hv6
  have Z15 := Z14.below hv6
  have P15 := P14.below hv6
  have Q15 := Q14.below hv6
  have O15 := O14.below hv6
  have L115 := L114.below hv6
  have hw15 := below_tr hw14 hv6
  clear A14 B14 C14 X14 Y14 Z14 P14 Q14 O14 L114
  clear hv6
  have p' := P15
  obtain ⟨p0, p1, p2, p3, p4⟩ := p'
  have q' := Q15
  obtain ⟨q0, q1, q2, q3, q4⟩ := q'
  have o' := O15
  obtain ⟨o0, o1, o2, o3, o4⟩ := o'
  go_wp2_with fail
  clear L115
  rw [rounds_succ]
  go_wp2_with fail
  clear p0 p1 p2 p3 p4 q0 q1 q2 q3 q4 o0 o1 o2 o3 o4
  have hn15 := Below.allocs v6 (.cells #[.int .u8 2, .int .i64 1, .int .i64 0, .string ⟨#[]⟩] 23)
  have L2n := Boxed.new v6 2 1 0 ⟨#[]⟩ 23
  have A16 := A15.below hn15
  have B16 := B15.below hn15
  have C16 := C15.below hn15
  have X16 := X15.below hn15
  have Y16 := Y15.below hn15
  have Z16 := Z15.below hn15
  have P16 := P15.below hn15
  have Q16 := Q15.below hn15
  have O16 := O15.below hn15
  have hw16 := below_tr hw15 hn15
  clear A15 B15 C15 X15 Y15 Z15 P15 Q15 O15
  have L216 := L2n
  clear L2n hn15
  refine (yes_is 2 1 0 ⟨#[]⟩ true (by decide) _).mono ?_
  rintro e v7 ⟨rfl, hv7⟩
  have A17 := A16.below hv7
  have B17 := B16.below hv7
  have C17 := C16.below hv7
  have X17 := X16.below hv7
  have Y17 := Y16.below hv7
  have Z17 := Z16.below hv7
  have P17 := P16.below hv7
  have Q17 := Q16.below hv7
  have O17 := O16.below hv7
  have L217 := L216.below hv7
  have hw17 := below_tr hw16 hv7
  clear A16 B16 C16 X16 Y16 Z16 P16 Q16 O16 L216
  clear hv7
  have p' := P17
  obtain ⟨p0, p1, p2, p3, p4⟩ := p'
  have q' := Q17
  obtain ⟨q0, q1, q2, q3, q4⟩ := q'
  have o' := O17
  obtain ⟨o0, o1, o2, o3, o4⟩ := o'
  go_wp2_with fail
  clear L217
  clear P17
  clear Q17
  clear O17
  clear p0 p1 p2 p3 p4 q0 q1 q2 q3 q4 o0 o1 o2 o3 o4
  have a' := A17
  obtain ⟨a0, a1, a2, a3, a4⟩ := a'
  have b' := B17
  obtain ⟨b0, b1, b2, b3, b4⟩ := b'
  have c' := C17
  obtain ⟨c0, c1, c2, c3, c4⟩ := c'
  have x' := X17
  obtain ⟨x0, x1, x2, x3, x4⟩ := x'
  have y' := Y17
  obtain ⟨y0, y1, y2, y3, y4⟩ := y'
  have z' := Z17
  obtain ⟨z0, z1, z2, z3, z4⟩ := z'
  rw [rounds_succ]
  go_wp2_with fail
  clear a0 a1 a2 a3 a4 b0 b1 b2 b3 b4 c0 c1 c2 c3 c4 x0 x1 x2 x3 x4 y0 y1 y2 y3 y4 z0 z1 z2 z3 z4
  refine (less_is k n' u' t' k'' n'' u'' t'' ⟨rk, rn, 0⟩ Hhp.out _).mono ?_
  rintro e v8 ⟨rfl, hv8⟩
  have A18 := A17.below hv8
  have B18 := B17.below hv8
  have C18 := C17.below hv8
  have X18 := X17.below hv8
  have Y18 := Y17.below hv8
  have Z18 := Z17.below hv8
  have hw18 := below_tr hw17 hv8
  clear A17 B17 C17 X17 Y17 Z17
  clear hv8
  have a' := A18
  obtain ⟨a0, a1, a2, a3, a4⟩ := a'
  have c' := C18
  obtain ⟨c0, c1, c2, c3, c4⟩ := c'
  have x' := X18
  obtain ⟨x0, x1, x2, x3, x4⟩ := x'
  go_wp2_with fail
  clear a0 a1 a2 a3 a4 c0 c1 c2 c3 c4 x0 x1 x2 x3 x4
  have hn18 := Below.allocs v8 (.cells #[.int .u8 rk, .int .i64 rn, .int .i64 0, .string ⟨#[]⟩] 23)
  have Un := Boxed.new v8 rk rn 0 ⟨#[]⟩ 23
  have A19 := A18.below hn18
  have B19 := B18.below hn18
  have C19 := C18.below hn18
  have X19 := X18.below hn18
  have Y19 := Y18.below hn18
  have Z19 := Z18.below hn18
  have hw19 := below_tr hw18 hn18
  clear A18 B18 C18 X18 Y18 Z18
  have U19 := Un
  clear Un hn18
  refine (less_is k n u t k'' n'' u'' t'' ⟨sk, sn, se⟩ Hhq.out _).mono ?_
  rintro e v9 ⟨rfl, hv9⟩
  have A20 := A19.below hv9
  have B20 := B19.below hv9
  have C20 := C19.below hv9
  have X20 := X19.below hv9
  have Y20 := Y19.below hv9
  have Z20 := Z19.below hv9
  have U20 := U19.below hv9
  have hw20 := below_tr hw19 hv9
  clear A19 B19 C19 X19 Y19 Z19 U19
  clear hv9
  have x' := X20
  obtain ⟨x0, x1, x2, x3, x4⟩ := x'
  have u' := U20
  obtain ⟨u0, u1, u2, u3, u4⟩ := u'
  go_wp2_with fail
  clear x0 x1 x2 x3 x4 u0 u1 u2 u3 u4
  have hn20 := Below.allocs v9 (.cells #[.int .u8 sk, .int .i64 sn, .int .i64 0, .string ⟨#[]⟩] 23)
  have Tn := Boxed.new v9 sk sn 0 ⟨#[]⟩ 23
  have A21 := A20.below hn20
  have B21 := B20.below hn20
  have C21 := C20.below hn20
  have X21 := X20.below hn20
  have Y21 := Y20.below hn20
  have Z21 := Z20.below hn20
  have U21 := U20.below hn20
  have hw21 := below_tr hw20 hn20
  clear A20 B20 C20 X20 Y20 Z20 U20
  have T21 := Tn
  clear Tn hn20
  refine (yes_is 2 0 0 ⟨#[]⟩ false (by decide) _).mono ?_
  rintro e v10 ⟨rfl, hv10⟩
  have A22 := A21.below hv10
  have B22 := B21.below hv10
  have C22 := C21.below hv10
  have X22 := X21.below hv10
  have Y22 := Y21.below hv10
  have Z22 := Z21.below hv10
  have U22 := U21.below hv10
  have T22 := T21.below hv10
  have hw22 := below_tr hw21 hv10
  clear A21 B21 C21 X21 Y21 Z21 U21 T21
  clear hv10
  have u' := U22
  obtain ⟨u0, u1, u2, u3, u4⟩ := u'
  go_wp2_with fail
  go_ret
  exact ⟨rfl, hw22⟩

set_option maxRecDepth 100000 in
set_option maxHeartbeats 4000000 in
theorem order_lt_T3 (k n u : Int) (t : ByteArray) (n' u' : Int) (t' : ByteArray) (k'' n'' u'' : Int) (t'' : ByteArray) (h1 : t.size ≤ 2000) (h2 : t'.size ≤ 2000) (h3 : t''.size ≤ 2000) (hx : lessR k n u t k n' u' t' = ⟨2, 1, 0⟩) (hy : lessR k n' u' t' k n u t = ⟨2, 0, 0⟩) (hz : equalR k n u t k n' u' t' = ⟨2, 0, 0⟩) (hk : (k == 0) = false) (rk rn : Int) (sk sn se : Int) (hp : lessR k n' u' t' k'' n'' u'' t'' = ⟨rk, rn, 0⟩) (hq : lessR k n u t k'' n'' u'' t'' = ⟨sk, sn, se⟩) (hu : yesB rk rn = false) (w : World) :
    Calls Try.prog 7 #[.agg #[.int .u8 k, .int .i64 n, .int .i64 u, .string t], .agg #[.int .u8 k, .int .i64 n', .int .i64 u', .string t'], .agg #[.int .u8 k'', .int .i64 n'', .int .i64 u'', .string t'']] w fun e w' => e = .returned (.bool true) ∧ Below w.heap.size w w' := by
  have Hhx := Lib.hid hx
  clear hx
  have Hhy := Lib.hid hy
  clear hy
  have Hhz := Lib.hid hz
  clear hz
  have Hhp := Lib.hid hp
  clear hp
  have Hhq := Lib.hid hq
  clear hq
  have Hhu := Lib.hid hu
  clear hu
  have hkk : (k != k) = false := by simp
  have d1 : decide (2000 < (t.size : Int)) = false := by simp; omega
  have d2 : decide (2000 < (t'.size : Int)) = false := by simp; omega
  have d3 : decide (2000 < (t''.size : Int)) = false := by simp; omega
  clear h1 h2 h3
  have hw0 := Below.refl w.heap.size w
  go_enter Try.func7, Try.ntmps7
  go_wp2_with fail
  have hn0 := Below.allocs w (.cells #[.int .u8 k, .int .i64 n, .int .i64 u, .string t] 23)
  have An := Boxed.new w k n u t 23
  have hw1 := below_tr hw0 hn0
  have A1 := An
  clear An hn0
  have hn1 := Below.allocs (w.alloc (.cells #[.int .u8 k, .int .i64 n, .int .i64 u, .string t] 23)) (.cells #[.int .u8 k, .int .i64 n', .int .i64 u', .string t'] 23)
  have Bn := Boxed.new (w.alloc (.cells #[.int .u8 k, .int .i64 n, .int .i64 u, .string t] 23)) k n' u' t' 23
  rw [show (w.alloc (.cells #[.int .u8 k, .int .i64 n, .int .i64 u, .string t] 23)).heap.size = w.heap.size + 1 by simp] at Bn
  have A2 := A1.below hn1
  have hw2 := below_tr hw1 hn1
  clear A1
  have B2 := Bn
  clear Bn hn1
  have hn2 := Below.allocs ((w.alloc (.cells #[.int .u8 k, .int .i64 n, .int .i64 u, .string t] 23)).alloc (.cells #[.int .u8 k, .int .i64 n', .int .i64 u', .string t'] 23)) (.cells #[.int .u8 k'', .int .i64 n'', .int .i64 u'', .string t''] 23)
  have Cn := Boxed.new ((w.alloc (.cells #[.int .u8 k, .int .i64 n, .int .i64 u, .string t] 23)).alloc (.cells #[.int .u8 k, .int .i64 n', .int .i64 u', .string t'] 23)) k'' n'' u'' t'' 23
  rw [show ((w.alloc (.cells #[.int .u8 k, .int .i64 n, .int .i64 u, .string t] 23)).alloc (.cells #[.int .u8 k, .int .i64 n', .int .i64 u', .string t'] 23)).heap.size = w.heap.size + 1 + 1 by simp] at Cn
  have A3 := A2.below hn2
  have B3 := B2.below hn2
  have hw3 := below_tr hw2 hn2
  clear A2 B2
  have C3 := Cn
  clear Cn hn2
  refine (awake_is _).mono ?_
  rintro e v1 ⟨rfl, hv1⟩
  have A4 := A3.below hv1
  have B4 := B3.below hv1
  have C4 := C3.below hv1
  have hw4 := below_tr hw3 hv1
  clear A3 B3 C3
  clear hv1
  have a' := A4
  obtain ⟨a0, a1, a2, a3, a4⟩ := a'
  have b' := B4
  obtain ⟨b0, b1, b2, b3, b4⟩ := b'
  go_wp2_with fail
  clear a0 a1 a2 a3 a4 b0 b1 b2 b3 b4
  refine (less_is k n u t k n' u' t' ⟨2, 1, 0⟩ Hhx.out _).mono ?_
  rintro e v2 ⟨rfl, hv2⟩
  have A5 := A4.below hv2
  have B5 := B4.below hv2
  have C5 := C4.below hv2
  have hw5 := below_tr hw4 hv2
  clear A4 B4 C4
  clear hv2
  have a' := A5
  obtain ⟨a0, a1, a2, a3, a4⟩ := a'
  have b' := B5
  obtain ⟨b0, b1, b2, b3, b4⟩ := b'
  go_wp2_with fail
  clear a0 a1 a2 a3 a4 b0 b1 b2 b3 b4
  have hn5 := Below.allocs v2 (.cells #[.int .u8 2, .int .i64 1, .int .i64 0, .string ⟨#[]⟩] 23)
  have Xn := Boxed.new v2 2 1 0 ⟨#[]⟩ 23
  have A6 := A5.below hn5
  have B6 := B5.below hn5
  have C6 := C5.below hn5
  have hw6 := below_tr hw5 hn5
  clear A5 B5 C5
  have X6 := Xn
  clear Xn hn5
  refine (less_is k n' u' t' k n u t ⟨2, 0, 0⟩ Hhy.out _).mono ?_
  rintro e v3 ⟨rfl, hv3⟩
  have A7 := A6.below hv3
  have B7 := B6.below hv3
  have C7 := C6.below hv3
  have X7 := X6.below hv3
  have hw7 := below_tr hw6 hv3
  clear A6 B6 C6 X6
  clear hv3
  have a' := A7
  obtain ⟨a0, a1, a2, a3, a4⟩ := a'
  have b' := B7
  obtain ⟨b0, b1, b2, b3, b4⟩ := b'
  go_wp2_with fail
  clear a0 a1 a2 a3 a4 b0 b1 b2 b3 b4
  have hn7 := Below.allocs v3 (.cells #[.int .u8 2, .int .i64 0, .int .i64 0, .string ⟨#[]⟩] 23)
  have Yn := Boxed.new v3 2 0 0 ⟨#[]⟩ 23
  have A8 := A7.below hn7
  have B8 := B7.below hn7
  have C8 := C7.below hn7
  have X8 := X7.below hn7
  have hw8 := below_tr hw7 hn7
  clear A7 B7 C7 X7
  have Y8 := Yn
  clear Yn hn7
  refine (equal_is k n u t k n' u' t' ⟨2, 0, 0⟩ Hhz.out _).mono ?_
  rintro e v4 ⟨rfl, hv4⟩
  have A9 := A8.below hv4
  have B9 := B8.below hv4
  have C9 := C8.below hv4
  have X9 := X8.below hv4
  have Y9 := Y8.below hv4
  have hw9 := below_tr hw8 hv4
  clear A8 B8 C8 X8 Y8
  clear hv4
  have a' := A9
  obtain ⟨a0, a1, a2, a3, a4⟩ := a'
  have b' := B9
  obtain ⟨b0, b1, b2, b3, b4⟩ := b'
  have x' := X9
  obtain ⟨x0, x1, x2, x3, x4⟩ := x'
  have y' := Y9
  obtain ⟨y0, y1, y2, y3, y4⟩ := y'
  go_wp2_with fail
  clear a0 a1 a2 a3 a4 b0 b1 b2 b3 b4 x0 x1 x2 x3 x4 y0 y1 y2 y3 y4
  have hn9 := Below.allocs v4 (.cells #[.int .u8 2, .int .i64 0, .int .i64 0, .string ⟨#[]⟩] 23)
  have Zn := Boxed.new v4 2 0 0 ⟨#[]⟩ 23
  have A10 := A9.below hn9
  have B10 := B9.below hn9
  have C10 := C9.below hn9
  have X10 := X9.below hn9
  have Y10 := Y9.below hn9
  have hw10 := below_tr hw9 hn9
  clear A9 B9 C9 X9 Y9
  have Z10 := Zn
  clear Zn hn9
  have hn10 := Below.allocs (v4.alloc (.cells #[.int .u8 2, .int .i64 0, .int .i64 0, .string ⟨#[]⟩] 23)) (.cells #[.int .u8 2, .int .i64 1, .int .i64 0, .string ⟨#[]⟩, .int .u8 2, .int .i64 0, .int .i64 0, .string ⟨#[]⟩, .int .u8 2, .int .i64 0, .int .i64 0, .string ⟨#[]⟩] 23)
  have ht10 := three_new (v4.alloc (.cells #[.int .u8 2, .int .i64 0, .int .i64 0, .string ⟨#[]⟩] 23)) 2 1 0 ⟨#[]⟩ 2 0 0 ⟨#[]⟩ 2 0 0 ⟨#[]⟩ 23
  rw [show (v4.alloc (.cells #[.int .u8 2, .int .i64 0, .int .i64 0, .string ⟨#[]⟩] 23)).heap.size = v4.heap.size + 1 by simp] at ht10
  obtain ⟨Pn, Qn, On⟩ := ht10
  have A11 := A10.below hn10
  have B11 := B10.below hn10
  have C11 := C10.below hn10
  have X11 := X10.below hn10
  have Y11 := Y10.below hn10
  have Z11 := Z10.below hn10
  have hw11 := below_tr hw10 hn10
  clear A10 B10 C10 X10 Y10 Z10
  have P11 := Pn
  clear Pn
  have Q11 := Qn
  clear Qn
  have O11 := On
  clear On
  clear hn10
  have p' := P11
  obtain ⟨p0, p1, p2, p3, p4⟩ := p'
  have q' := Q11
  obtain ⟨q0, q1, q2, q3, q4⟩ := q'
  have o' := O11
  obtain ⟨o0, o1, o2, o3, o4⟩ := o'
  refine wp_loop_rounds 4 ?_
  rw [rounds_succ]
  go_wp2_with fail
  clear p0 p1 p2 p3 p4 q0 q1 q2 q3 q4 o0 o1 o2 o3 o4
  have hn11 := Below.allocs ((v4.alloc (.cells #[.int .u8 2, .int .i64 0, .int .i64 0, .string ⟨#[]⟩] 23)).alloc (.cells #[.int .u8 2, .int .i64 1, .int .i64 0, .string ⟨#[]⟩, .int .u8 2, .int .i64 0, .int .i64 0, .string ⟨#[]⟩, .int .u8 2, .int .i64 0, .int .i64 0, .string ⟨#[]⟩] 23)) (.cells #[.int .u8 2, .int .i64 1, .int .i64 0, .string ⟨#[]⟩] 23)
  have L0n := Boxed.new ((v4.alloc (.cells #[.int .u8 2, .int .i64 0, .int .i64 0, .string ⟨#[]⟩] 23)).alloc (.cells #[.int .u8 2, .int .i64 1, .int .i64 0, .string ⟨#[]⟩, .int .u8 2, .int .i64 0, .int .i64 0, .string ⟨#[]⟩, .int .u8 2, .int .i64 0, .int .i64 0, .string ⟨#[]⟩] 23)) 2 1 0 ⟨#[]⟩ 23
  rw [show ((v4.alloc (.cells #[.int .u8 2, .int .i64 0, .int .i64 0, .string ⟨#[]⟩] 23)).alloc (.cells #[.int .u8 2, .int .i64 1, .int .i64 0, .string ⟨#[]⟩, .int .u8 2, .int .i64 0, .int .i64 0, .string ⟨#[]⟩, .int .u8 2, .int .i64 0, .int .i64 0, .string ⟨#[]⟩] 23)).heap.size = v4.heap.size + 1 + 1 by simp] at L0n
  have A12 := A11.below hn11
  have B12 := B11.below hn11
  have C12 := C11.below hn11
  have X12 := X11.below hn11
  have Y12 := Y11.below hn11
  have Z12 := Z11.below hn11
  have P12 := P11.below hn11
  have Q12 := Q11.below hn11
  have O12 := O11.below hn11
  have hw12 := below_tr hw11 hn11
  clear A11 B11 C11 X11 Y11 Z11 P11 Q11 O11
  have L012 := L0n
  clear L0n hn11
  refine (yes_is 2 1 0 ⟨#[]⟩ true (by decide) _).mono ?_
  rintro e v5 ⟨rfl, hv5⟩
  have A13 := A12.below hv5
  have B13 := B12.below hv5
  have C13 := C12.below hv5
  have X13 := X12.below hv5
  have Y13 := Y12.below hv5
  have Z13 := Z12.below hv5
  have P13 := P12.below hv5
  have Q13 := Q12.below hv5
  have O13 := O12.below hv5
  have L013 := L012.below hv5
  have hw13 := below_tr hw12 hv5
  clear A12 B12 C12 X12 Y12 Z12 P12 Q12 O12 L012
  clear hv5
  have p' := P13
  obtain ⟨p0, p1, p2, p3, p4⟩ := p'
  have q' := Q13
  obtain ⟨q0, q1, q2, q3, q4⟩ := q'
  have o' := O13
  obtain ⟨o0, o1, o2, o3, o4⟩ := o'
  go_wp2_with fail
  clear L013
  rw [rounds_succ]
  go_wp2_with fail
  clear p0 p1 p2 p3 p4 q0 q1 q2 q3 q4 o0 o1 o2 o3 o4
  have hn13 := Below.allocs v5 (.cells #[.int .u8 2, .int .i64 0, .int .i64 0, .string ⟨#[]⟩] 23)
  have L1n := Boxed.new v5 2 0 0 ⟨#[]⟩ 23
  have A14 := A13.below hn13
  have B14 := B13.below hn13
  have C14 := C13.below hn13
  have X14 := X13.below hn13
  have Y14 := Y13.below hn13
  have Z14 := Z13.below hn13
  have P14 := P13.below hn13
  have Q14 := Q13.below hn13
  have O14 := O13.below hn13
  have hw14 := below_tr hw13 hn13
  clear A13 B13 C13 X13 Y13 Z13 P13 Q13 O13
  have L114 := L1n
  clear L1n hn13
  refine (yes_is 2 0 0 ⟨#[]⟩ false (by decide) _).mono ?_
  rintro e v6 ⟨rfl, hv6⟩
  have A15 := A14.below hv6
  have B15 := B14.below hv6
  have C15 := C14.below hv6
  have X15 := X14.below hv6
  have Y15 := Y14.below hv6
  have Z15 := Z14.below hv6
  have P15 := P14.below hv6
  have Q15 := Q14.below hv6
  have O15 := O14.below hv6
  have L115 := L114.below hv6
  have hw15 := below_tr hw14 hv6
  clear A14 B14 C14 X14 Y14 Z14 P14 Q14 O14 L114
  clear hv6
  have p' := P15
  obtain ⟨p0, p1, p2, p3, p4⟩ := p'
  have q' := Q15
  obtain ⟨q0, q1, q2, q3, q4⟩ := q'
  have o' := O15
  obtain ⟨o0, o1, o2, o3, o4⟩ := o'
  go_wp2_with fail
  clear L115
  rw [rounds_succ]
  go_wp2_with fail
  clear p0 p1 p2 p3 p4 q0 q1 q2 q3 q4 o0 o1 o2 o3 o4
  have hn15 := Below.allocs v6 (.cells #[.int .u8 2, .int .i64 0, .int .i64 0, .string ⟨#[]⟩] 23)
  have L2n := Boxed.new v6 2 0 0 ⟨#[]⟩ 23
  have A16 := A15.below hn15
  have B16 := B15.below hn15
  have C16 := C15.below hn15
  have X16 := X15.below hn15
  have Y16 := Y15.below hn15
  have Z16 := Z15.below hn15
  have P16 := P15.below hn15
  have Q16 := Q15.below hn15
  have O16 := O15.below hn15
  have hw16 := below_tr hw15 hn15
  clear A15 B15 C15 X15 Y15 Z15 P15 Q15 O15
  have L216 := L2n
  clear L2n hn15
  refine (yes_is 2 0 0 ⟨#[]⟩ false (by decide) _).mono ?_
  rintro e v7 ⟨rfl, hv7⟩
  have A17 := A16.below hv7
  have B17 := B16.below hv7
  have C17 := C16.below hv7
  have X17 := X16.below hv7
  have Y17 := Y16.below hv7
  have Z17 := Z16.below hv7
  have P17 := P16.below hv7
  have Q17 := Q16.below hv7
  have O17 := O16.below hv7
  have L217 := L216.below hv7
  have hw17 := below_tr hw16 hv7
  clear A16 B16 C16 X16 Y16 Z16 P16 Q16 O16 L216
  clear hv7
  have p' := P17
  obtain ⟨p0, p1, p2, p3, p4⟩ := p'
  have q' := Q17
  obtain ⟨q0, q1, q2, q3, q4⟩ := q'
  have o' := O17
  obtain ⟨o0, o1, o2, o3, o4⟩ := o'
  go_wp2_with fail
  clear L217
  clear P17
  clear Q17
  clear O17
  clear p0 p1 p2 p3 p4 q0 q1 q2 q3 q4 o0 o1 o2 o3 o4
  have a' := A17
  obtain ⟨a0, a1, a2, a3, a4⟩ := a'
  have b' := B17
  obtain ⟨b0, b1, b2, b3, b4⟩ := b'
  have c' := C17
  obtain ⟨c0, c1, c2, c3, c4⟩ := c'
  have x' := X17
  obtain ⟨x0, x1, x2, x3, x4⟩ := x'
  have y' := Y17
  obtain ⟨y0, y1, y2, y3, y4⟩ := y'
  have z' := Z17
  obtain ⟨z0, z1, z2, z3, z4⟩ := z'
  rw [rounds_succ]
  go_wp2_with fail
  clear a0 a1 a2 a3 a4 b0 b1 b2 b3 b4 c0 c1 c2 c3 c4 x0 x1 x2 x3 x4 y0 y1 y2 y3 y4 z0 z1 z2 z3 z4
  refine (less_is k n' u' t' k'' n'' u'' t'' ⟨rk, rn, 0⟩ Hhp.out _).mono ?_
  rintro e v8 ⟨rfl, hv8⟩
  have A18 := A17.below hv8
  have B18 := B17.below hv8
  have C18 := C17.below hv8
  have X18 := X17.below hv8
  have Y18 := Y17.below hv8
  have Z18 := Z17.below hv8
  have hw18 := below_tr hw17 hv8
  clear A17 B17 C17 X17 Y17 Z17
  clear hv8
  have a' := A18
  obtain ⟨a0, a1, a2, a3, a4⟩ := a'
  have c' := C18
  obtain ⟨c0, c1, c2, c3, c4⟩ := c'
  have x' := X18
  obtain ⟨x0, x1, x2, x3, x4⟩ := x'
  go_wp2_with fail
  clear a0 a1 a2 a3 a4 c0 c1 c2 c3 c4 x0 x1 x2 x3 x4
  have hn18 := Below.allocs v8 (.cells #[.int .u8 rk, .int .i64 rn, .int .i64 0, .string ⟨#[]⟩] 23)
  have Un := Boxed.new v8 rk rn 0 ⟨#[]⟩ 23
  have A19 := A18.below hn18
  have B19 := B18.below hn18
  have C19 := C18.below hn18
  have X19 := X18.below hn18
  have Y19 := Y18.below hn18
  have Z19 := Z18.below hn18
  have hw19 := below_tr hw18 hn18
  clear A18 B18 C18 X18 Y18 Z18
  have U19 := Un
  clear Un hn18
  refine (less_is k n u t k'' n'' u'' t'' ⟨sk, sn, se⟩ Hhq.out _).mono ?_
  rintro e v9 ⟨rfl, hv9⟩
  have A20 := A19.below hv9
  have B20 := B19.below hv9
  have C20 := C19.below hv9
  have X20 := X19.below hv9
  have Y20 := Y19.below hv9
  have Z20 := Z19.below hv9
  have U20 := U19.below hv9
  have hw20 := below_tr hw19 hv9
  clear A19 B19 C19 X19 Y19 Z19 U19
  clear hv9
  have x' := X20
  obtain ⟨x0, x1, x2, x3, x4⟩ := x'
  have u' := U20
  obtain ⟨u0, u1, u2, u3, u4⟩ := u'
  go_wp2_with fail
  clear x0 x1 x2 x3 x4 u0 u1 u2 u3 u4
  have hn20 := Below.allocs v9 (.cells #[.int .u8 sk, .int .i64 sn, .int .i64 0, .string ⟨#[]⟩] 23)
  have Tn := Boxed.new v9 sk sn 0 ⟨#[]⟩ 23
  have A21 := A20.below hn20
  have B21 := B20.below hn20
  have C21 := C20.below hn20
  have X21 := X20.below hn20
  have Y21 := Y20.below hn20
  have Z21 := Z20.below hn20
  have U21 := U20.below hn20
  have hw21 := below_tr hw20 hn20
  clear A20 B20 C20 X20 Y20 Z20 U20
  have T21 := Tn
  clear Tn hn20
  refine (yes_is 2 1 0 ⟨#[]⟩ true (by decide) _).mono ?_
  rintro e v10 ⟨rfl, hv10⟩
  have A22 := A21.below hv10
  have B22 := B21.below hv10
  have C22 := C21.below hv10
  have X22 := X21.below hv10
  have Y22 := Y21.below hv10
  have Z22 := Z21.below hv10
  have U22 := U21.below hv10
  have T22 := T21.below hv10
  have hw22 := below_tr hw21 hv10
  clear A21 B21 C21 X21 Y21 Z21 U21 T21
  clear hv10
  have u' := U22
  obtain ⟨u0, u1, u2, u3, u4⟩ := u'
  have t' := T22
  obtain ⟨t0, t1, t2, t3, t4⟩ := t'
  go_wp2_with fail
  clear u0 u1 u2 u3 u4 t0 t1 t2 t3 t4
  refine (yes_is rk rn 0 ⟨#[]⟩ false Hhu.out _).mono ?_
  rintro e v11 ⟨rfl, hv11⟩
  have A23 := A22.below hv11
  have B23 := B22.below hv11
  have C23 := C22.below hv11
  have X23 := X22.below hv11
  have Y23 := Y22.below hv11
  have Z23 := Z22.below hv11
  have U23 := U22.below hv11
  have T23 := T22.below hv11
  have hw23 := below_tr hw22 hv11
  clear A22 B22 C22 X22 Y22 Z22 U22 T22
  clear hv11
  go_wp2_with fail
  go_ret
  exact ⟨rfl, hw23⟩

set_option maxRecDepth 100000 in
set_option maxHeartbeats 4000000 in
theorem order_lt_T4 (k n u : Int) (t : ByteArray) (n' u' : Int) (t' : ByteArray) (k'' n'' u'' : Int) (t'' : ByteArray) (h1 : t.size ≤ 2000) (h2 : t'.size ≤ 2000) (h3 : t''.size ≤ 2000) (hx : lessR k n u t k n' u' t' = ⟨2, 1, 0⟩) (hy : lessR k n' u' t' k n u t = ⟨2, 0, 0⟩) (hz : equalR k n u t k n' u' t' = ⟨2, 0, 0⟩) (hk : (k == 0) = false) (hp : lessR k n' u' t' k'' n'' u'' t'' = ⟨2, 1, 0⟩) (hq : lessR k n u t k'' n'' u'' t'' = ⟨2, 1, 0⟩) (w : World) :
    Calls Try.prog 7 #[.agg #[.int .u8 k, .int .i64 n, .int .i64 u, .string t], .agg #[.int .u8 k, .int .i64 n', .int .i64 u', .string t'], .agg #[.int .u8 k'', .int .i64 n'', .int .i64 u'', .string t'']] w fun e w' => e = .returned (.bool true) ∧ Below w.heap.size w w' := by
  have Hhx := Lib.hid hx
  clear hx
  have Hhy := Lib.hid hy
  clear hy
  have Hhz := Lib.hid hz
  clear hz
  have Hhp := Lib.hid hp
  clear hp
  have Hhq := Lib.hid hq
  clear hq
  have hkk : (k != k) = false := by simp
  have d1 : decide (2000 < (t.size : Int)) = false := by simp; omega
  have d2 : decide (2000 < (t'.size : Int)) = false := by simp; omega
  have d3 : decide (2000 < (t''.size : Int)) = false := by simp; omega
  clear h1 h2 h3
  have hw0 := Below.refl w.heap.size w
  go_enter Try.func7, Try.ntmps7
  go_wp2_with fail
  have hn0 := Below.allocs w (.cells #[.int .u8 k, .int .i64 n, .int .i64 u, .string t] 23)
  have An := Boxed.new w k n u t 23
  have hw1 := below_tr hw0 hn0
  have A1 := An
  clear An hn0
  have hn1 := Below.allocs (w.alloc (.cells #[.int .u8 k, .int .i64 n, .int .i64 u, .string t] 23)) (.cells #[.int .u8 k, .int .i64 n', .int .i64 u', .string t'] 23)
  have Bn := Boxed.new (w.alloc (.cells #[.int .u8 k, .int .i64 n, .int .i64 u, .string t] 23)) k n' u' t' 23
  rw [show (w.alloc (.cells #[.int .u8 k, .int .i64 n, .int .i64 u, .string t] 23)).heap.size = w.heap.size + 1 by simp] at Bn
  have A2 := A1.below hn1
  have hw2 := below_tr hw1 hn1
  clear A1
  have B2 := Bn
  clear Bn hn1
  have hn2 := Below.allocs ((w.alloc (.cells #[.int .u8 k, .int .i64 n, .int .i64 u, .string t] 23)).alloc (.cells #[.int .u8 k, .int .i64 n', .int .i64 u', .string t'] 23)) (.cells #[.int .u8 k'', .int .i64 n'', .int .i64 u'', .string t''] 23)
  have Cn := Boxed.new ((w.alloc (.cells #[.int .u8 k, .int .i64 n, .int .i64 u, .string t] 23)).alloc (.cells #[.int .u8 k, .int .i64 n', .int .i64 u', .string t'] 23)) k'' n'' u'' t'' 23
  rw [show ((w.alloc (.cells #[.int .u8 k, .int .i64 n, .int .i64 u, .string t] 23)).alloc (.cells #[.int .u8 k, .int .i64 n', .int .i64 u', .string t'] 23)).heap.size = w.heap.size + 1 + 1 by simp] at Cn
  have A3 := A2.below hn2
  have B3 := B2.below hn2
  have hw3 := below_tr hw2 hn2
  clear A2 B2
  have C3 := Cn
  clear Cn hn2
  refine (awake_is _).mono ?_
  rintro e v1 ⟨rfl, hv1⟩
  have A4 := A3.below hv1
  have B4 := B3.below hv1
  have C4 := C3.below hv1
  have hw4 := below_tr hw3 hv1
  clear A3 B3 C3
  clear hv1
  have a' := A4
  obtain ⟨a0, a1, a2, a3, a4⟩ := a'
  have b' := B4
  obtain ⟨b0, b1, b2, b3, b4⟩ := b'
  go_wp2_with fail
  clear a0 a1 a2 a3 a4 b0 b1 b2 b3 b4
  refine (less_is k n u t k n' u' t' ⟨2, 1, 0⟩ Hhx.out _).mono ?_
  rintro e v2 ⟨rfl, hv2⟩
  have A5 := A4.below hv2
  have B5 := B4.below hv2
  have C5 := C4.below hv2
  have hw5 := below_tr hw4 hv2
  clear A4 B4 C4
  clear hv2
  have a' := A5
  obtain ⟨a0, a1, a2, a3, a4⟩ := a'
  have b' := B5
  obtain ⟨b0, b1, b2, b3, b4⟩ := b'
  go_wp2_with fail
  clear a0 a1 a2 a3 a4 b0 b1 b2 b3 b4
  have hn5 := Below.allocs v2 (.cells #[.int .u8 2, .int .i64 1, .int .i64 0, .string ⟨#[]⟩] 23)
  have Xn := Boxed.new v2 2 1 0 ⟨#[]⟩ 23
  have A6 := A5.below hn5
  have B6 := B5.below hn5
  have C6 := C5.below hn5
  have hw6 := below_tr hw5 hn5
  clear A5 B5 C5
  have X6 := Xn
  clear Xn hn5
  refine (less_is k n' u' t' k n u t ⟨2, 0, 0⟩ Hhy.out _).mono ?_
  rintro e v3 ⟨rfl, hv3⟩
  have A7 := A6.below hv3
  have B7 := B6.below hv3
  have C7 := C6.below hv3
  have X7 := X6.below hv3
  have hw7 := below_tr hw6 hv3
  clear A6 B6 C6 X6
  clear hv3
  have a' := A7
  obtain ⟨a0, a1, a2, a3, a4⟩ := a'
  have b' := B7
  obtain ⟨b0, b1, b2, b3, b4⟩ := b'
  go_wp2_with fail
  clear a0 a1 a2 a3 a4 b0 b1 b2 b3 b4
  have hn7 := Below.allocs v3 (.cells #[.int .u8 2, .int .i64 0, .int .i64 0, .string ⟨#[]⟩] 23)
  have Yn := Boxed.new v3 2 0 0 ⟨#[]⟩ 23
  have A8 := A7.below hn7
  have B8 := B7.below hn7
  have C8 := C7.below hn7
  have X8 := X7.below hn7
  have hw8 := below_tr hw7 hn7
  clear A7 B7 C7 X7
  have Y8 := Yn
  clear Yn hn7
  refine (equal_is k n u t k n' u' t' ⟨2, 0, 0⟩ Hhz.out _).mono ?_
  rintro e v4 ⟨rfl, hv4⟩
  have A9 := A8.below hv4
  have B9 := B8.below hv4
  have C9 := C8.below hv4
  have X9 := X8.below hv4
  have Y9 := Y8.below hv4
  have hw9 := below_tr hw8 hv4
  clear A8 B8 C8 X8 Y8
  clear hv4
  have a' := A9
  obtain ⟨a0, a1, a2, a3, a4⟩ := a'
  have b' := B9
  obtain ⟨b0, b1, b2, b3, b4⟩ := b'
  have x' := X9
  obtain ⟨x0, x1, x2, x3, x4⟩ := x'
  have y' := Y9
  obtain ⟨y0, y1, y2, y3, y4⟩ := y'
  go_wp2_with fail
  clear a0 a1 a2 a3 a4 b0 b1 b2 b3 b4 x0 x1 x2 x3 x4 y0 y1 y2 y3 y4
  have hn9 := Below.allocs v4 (.cells #[.int .u8 2, .int .i64 0, .int .i64 0, .string ⟨#[]⟩] 23)
  have Zn := Boxed.new v4 2 0 0 ⟨#[]⟩ 23
  have A10 := A9.below hn9
  have B10 := B9.below hn9
  have C10 := C9.below hn9
  have X10 := X9.below hn9
  have Y10 := Y9.below hn9
  have hw10 := below_tr hw9 hn9
  clear A9 B9 C9 X9 Y9
  have Z10 := Zn
  clear Zn hn9
  have hn10 := Below.allocs (v4.alloc (.cells #[.int .u8 2, .int .i64 0, .int .i64 0, .string ⟨#[]⟩] 23)) (.cells #[.int .u8 2, .int .i64 1, .int .i64 0, .string ⟨#[]⟩, .int .u8 2, .int .i64 0, .int .i64 0, .string ⟨#[]⟩, .int .u8 2, .int .i64 0, .int .i64 0, .string ⟨#[]⟩] 23)
  have ht10 := three_new (v4.alloc (.cells #[.int .u8 2, .int .i64 0, .int .i64 0, .string ⟨#[]⟩] 23)) 2 1 0 ⟨#[]⟩ 2 0 0 ⟨#[]⟩ 2 0 0 ⟨#[]⟩ 23
  rw [show (v4.alloc (.cells #[.int .u8 2, .int .i64 0, .int .i64 0, .string ⟨#[]⟩] 23)).heap.size = v4.heap.size + 1 by simp] at ht10
  obtain ⟨Pn, Qn, On⟩ := ht10
  have A11 := A10.below hn10
  have B11 := B10.below hn10
  have C11 := C10.below hn10
  have X11 := X10.below hn10
  have Y11 := Y10.below hn10
  have Z11 := Z10.below hn10
  have hw11 := below_tr hw10 hn10
  clear A10 B10 C10 X10 Y10 Z10
  have P11 := Pn
  clear Pn
  have Q11 := Qn
  clear Qn
  have O11 := On
  clear On
  clear hn10
  have p' := P11
  obtain ⟨p0, p1, p2, p3, p4⟩ := p'
  have q' := Q11
  obtain ⟨q0, q1, q2, q3, q4⟩ := q'
  have o' := O11
  obtain ⟨o0, o1, o2, o3, o4⟩ := o'
  refine wp_loop_rounds 4 ?_
  rw [rounds_succ]
  go_wp2_with fail
  clear p0 p1 p2 p3 p4 q0 q1 q2 q3 q4 o0 o1 o2 o3 o4
  have hn11 := Below.allocs ((v4.alloc (.cells #[.int .u8 2, .int .i64 0, .int .i64 0, .string ⟨#[]⟩] 23)).alloc (.cells #[.int .u8 2, .int .i64 1, .int .i64 0, .string ⟨#[]⟩, .int .u8 2, .int .i64 0, .int .i64 0, .string ⟨#[]⟩, .int .u8 2, .int .i64 0, .int .i64 0, .string ⟨#[]⟩] 23)) (.cells #[.int .u8 2, .int .i64 1, .int .i64 0, .string ⟨#[]⟩] 23)
  have L0n := Boxed.new ((v4.alloc (.cells #[.int .u8 2, .int .i64 0, .int .i64 0, .string ⟨#[]⟩] 23)).alloc (.cells #[.int .u8 2, .int .i64 1, .int .i64 0, .string ⟨#[]⟩, .int .u8 2, .int .i64 0, .int .i64 0, .string ⟨#[]⟩, .int .u8 2, .int .i64 0, .int .i64 0, .string ⟨#[]⟩] 23)) 2 1 0 ⟨#[]⟩ 23
  rw [show ((v4.alloc (.cells #[.int .u8 2, .int .i64 0, .int .i64 0, .string ⟨#[]⟩] 23)).alloc (.cells #[.int .u8 2, .int .i64 1, .int .i64 0, .string ⟨#[]⟩, .int .u8 2, .int .i64 0, .int .i64 0, .string ⟨#[]⟩, .int .u8 2, .int .i64 0, .int .i64 0, .string ⟨#[]⟩] 23)).heap.size = v4.heap.size + 1 + 1 by simp] at L0n
  have A12 := A11.below hn11
  have B12 := B11.below hn11
  have C12 := C11.below hn11
  have X12 := X11.below hn11
  have Y12 := Y11.below hn11
  have Z12 := Z11.below hn11
  have P12 := P11.below hn11
  have Q12 := Q11.below hn11
  have O12 := O11.below hn11
  have hw12 := below_tr hw11 hn11
  clear A11 B11 C11 X11 Y11 Z11 P11 Q11 O11
  have L012 := L0n
  clear L0n hn11
  refine (yes_is 2 1 0 ⟨#[]⟩ true (by decide) _).mono ?_
  rintro e v5 ⟨rfl, hv5⟩
  have A13 := A12.below hv5
  have B13 := B12.below hv5
  have C13 := C12.below hv5
  have X13 := X12.below hv5
  have Y13 := Y12.below hv5
  have Z13 := Z12.below hv5
  have P13 := P12.below hv5
  have Q13 := Q12.below hv5
  have O13 := O12.below hv5
  have L013 := L012.below hv5
  have hw13 := below_tr hw12 hv5
  clear A12 B12 C12 X12 Y12 Z12 P12 Q12 O12 L012
  clear hv5
  have p' := P13
  obtain ⟨p0, p1, p2, p3, p4⟩ := p'
  have q' := Q13
  obtain ⟨q0, q1, q2, q3, q4⟩ := q'
  have o' := O13
  obtain ⟨o0, o1, o2, o3, o4⟩ := o'
  go_wp2_with fail
  clear L013
  rw [rounds_succ]
  go_wp2_with fail
  clear p0 p1 p2 p3 p4 q0 q1 q2 q3 q4 o0 o1 o2 o3 o4
  have hn13 := Below.allocs v5 (.cells #[.int .u8 2, .int .i64 0, .int .i64 0, .string ⟨#[]⟩] 23)
  have L1n := Boxed.new v5 2 0 0 ⟨#[]⟩ 23
  have A14 := A13.below hn13
  have B14 := B13.below hn13
  have C14 := C13.below hn13
  have X14 := X13.below hn13
  have Y14 := Y13.below hn13
  have Z14 := Z13.below hn13
  have P14 := P13.below hn13
  have Q14 := Q13.below hn13
  have O14 := O13.below hn13
  have hw14 := below_tr hw13 hn13
  clear A13 B13 C13 X13 Y13 Z13 P13 Q13 O13
  have L114 := L1n
  clear L1n hn13
  refine (yes_is 2 0 0 ⟨#[]⟩ false (by decide) _).mono ?_
  rintro e v6 ⟨rfl, hv6⟩
  have A15 := A14.below hv6
  have B15 := B14.below hv6
  have C15 := C14.below hv6
  have X15 := X14.below hv6
  have Y15 := Y14.below hv6
  have Z15 := Z14.below hv6
  have P15 := P14.below hv6
  have Q15 := Q14.below hv6
  have O15 := O14.below hv6
  have L115 := L114.below hv6
  have hw15 := below_tr hw14 hv6
  clear A14 B14 C14 X14 Y14 Z14 P14 Q14 O14 L114
  clear hv6
  have p' := P15
  obtain ⟨p0, p1, p2, p3, p4⟩ := p'
  have q' := Q15
  obtain ⟨q0, q1, q2, q3, q4⟩ := q'
  have o' := O15
  obtain ⟨o0, o1, o2, o3, o4⟩ := o'
  go_wp2_with fail
  clear L115
  rw [rounds_succ]
  go_wp2_with fail
  clear p0 p1 p2 p3 p4 q0 q1 q2 q3 q4 o0 o1 o2 o3 o4
  have hn15 := Below.allocs v6 (.cells #[.int .u8 2, .int .i64 0, .int .i64 0, .string ⟨#[]⟩] 23)
  have L2n := Boxed.new v6 2 0 0 ⟨#[]⟩ 23
  have A16 := A15.below hn15
  have B16 := B15.below hn15
  have C16 := C15.below hn15
  have X16 := X15.below hn15
  have Y16 := Y15.below hn15
  have Z16 := Z15.below hn15
  have P16 := P15.below hn15
  have Q16 := Q15.below hn15
  have O16 := O15.below hn15
  have hw16 := below_tr hw15 hn15
  clear A15 B15 C15 X15 Y15 Z15 P15 Q15 O15
  have L216 := L2n
  clear L2n hn15
  refine (yes_is 2 0 0 ⟨#[]⟩ false (by decide) _).mono ?_
  rintro e v7 ⟨rfl, hv7⟩
  have A17 := A16.below hv7
  have B17 := B16.below hv7
  have C17 := C16.below hv7
  have X17 := X16.below hv7
  have Y17 := Y16.below hv7
  have Z17 := Z16.below hv7
  have P17 := P16.below hv7
  have Q17 := Q16.below hv7
  have O17 := O16.below hv7
  have L217 := L216.below hv7
  have hw17 := below_tr hw16 hv7
  clear A16 B16 C16 X16 Y16 Z16 P16 Q16 O16 L216
  clear hv7
  have p' := P17
  obtain ⟨p0, p1, p2, p3, p4⟩ := p'
  have q' := Q17
  obtain ⟨q0, q1, q2, q3, q4⟩ := q'
  have o' := O17
  obtain ⟨o0, o1, o2, o3, o4⟩ := o'
  go_wp2_with fail
  clear L217
  clear P17
  clear Q17
  clear O17
  clear p0 p1 p2 p3 p4 q0 q1 q2 q3 q4 o0 o1 o2 o3 o4
  have a' := A17
  obtain ⟨a0, a1, a2, a3, a4⟩ := a'
  have b' := B17
  obtain ⟨b0, b1, b2, b3, b4⟩ := b'
  have c' := C17
  obtain ⟨c0, c1, c2, c3, c4⟩ := c'
  have x' := X17
  obtain ⟨x0, x1, x2, x3, x4⟩ := x'
  have y' := Y17
  obtain ⟨y0, y1, y2, y3, y4⟩ := y'
  have z' := Z17
  obtain ⟨z0, z1, z2, z3, z4⟩ := z'
  rw [rounds_succ]
  go_wp2_with fail
  clear a0 a1 a2 a3 a4 b0 b1 b2 b3 b4 c0 c1 c2 c3 c4 x0 x1 x2 x3 x4 y0 y1 y2 y3 y4 z0 z1 z2 z3 z4
  refine (less_is k n' u' t' k'' n'' u'' t'' ⟨2, 1, 0⟩ Hhp.out _).mono ?_
  rintro e v8 ⟨rfl, hv8⟩
  have A18 := A17.below hv8
  have B18 := B17.below hv8
  have C18 := C17.below hv8
  have X18 := X17.below hv8
  have Y18 := Y17.below hv8
  have Z18 := Z17.below hv8
  have hw18 := below_tr hw17 hv8
  clear A17 B17 C17 X17 Y17 Z17
  clear hv8
  have a' := A18
  obtain ⟨a0, a1, a2, a3, a4⟩ := a'
  have c' := C18
  obtain ⟨c0, c1, c2, c3, c4⟩ := c'
  have x' := X18
  obtain ⟨x0, x1, x2, x3, x4⟩ := x'
  go_wp2_with fail
  clear a0 a1 a2 a3 a4 c0 c1 c2 c3 c4 x0 x1 x2 x3 x4
  have hn18 := Below.allocs v8 (.cells #[.int .u8 2, .int .i64 1, .int .i64 0, .string ⟨#[]⟩] 23)
  have Un := Boxed.new v8 2 1 0 ⟨#[]⟩ 23
  have A19 := A18.below hn18
  have B19 := B18.below hn18
  have C19 := C18.below hn18
  have X19 := X18.below hn18
  have Y19 := Y18.below hn18
  have Z19 := Z18.below hn18
  have hw19 := below_tr hw18 hn18
  clear A18 B18 C18 X18 Y18 Z18
  have U19 := Un
  clear Un hn18
  refine (less_is k n u t k'' n'' u'' t'' ⟨2, 1, 0⟩ Hhq.out _).mono ?_
  rintro e v9 ⟨rfl, hv9⟩
  have A20 := A19.below hv9
  have B20 := B19.below hv9
  have C20 := C19.below hv9
  have X20 := X19.below hv9
  have Y20 := Y19.below hv9
  have Z20 := Z19.below hv9
  have U20 := U19.below hv9
  have hw20 := below_tr hw19 hv9
  clear A19 B19 C19 X19 Y19 Z19 U19
  clear hv9
  have x' := X20
  obtain ⟨x0, x1, x2, x3, x4⟩ := x'
  have u' := U20
  obtain ⟨u0, u1, u2, u3, u4⟩ := u'
  go_wp2_with fail
  clear x0 x1 x2 x3 x4 u0 u1 u2 u3 u4
  have hn20 := Below.allocs v9 (.cells #[.int .u8 2, .int .i64 1, .int .i64 0, .string ⟨#[]⟩] 23)
  have Tn := Boxed.new v9 2 1 0 ⟨#[]⟩ 23
  have A21 := A20.below hn20
  have B21 := B20.below hn20
  have C21 := C20.below hn20
  have X21 := X20.below hn20
  have Y21 := Y20.below hn20
  have Z21 := Z20.below hn20
  have U21 := U20.below hn20
  have hw21 := below_tr hw20 hn20
  clear A20 B20 C20 X20 Y20 Z20 U20
  have T21 := Tn
  clear Tn hn20
  refine (yes_is 2 1 0 ⟨#[]⟩ true (by decide) _).mono ?_
  rintro e v10 ⟨rfl, hv10⟩
  have A22 := A21.below hv10
  have B22 := B21.below hv10
  have C22 := C21.below hv10
  have X22 := X21.below hv10
  have Y22 := Y21.below hv10
  have Z22 := Z21.below hv10
  have U22 := U21.below hv10
  have T22 := T21.below hv10
  have hw22 := below_tr hw21 hv10
  clear A21 B21 C21 X21 Y21 Z21 U21 T21
  clear hv10
  have u' := U22
  obtain ⟨u0, u1, u2, u3, u4⟩ := u'
  have t' := T22
  obtain ⟨t0, t1, t2, t3, t4⟩ := t'
  go_wp2_with fail
  clear u0 u1 u2 u3 u4 t0 t1 t2 t3 t4
  refine (yes_is 2 1 0 ⟨#[]⟩ true (by decide) _).mono ?_
  rintro e v11 ⟨rfl, hv11⟩
  have A23 := A22.below hv11
  have B23 := B22.below hv11
  have C23 := C22.below hv11
  have X23 := X22.below hv11
  have Y23 := Y22.below hv11
  have Z23 := Z22.below hv11
  have U23 := U22.below hv11
  have T23 := T22.below hv11
  have hw23 := below_tr hw22 hv11
  clear A22 B22 C22 X22 Y22 Z22 U22 T22
  clear hv11
  have t' := T23
  obtain ⟨t0, t1, t2, t3, t4⟩ := t'
  go_wp2_with fail
  clear t0 t1 t2 t3 t4
  refine (yes_is 2 1 0 ⟨#[]⟩ true (by decide) _).mono ?_
  rintro e v12 ⟨rfl, hv12⟩
  have A24 := A23.below hv12
  have B24 := B23.below hv12
  have C24 := C23.below hv12
  have X24 := X23.below hv12
  have Y24 := Y23.below hv12
  have Z24 := Z23.below hv12
  have U24 := U23.below hv12
  have T24 := T23.below hv12
  have hw24 := below_tr hw23 hv12
  clear A23 B23 C23 X23 Y23 Z23 U23 T23
  clear hv12
  go_wp2_with fail
  go_ret
  exact ⟨rfl, hw24⟩

end Go.Proofs.Ytmbjhahlbbhdaaa
