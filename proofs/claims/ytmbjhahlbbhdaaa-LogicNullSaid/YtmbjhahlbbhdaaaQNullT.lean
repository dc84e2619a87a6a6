/-
  The law LogicNull (yes): it answers true, and of what was there nothing has turned.
-/
import Derived.Test.YtmbjhahlbbhdaaaQNull
namespace Go.Proofs.Ytmbjhahlbbhdaaa
open Go.RowKit

set_option maxRecDepth 100000 in
set_option maxHeartbeats 8000000 in
theorem null_T (k n u : Int) (t : ByteArray) (h1 : t.size ≤ 2000) (hn : I64 n) (e : Int) (ha1 : calcR k 0 (n + 0) = ⟨0, 0, e⟩) (ha2 : calcR 0 k (0 + n) = ⟨0, 0, e⟩) (hs1 : calcR k 0 (n - 0) = ⟨0, 0, e⟩) (hs2 : calcR 0 k (0 - n) = ⟨0, 0, e⟩) (hm1 : calcR k 0 (n * 0) = ⟨0, 0, e⟩) (hm2 : calcR 0 k (0 * n) = ⟨0, 0, e⟩) (hq1 : equalR k n u t 0 0 0 ⟨#[]⟩ = ⟨0, 0, 0⟩) (hq2 : equalR 0 0 0 ⟨#[]⟩ k n u t = ⟨0, 0, 0⟩) (hl1 : lessR k n u t 0 0 0 ⟨#[]⟩ = ⟨0, 0, 0⟩) (hl2 : lessR 0 0 0 ⟨#[]⟩ k n u t = ⟨0, 0, 0⟩) (hc1 : connectR k n 0 0 false = ⟨0, 0, 0⟩) (hc2 : connectR 0 0 k n true = ⟨2, 1, 0⟩) (hz : nullB k = false) (hy : yesB k n = true) (k0 : (k == 0) = false) (k2 : (k == 2) = true) (w : World) :
    Calls Try.prog 8 #[.agg #[.int .u8 k, .int .i64 n, .int .i64 u, .string t]] w fun e w' => e = .returned (.bool true) ∧ Below w.heap.size w w' := by
  have d1 : decide (2000 < (t.size : Int)) = false := by simp; omega
  clear h1
  have Hhn := Lib.hid hn
  clear hn
  have Hha1 := Lib.hid ha1
  clear ha1
  have Hha2 := Lib.hid ha2
  clear ha2
  have Hhs1 := Lib.hid hs1
  clear hs1
  have Hhs2 := Lib.hid hs2
  clear hs2
  have Hhm1 := Lib.hid hm1
  clear hm1
  have Hhm2 := Lib.hid hm2
  clear hm2
  have Hhq1 := Lib.hid hq1
  clear hq1
  have Hhq2 := Lib.hid hq2
  clear hq2
  have Hhl1 := Lib.hid hl1
  clear hl1
  have Hhl2 := Lib.hid hl2
  clear hl2
  have Hhc1 := Lib.hid hc1
  clear hc1
  have Hhc2 := Lib.hid hc2
  clear hc2
  have Hhz := Lib.hid hz
  clear hz
  have Hhy := Lib.hid hy
  clear hy
  have k0' : (k != 0) = true := by rw [bne, k0]; rfl
  have k2' : (k != 2) = false := by rw [bne, k2]; rfl
  have hw0 := Below.refl w.heap.size w
  go_enter Try.func8, Try.ntmps8
  go_wp2_with fail
  have hn0 := Below.allocs w (.cells #[.int .u8 k, .int .i64 n, .int .i64 u, .string t] 23)
  have An := Boxed.new w k n u t 23
  have hw1 := below_tr hw0 hn0
  have A1 := An
  clear An hn0
  refine (awake_is _).mono ?_
  rintro e v1 ⟨rfl, hv1⟩
  have A2 := A1.below hv1
  have hw2 := below_tr hw1 hv1
  clear A1
  clear hv1
  have a' := A2
  obtain ⟨a0, a1, a2, a3, a4⟩ := a'
  go_wp2_with fail
  clear a0 a1 a2 a3 a4
  have hn2 := Below.allocs v1 (.cells #[.int .u8 0, .int .i64 0, .int .i64 0, .string ⟨#[]⟩] 23)
  have Zn := Boxed.new v1 0 0 0 ⟨#[]⟩ 23
  have A3 := A2.below hn2
  have hw3 := below_tr hw2 hn2
  clear A2
  have Z3 := Zn
  clear Zn hn2
  have hn3 := Below.allocs (v1.alloc (.cells #[.int .u8 0, .int .i64 0, .int .i64 0, .string ⟨#[]⟩] 23)) (.cells #[.func (.func 26) #[] #[], .func (.func 28) #[] #[], .func (.func 30) #[] #[], .func (.func 32) #[] #[], .func (.func 34) #[] #[]] 32)
  have Gn := Fns.new (v1.alloc (.cells #[.int .u8 0, .int .i64 0, .int .i64 0, .string ⟨#[]⟩] 23)) (.func (.func 26) #[] #[]) (.func (.func 28) #[] #[]) (.func (.func 30) #[] #[]) (.func (.func 32) #[] #[]) (.func (.func 34) #[] #[]) 32
  rw [show (v1.alloc (.cells #[.int .u8 0, .int .i64 0, .int .i64 0, .string ⟨#[]⟩] 23)).heap.size = v1.heap.size + 1 by simp] at Gn
  have A4 := A3.below hn3
  have Z4 := Z3.below hn3
  have hw4 := below_tr hw3 hn3
  clear A3 Z3
  have G4 := Gn
  clear Gn hn3
  have a' := A4
  obtain ⟨a0, a1, a2, a3, a4⟩ := a'
  have z' := Z4
  obtain ⟨z0, z1, z2, z3, z4⟩ := z'
  have g' := G4
  obtain ⟨⟨g0, g1, g2, g3⟩, g4, g5⟩ := g'
  refine wp_loop_rounds 6 ?_
  rw [rounds_succ]
  go_wp2_with fail
  clear a0 a1 a2 a3 a4 z0 z1 z2 z3 z4 g0 g1 g2 g3 g4 g5
  refine (add_is k n u t 0 0 0 ⟨#[]⟩ ⟨0, 0, e⟩ Hha1.out Hhn.out (by unfold I64; omega) _).mono ?_
  rintro e v2 ⟨rfl, hv2⟩
  have A5 := A4.below hv2
  have Z5 := Z4.below hv2
  have G5 := G4.below hv2
  have hw5 := below_tr hw4 hv2
  clear A4 Z4 G4
  clear hv2
  have a' := A5
  obtain ⟨a0, a1, a2, a3, a4⟩ := a'
  have z' := Z5
  obtain ⟨z0, z1, z2, z3, z4⟩ := z'
  go_wp2_with fail
  clear a0 a1 a2 a3 a4 z0 z1 z2 z3 z4
  have hn5 := Below.allocs v2 (.cells #[.int .u8 0, .int .i64 0, .int .i64 0, .string ⟨#[]⟩] 23)
  have Xn := Boxed.new v2 0 0 0 ⟨#[]⟩ 23
  have A6 := A5.below hn5
  have Z6 := Z5.below hn5
  have G6 := G5.below hn5
  have hw6 := below_tr hw5 hn5
  clear A5 Z5 G5
  have X6 := Xn
  clear Xn hn5
  refine (add_is 0 0 0 ⟨#[]⟩ k n u t ⟨0, 0, e⟩ Hha2.out (by unfold I64; omega) Hhn.out _).mono ?_
  rintro e v3 ⟨rfl, hv3⟩
  have A7 := A6.below hv3
  have Z7 := Z6.below hv3
  have G7 := G6.below hv3
  have X7 := X6.below hv3
  have hw7 := below_tr hw6 hv3
  clear A6 Z6 G6 X6
  clear hv3
  have a' := A7
  obtain ⟨a0, a1, a2, a3, a4⟩ := a'
  have z' := Z7
  obtain ⟨z0, z1, z2, z3, z4⟩ := z'
  have x' := X7
  obtain ⟨x0, x1, x2, x3, x4⟩ := x'
  have g' := G7
  obtain ⟨⟨g0, g1, g2, g3⟩, g4, g5⟩ := g'
  go_wp2_with fail
  clear a0 a1 a2 a3 a4 z0 z1 z2 z3 z4 x0 x1 x2 x3 x4 g0 g1 g2 g3 g4 g5
  have hn7 := Below.allocs v3 (.cells #[.int .u8 0, .int .i64 0, .int .i64 0, .string ⟨#[]⟩] 23)
  have Yn := Boxed.new v3 0 0 0 ⟨#[]⟩ 23
  have A8 := A7.below hn7
  have Z8 := Z7.below hn7
  have G8 := G7.below hn7
  have X8 := X7.below hn7
  have hw8 := below_tr hw7 hn7
  clear A7 Z7 G7 X7
  have Y8 := Yn
  clear Yn hn7
  clear X8
  clear Y8
  have a' := A8
  obtain ⟨a0, a1, a2, a3, a4⟩ := a'
  have z' := Z8
  obtain ⟨z0, z1, z2, z3, z4⟩ := z'
  have g' := G8
  obtain ⟨⟨g0, g1, g2, g3⟩, g4, g5⟩ := g'
  rw [rounds_succ]
  go_wp2_with fail
  clear a0 a1 a2 a3 a4 z0 z1 z2 z3 z4 g0 g1 g2 g3 g4 g5
  refine (sub_is k n u t 0 0 0 ⟨#[]⟩ ⟨0, 0, e⟩ Hhs1.out Hhn.out (by unfold I64; omega) _).mono ?_
  rintro e v4 ⟨rfl, hv4⟩
  have A9 := A8.below hv4
  have Z9 := Z8.below hv4
  have G9 := G8.below hv4
  have hw9 := below_tr hw8 hv4
  clear A8 Z8 G8
  clear hv4
  have a' := A9
  obtain ⟨a0, a1, a2, a3, a4⟩ := a'
  have z' := Z9
  obtain ⟨z0, z1, z2, z3, z4⟩ := z'
  go_wp2_with fail
  clear a0 a1 a2 a3 a4 z0 z1 z2 z3 z4
  have hn9 := Below.allocs v4 (.cells #[.int .u8 0, .int .i64 0, .int .i64 0, .string ⟨#[]⟩] 23)
  have Xn := Boxed.new v4 0 0 0 ⟨#[]⟩ 23
  have A10 := A9.below hn9
  have Z10 := Z9.below hn9
  have G10 := G9.below hn9
  have hw10 := below_tr hw9 hn9
  clear A9 Z9 G9
  have X10 := Xn
  clear Xn hn9
  refine (sub_is 0 0 0 ⟨#[]⟩ k n u t ⟨0, 0, e⟩ Hhs2.out (by unfold I64; omega) Hhn.out _).mono ?_
  rintro e v5 ⟨rfl, hv5⟩
  have A11 := A10.below hv5
  have Z11 := Z10.below hv5
  have G11 := G10.below hv5
  have X11 := X10.below hv5
  have hw11 := below_tr hw10 hv5
  clear A10 Z10 G10 X10
  clear hv5
  have a' := A11
  obtain ⟨a0, a1, a2, a3, a4⟩ := a'
  have z' := Z11
  obtain ⟨z0, z1, z2, z3, z4⟩ := z'
  have x' := X11
  obtain ⟨x0, x1, x2, x3, x4⟩ := x'
  have g' := G11
  obtain ⟨⟨g0, g1, g2, g3⟩, g4, g5⟩ := g'
  go_wp2_with fail
  clear a0 a1 a2 a3 a4 z0 z1 z2 z3 z4 x0 x1 x2 x3 x4 g0 g1 g2 g3 g4 g5
  have hn11 := Below.allocs v5 (.cells #[.int .u8 0, .int .i64 0, .int .i64 0, .string ⟨#[]⟩] 23)
  have Yn := Boxed.new v5 0 0 0 ⟨#[]⟩ 23
  have A12 := A11.below hn11
  have Z12 := Z11.below hn11
  have G12 := G11.below hn11
  have X12 := X11.below hn11
  have hw12 := below_tr hw11 hn11
  clear A11 Z11 G11 X11
  have Y12 := Yn
  clear Yn hn11
  clear X12
  clear Y12
  have a' := A12
  obtain ⟨a0, a1, a2, a3, a4⟩ := a'
  have z' := Z12
  obtain ⟨z0, z1, z2, z3, z4⟩ := z'
  have g' := G12
  obtain ⟨⟨g0, g1, g2, g3⟩, g4, g5⟩ := g'
  rw [rounds_succ]
  go_wp2_with fail
  clear a0 a1 a2 a3 a4 z0 z1 z2 z3 z4 g0 g1 g2 g3 g4 g5
  refine (mul_is k n u t 0 0 0 ⟨#[]⟩ ⟨0, 0, e⟩ Hhm1.out Hhn.out (by unfold I64; omega) _).mono ?_
  rintro e v6 ⟨rfl, hv6⟩
  have A13 := A12.below hv6
  have Z13 := Z12.below hv6
  have G13 := G12.below hv6
  have hw13 := below_tr hw12 hv6
  clear A12 Z12 G12
  clear hv6
  have a' := A13
  obtain ⟨a0, a1, a2, a3, a4⟩ := a'
  have z' := Z13
  obtain ⟨z0, z1, z2, z3, z4⟩ := z'
  go_wp2_with fail
  clear a0 a1 a2 a3 a4 z0 z1 z2 z3 z4
  have hn13 := Below.allocs v6 (.cells #[.int .u8 0, .int .i64 0, .int .i64 0, .string ⟨#[]⟩] 23)
  have Xn := Boxed.new v6 0 0 0 ⟨#[]⟩ 23
  have A14 := A13.below hn13
  have Z14 := Z13.below hn13
  have G14 := G13.below hn13
  have hw14 := below_tr hw13 hn13
  clear A13 Z13 G13
  have X14 := Xn
  clear Xn hn13
  refine (mul_is 0 0 0 ⟨#[]⟩ k n u t ⟨0, 0, e⟩ Hhm2.out (by unfold I64; omega) Hhn.out _).mono ?_
  rintro e v7 ⟨rfl, hv7⟩
  have A15 := A14.below hv7
  have Z15 := Z14.below hv7
  have G15 := G14.below hv7
  have X15 := X14.below hv7
  have hw15 := below_tr hw14 hv7
  clear A14 Z14 G14 X14
  clear hv7
  have a' := A15
  obtain ⟨a0, a1, a2, a3, a4⟩ := a'
  have z' := Z15
  obtain ⟨z0, z1, z2, z3, z4⟩ := z'
  have x' := X15
  obtain ⟨x0, x1, x2, x3, x4⟩ := x'
  have g' := G15
  obtain ⟨⟨g0, g1, g2, g3⟩, g4, g5⟩ := g'
  go_wp2_with fail
  clear a0 a1 a2 a3 a4 z0 z1 z2 z3 z4 x0 x1 x2 x3 x4 g0 g1 g2 g3 g4 g5
  have hn15 := Below.allocs v7 (.cells #[.int .u8 0, .int .i64 0, .int .i64 0, .string ⟨#[]⟩] 23)
  have Yn := Boxed.new v7 0 0 0 ⟨#[]⟩ 23
  have A16 := A15.below hn15
  have Z16 := Z15.below hn15
  have G16 := G15.below hn15
  have X16 := X15.below hn15
  have hw16 := below_tr hw15 hn15
  clear A15 Z15 G15 X15
  have Y16 := Yn
  clear Yn hn15
  clear X16
  clear Y16
  have a' := A16
  obtain ⟨a0, a1, a2, a3, a4⟩ := a'
  have z' := Z16
  obtain ⟨z0, z1, z2, z3, z4⟩ := z'
  have g' := G16
  obtain ⟨⟨g0, g1, g2, g3⟩, g4, g5⟩ := g'
  rw [rounds_succ]
  go_wp2_with fail
  clear a0 a1 a2 a3 a4 z0 z1 z2 z3 z4 g0 g1 g2 g3 g4 g5
  refine (equal_is k n u t 0 0 0 ⟨#[]⟩ ⟨0, 0, 0⟩ Hhq1.out _).mono ?_
  rintro e v8 ⟨rfl, hv8⟩
  have A17 := A16.below hv8
  have Z17 := Z16.below hv8
  have G17 := G16.below hv8
  have hw17 := below_tr hw16 hv8
  clear A16 Z16 G16
  clear hv8
  have a' := A17
  obtain ⟨a0, a1, a2, a3, a4⟩ := a'
  have z' := Z17
  obtain ⟨z0, z1, z2, z3, z4⟩ := z'
  go_wp2_with fail
  clear a0 a1 a2 a3 a4 z0 z1 z2 z3 z4
  have hn17 := Below.allocs v8 (.cells #[.int .u8 0, .int .i64 0, .int .i64 0, .string ⟨#[]⟩] 23)
  have Xn := Boxed.new v8 0 0 0 ⟨#[]⟩ 23
  have A18 := A17.below hn17
  have Z18 := Z17.below hn17
  have G18 := G17.below hn17
  have hw18 := below_tr hw17 hn17
  clear A17 Z17 G17
  have X18 := Xn
  clear Xn hn17
  refine (equal_is 0 0 0 ⟨#[]⟩ k n u t ⟨0, 0, 0⟩ Hhq2.out _).mono ?_
  rintro e v9 ⟨rfl, hv9⟩
  have A19 := A18.below hv9
  have Z19 := Z18.below hv9
  have G19 := G18.below hv9
  have X19 := X18.below hv9
  have hw19 := below_tr hw18 hv9
  clear A18 Z18 G18 X18
  clear hv9
  have a' := A19
  obtain ⟨a0, a1, a2, a3, a4⟩ := a'
  have z' := Z19
  obtain ⟨z0, z1, z2, z3, z4⟩ := z'
  have x' := X19
  obtain ⟨x0, x1, x2, x3, x4⟩ := x'
  have g' := G19
  obtain ⟨⟨g0, g1, g2, g3⟩, g4, g5⟩ := g'
  go_wp2_with fail
  clear a0 a1 a2 a3 a4 z0 z1 z2 z3 z4 x0 x1 x2 x3 x4 g0 g1 g2 g3 g4 g5
  have hn19 := Below.allocs v9 (.cells #[.int .u8 0, .int .i64 0, .int .i64 0, .string ⟨#[]⟩] 23)
  have Yn := Boxed.new v9 0 0 0 ⟨#[]⟩ 23
  have A20 := A19.below hn19
  have Z20 := Z19.below hn19
  have G20 := G19.below hn19
  have X20 := X19.below hn19
  have hw20 := below_tr hw19 hn19
  clear A19 Z19 G19 X19
  have Y20 := Yn
  clear Yn hn19
  clear X20
  clear Y20
  have a' := A20
  obtain ⟨a0, a1, a2, a3, a4⟩ := a'
  have z' := Z20
  obtain ⟨z0, z1, z2, z3, z4⟩ := z'
  have g' := G20
  obtain ⟨⟨g0, g1, g2, g3⟩, g4, g5⟩ := g'
  rw [rounds_succ]
  go_wp2_with fail
  clear a0 a1 a2 a3 a4 z0 z1 z2 z3 z4 g0 g1 g2 g3 g4 g5
  refine (less_is k n u t 0 0 0 ⟨#[]⟩ ⟨0, 0, 0⟩ Hhl1.out _).mono ?_
  rintro e v10 ⟨rfl, hv10⟩
  have A21 := A20.below hv10
  have Z21 := Z20.below hv10
  have G21 := G20.below hv10
  have hw21 := below_tr hw20 hv10
  clear A20 Z20 G20
  clear hv10
  have a' := A21
  obtain ⟨a0, a1, a2, a3, a4⟩ := a'
  have z' := Z21
  obtain ⟨z0, z1, z2, z3, z4⟩ := z'
  go_wp2_with fail
  clear a0 a1 a2 a3 a4 z0 z1 z2 z3 z4
  have hn21 := Below.allocs v10 (.cells #[.int .u8 0, .int .i64 0, .int .i64 0, .string ⟨#[]⟩] 23)
  have Xn := Boxed.new v10 0 0 0 ⟨#[]⟩ 23
  have A22 := A21.below hn21
  have Z22 := Z21.below hn21
  have G22 := G21.below hn21
  have hw22 := below_tr hw21 hn21
  clear A21 Z21 G21
  have X22 := Xn
  clear Xn hn21
  refine (less_is 0 0 0 ⟨#[]⟩ k n u t ⟨0, 0, 0⟩ Hhl2.out _).mono ?_
  rintro e v11 ⟨rfl, hv11⟩
  have A23 := A22.below hv11
  have Z23 := Z22.below hv11
  have G23 := G22.below hv11
  have X23 := X22.below hv11
  have hw23 := below_tr hw22 hv11
  clear A22 Z22 G22 X22
  clear hv11
  have a' := A23
  obtain ⟨a0, a1, a2, a3, a4⟩ := a'
  have z' := Z23
  obtain ⟨z0, z1, z2, z3, z4⟩ := z'
  have x' := X23
  obtain ⟨x0, x1, x2, x3, x4⟩ := x'
  have g' := G23
  obtain ⟨⟨g0, g1, g2, g3⟩, g4, g5⟩ := g'
  go_wp2_with fail
  clear a0 a1 a2 a3 a4 z0 z1 z2 z3 z4 x0 x1 x2 x3 x4 g0 g1 g2 g3 g4 g5
  have hn23 := Below.allocs v11 (.cells #[.int .u8 0, .int .i64 0, .int .i64 0, .string ⟨#[]⟩] 23)
  have Yn := Boxed.new v11 0 0 0 ⟨#[]⟩ 23
  have A24 := A23.below hn23
  have Z24 := Z23.below hn23
  have G24 := G23.below hn23
  have X24 := X23.below hn23
  have hw24 := below_tr hw23 hn23
  clear A23 Z23 G23 X23
  have Y24 := Yn
  clear Yn hn23
  clear X24
  clear Y24
  have a' := A24
  obtain ⟨a0, a1, a2, a3, a4⟩ := a'
  have z' := Z24
  obtain ⟨z0, z1, z2, z3, z4⟩ := z'
  have g' := G24
  obtain ⟨⟨g0, g1, g2, g3⟩, g4, g5⟩ := g'
  rw [rounds_succ]
  go_wp2_with fail
  clear G24
  clear a0 a1 a2 a3 a4 z0 z1 z2 z3 z4 g0 g1 g2 g3 g4 g5
  refine (and_is k n u t 0 0 0 ⟨#[]⟩ ⟨0, 0, 0⟩ Hhc1.out _).mono ?_
  rintro e v12 ⟨rfl, hv12⟩
  have A25 := A24.below hv12
  have Z25 := Z24.below hv12
  have hw25 := below_tr hw24 hv12
  clear A24 Z24
  clear hv12
  have a' := A25
  obtain ⟨a0, a1, a2, a3, a4⟩ := a'
  have z' := Z25
  obtain ⟨z0, z1, z2, z3, z4⟩ := z'
  go_wp2_with fail
  clear a0 a1 a2 a3 a4 z0 z1 z2 z3 z4
  have hn25 := Below.allocs v12 (.cells #[.int .u8 0, .int .i64 0, .int .i64 0, .string ⟨#[]⟩] 23)
  have Bn := Boxed.new v12 0 0 0 ⟨#[]⟩ 23
  have A26 := A25.below hn25
  have Z26 := Z25.below hn25
  have hw26 := below_tr hw25 hn25
  clear A25 Z25
  have B26 := Bn
  clear Bn hn25
  refine (or_is 0 0 0 ⟨#[]⟩ k n u t ⟨2, 1, 0⟩ Hhc2.out _).mono ?_
  rintro e v13 ⟨rfl, hv13⟩
  have A27 := A26.below hv13
  have Z27 := Z26.below hv13
  have B27 := B26.below hv13
  have hw27 := below_tr hw26 hv13
  clear A26 Z26 B26
  clear hv13
  have a' := A27
  obtain ⟨a0, a1, a2, a3, a4⟩ := a'
  have z' := Z27
  obtain ⟨z0, z1, z2, z3, z4⟩ := z'
  go_wp2_with fail
  clear a0 a1 a2 a3 a4 z0 z1 z2 z3 z4
  have hn27 := Below.allocs v13 (.cells #[.int .u8 2, .int .i64 1, .int .i64 0, .string ⟨#[]⟩] 23)
  have Cn := Boxed.new v13 2 1 0 ⟨#[]⟩ 23
  have A28 := A27.below hn27
  have Z28 := Z27.below hn27
  have B28 := B27.below hn27
  have hw28 := below_tr hw27 hn27
  clear A27 Z27 B27
  have C28 := Cn
  clear Cn hn27
  refine (not_is 0 0 0 ⟨#[]⟩ ⟨0, 0, 0⟩ (by kernel_rfl) _).mono ?_
  rintro e v14 ⟨rfl, hv14⟩
  have A29 := A28.below hv14
  have Z29 := Z28.below hv14
  have B29 := B28.below hv14
  have C29 := C28.below hv14
  have hw29 := below_tr hw28 hv14
  clear A28 Z28 B28 C28
  clear hv14
  have a' := A29
  obtain ⟨a0, a1, a2, a3, a4⟩ := a'
  have z' := Z29
  obtain ⟨z0, z1, z2, z3, z4⟩ := z'
  go_wp2_with fail
  clear a0 a1 a2 a3 a4 z0 z1 z2 z3 z4
  have hn29 := Below.allocs v14 (.cells #[.int .u8 0, .int .i64 0, .int .i64 0, .string ⟨#[]⟩] 23)
  have Dn := Boxed.new v14 0 0 0 ⟨#[]⟩ 23
  have A30 := A29.below hn29
  have Z30 := Z29.below hn29
  have B30 := B29.below hn29
  have C30 := C29.below hn29
  have hw30 := below_tr hw29 hn29
  clear A29 Z29 B29 C29
  have D30 := Dn
  clear Dn hn29
  refine (neg_is 0 0 0 ⟨#[]⟩ ⟨0, 0, 0⟩ (by kernel_rfl) (by unfold I64; omega) _).mono ?_
  rintro e v15 ⟨rfl, hv15⟩
  have A31 := A30.below hv15
  have Z31 := Z30.below hv15
  have B31 := B30.below hv15
  have C31 := C30.below hv15
  have D31 := D30.below hv15
  have hw31 := below_tr hw30 hv15
  clear A30 Z30 B30 C30 D30
  clear hv15
  have a' := A31
  obtain ⟨a0, a1, a2, a3, a4⟩ := a'
  have z' := Z31
  obtain ⟨z0, z1, z2, z3, z4⟩ := z'
  go_wp2_with fail
  clear a0 a1 a2 a3 a4 z0 z1 z2 z3 z4
  have hn31 := Below.allocs v15 (.cells #[.int .u8 0, .int .i64 0, .int .i64 0, .string ⟨#[]⟩] 23)
  have En := Boxed.new v15 0 0 0 ⟨#[]⟩ 23
  have A32 := A31.below hn31
  have Z32 := Z31.below hn31
  have B32 := B31.below hn31
  have C32 := C31.below hn31
  have D32 := D31.below hn31
  have hw32 := below_tr hw31 hn31
  clear A31 Z31 B31 C31 D31
  have E32 := En
  clear En hn31
  have hd := below_drew (v15.alloc (.cells #[.int .u8 0, .int .i64 0, .int .i64 0, .string ⟨#[]⟩] 23))
  refine wp_region_plan (fun w w' => Below w.heap.size w w') [.it (.agg #[.int .u8 0, .int .i64 0, .int .i64 0, .string ⟨#[]⟩]), .it (.agg #[.int .u8 0, .int .i64 0, .int .i64 0, .string ⟨#[]⟩]), .it (.bool false), .it (.bool false), .it (.int .i64 0), .it (.bool false), .it (.bool false), .it (.bool false), .it (.agg #[.int .u8 0, .int .i64 0, .int .i64 0, .string ⟨#[]⟩]), .it (.agg #[.int .u8 0, .int .i64 0, .int .i64 0, .string ⟨#[]⟩]), .it (.bool false), .it (.bool false), .it (.bool false), .it (.int .i64 0), .it (.bool false), .it (.bool false), .it (.bool false), .it (.agg #[.int .u8 0, .int .i64 0, .int .i64 0, .string ⟨#[]⟩]), .it (.agg #[.int .u8 2, .int .i64 (ofN true), .int .i64 0, .string ⟨#[]⟩]), .it (.agg #[.int .u8 2, .int .i64 (ofN true), .int .i64 0, .string ⟨#[]⟩]), .it (.bool false), .it (.bool false), .it (.bool false), .it (.agg #[.int .u8 k, .int .i64 n, .int .i64 u, .string t]), .it (.agg #[.int .u8 2, .int .i64 (ofN false), .int .i64 0, .string ⟨#[]⟩]), .it (.pointer (some ⟨w.heap.size, 0, none⟩)), .it (.int .u8 k), .it (.bool false), .it (.agg #[.int .u8 2, .int .i64 (ofN false), .int .i64 0, .string ⟨#[]⟩]), .it (.bool false), .it (.bool false)] (by kernel_rfl) (by kernel_rfl) (fun w => Below.refl _ _) (fun _ _ _ => below_tr) ?_
  refine seqP_value (fun w => Below.refl _ _) _ (by first | rfl | simp) (fun w' hw' hctx => ?_) ?_
  · obtain ⟨c0, c1, c2, c3, c4⟩ := D32.below (below_tr hd hw')
    go_simp
    try first | with_reducible rfl | simp
  simp only [Act.put, List.setIfInBounds_toArray, List.set_cons_zero, List.set_cons_succ]
  refine seqP_value (fun w => Below.refl _ _) _ (by first | rfl | simp) (fun w' hw' hctx => ?_) ?_
  · obtain ⟨c0, c1, c2, c3, c4⟩ := Z32.below (below_tr hd hw')
    go_simp
    try first | with_reducible rfl | simp
  simp only [Act.put, List.setIfInBounds_toArray, List.set_cons_zero, List.set_cons_succ]
  refine seqP_value (fun w => Below.refl _ _) _ (by first | rfl | simp) (fun w' hw' hctx => ?_) ?_
  · go_simp
    try first | with_reducible rfl | simp
  simp only [Act.put, List.setIfInBounds_toArray, List.set_cons_zero, List.set_cons_succ]
  refine seqP_value (fun w => Below.refl _ _) _ (by first | rfl | simp) (fun w' hw' hctx => ?_) ?_
  · go_simp
    try first | with_reducible rfl | simp
  simp only [Act.put, List.setIfInBounds_toArray, List.set_cons_zero, List.set_cons_succ]
  refine seqP_value (fun w => Below.refl _ _) _ (by first | rfl | simp) (fun w' hw' hctx => ?_) ?_
  · go_simp
    try first | with_reducible rfl | simp
  simp only [Act.put, List.setIfInBounds_toArray, List.set_cons_zero, List.set_cons_succ]
  refine seqP_value (fun w => Below.refl _ _) _ (by first | rfl | simp) (fun w' hw' hctx => ?_) ?_
  · go_simp
    try first | with_reducible rfl | simp
  simp only [Act.put, List.setIfInBounds_toArray, List.set_cons_zero, List.set_cons_succ]
  refine seqP_value (fun w => Below.refl _ _) _ (by first | rfl | simp) (fun w' hw' hctx => ?_) ?_
  · go_simp
    try first | with_reducible rfl | simp
  simp only [Act.put, List.setIfInBounds_toArray, List.set_cons_zero, List.set_cons_succ]
  refine seqP_value (fun w => Below.refl _ _) _ (by first | rfl | simp) (fun w' hw' hctx => ?_) ?_
  · go_simp
    try first | with_reducible rfl | simp
  simp only [Act.put, List.setIfInBounds_toArray, List.set_cons_zero, List.set_cons_succ]
  refine seqP_value (fun w => Below.refl _ _) _ (by first | rfl | simp) (fun w' hw' hctx => ?_) ?_
  · obtain ⟨c0, c1, c2, c3, c4⟩ := E32.below (below_tr hd hw')
    go_simp
    try first | with_reducible rfl | simp
  simp only [Act.put, List.setIfInBounds_toArray, List.set_cons_zero, List.set_cons_succ]
  refine seqP_value (fun w => Below.refl _ _) _ (by first | rfl | simp) (fun w' hw' hctx => ?_) ?_
  · obtain ⟨c0, c1, c2, c3, c4⟩ := Z32.below (below_tr hd hw')
    go_simp
    try first | with_reducible rfl | simp
  simp only [Act.put, List.setIfInBounds_toArray, List.set_cons_zero, List.set_cons_succ]
  refine seqP_value (fun w => Below.refl _ _) _ (by first | rfl | simp) (fun w' hw' hctx => ?_) ?_
  · go_simp
    try first | with_reducible rfl | simp
  simp only [Act.put, List.setIfInBounds_toArray, List.set_cons_zero, List.set_cons_succ]
  refine seqP_value (fun w => Below.refl _ _) _ (by first | rfl | simp) (fun w' hw' hctx => ?_) ?_
  · go_simp
    try first | with_reducible rfl | simp
  simp only [Act.put, List.setIfInBounds_toArray, List.set_cons_zero, List.set_cons_succ]
  refine seqP_value (fun w => Below.refl _ _) _ (by first | rfl | simp) (fun w' hw' hctx => ?_) ?_
  · go_simp
    try first | with_reducible rfl | simp
  simp only [Act.put, List.setIfInBounds_toArray, List.set_cons_zero, List.set_cons_succ]
  refine seqP_value (fun w => Below.refl _ _) _ (by first | rfl | simp) (fun w' hw' hctx => ?_) ?_
  · go_simp
    try first | with_reducible rfl | simp
  simp only [Act.put, List.setIfInBounds_toArray, List.set_cons_zero, List.set_cons_succ]
  refine seqP_value (fun w => Below.refl _ _) _ (by first | rfl | simp) (fun w' hw' hctx => ?_) ?_
  · go_simp
    try first | with_reducible rfl | simp
  simp only [Act.put, List.setIfInBounds_toArray, List.set_cons_zero, List.set_cons_succ]
  refine seqP_value (fun w => Below.refl _ _) _ (by first | rfl | simp) (fun w' hw' hctx => ?_) ?_
  · go_simp
    try first | with_reducible rfl | simp
  simp only [Act.put, List.setIfInBounds_toArray, List.set_cons_zero, List.set_cons_succ]
  refine seqP_value (fun w => Below.refl _ _) _ (by first | rfl | simp) (fun w' hw' hctx => ?_) ?_
  · go_simp
    try first | with_reducible rfl | simp
  simp only [Act.put, List.setIfInBounds_toArray, List.set_cons_zero, List.set_cons_succ]
  refine seqP_value (fun w => Below.refl _ _) _ (by first | rfl | simp) (fun w' hw' hctx => ?_) ?_
  · obtain ⟨c0, c1, c2, c3, c4⟩ := Z32.below (below_tr hd hw')
    go_simp
    try first | with_reducible rfl | simp
  simp only [Act.put, List.setIfInBounds_toArray, List.set_cons_zero, List.set_cons_succ]
  refine seqP_call 16 #[.agg #[.int .u8 0, .int .i64 0, .int .i64 0, .string ⟨#[]⟩]] (.agg #[.int .u8 2, .int .i64 (ofN true), .int .i64 0, .string ⟨#[]⟩]) (by first | rfl | simp) (fun w' hw' hctx => ?_) (fun w' hw' hctx => isnull_is 0 0 0 ⟨#[]⟩ true (by decide) w') ?_
  · go_simp
  simp only [Act.put, List.setIfInBounds_toArray, List.set_cons_zero, List.set_cons_succ]
  refine seqP_call 12 #[.bool true] (.agg #[.int .u8 2, .int .i64 (ofN true), .int .i64 0, .string ⟨#[]⟩]) (by first | rfl | simp) (fun w' hw' hctx => ?_) (fun w' hw' hctx => of_is true w') ?_
  · go_simp
  simp only [Act.put, List.setIfInBounds_toArray, List.set_cons_zero, List.set_cons_succ]
  refine seqP_value (fun w => Below.refl _ _) _ (by first | rfl | simp) (fun w' hw' hctx => ?_) ?_
  · go_simp
    try first | with_reducible rfl | simp
  simp only [Act.put, List.setIfInBounds_toArray, List.set_cons_zero, List.set_cons_succ]
  refine seqP_value (fun w => Below.refl _ _) _ (by first | rfl | simp) (fun w' hw' hctx => ?_) ?_
  · go_simp
    try first | with_reducible rfl | simp
  simp only [Act.put, List.setIfInBounds_toArray, List.set_cons_zero, List.set_cons_succ]
  refine seqP_value (fun w => Below.refl _ _) _ (by first | rfl | simp) (fun w' hw' hctx => ?_) ?_
  · go_simp
    try first | with_reducible rfl | simp
  simp only [Act.put, List.setIfInBounds_toArray, List.set_cons_zero, List.set_cons_succ]
  refine seqP_value (fun w => Below.refl _ _) _ (by first | rfl | simp) (fun w' hw' hctx => ?_) ?_
  · obtain ⟨c0, c1, c2, c3, c4⟩ := A32.below (below_tr hd hw')
    go_simp
    try first | with_reducible rfl | simp
  simp only [Act.put, List.setIfInBounds_toArray, List.set_cons_zero, List.set_cons_succ]
  refine seqP_call 16 #[.agg #[.int .u8 k, .int .i64 n, .int .i64 u, .string t]] (.agg #[.int .u8 2, .int .i64 (ofN false), .int .i64 0, .string ⟨#[]⟩]) (by first | rfl | simp) (fun w' hw' hctx => ?_) (fun w' hw' hctx => isnull_is k n u t false Hhz.out w') ?_
  · go_simp
  simp only [Act.put, List.setIfInBounds_toArray, List.set_cons_zero, List.set_cons_succ]
  refine seqP_value (fun w => Below.refl _ _) _ (by first | rfl | simp) (fun w' hw' hctx => ?_) ?_
  · go_simp
    try first | with_reducible rfl | simp
  simp only [Act.put, List.setIfInBounds_toArray, List.set_cons_zero, List.set_cons_succ]
  refine seqP_value (fun w => Below.refl _ _) _ (by first | rfl | simp) (fun w' hw' hctx => ?_) ?_
  · obtain ⟨c0, c1, c2, c3, c4⟩ := A32.below (below_tr hd hw')
    go_simp
    try first | with_reducible rfl | simp
  simp only [Act.put, List.setIfInBounds_toArray, List.set_cons_zero, List.set_cons_succ]
  refine seqP_value (fun w => Below.refl _ _) _ (by first | rfl | simp) (fun w' hw' hctx => ?_) ?_
  · go_simp
    try first | with_reducible rfl | simp
  simp only [Act.put, List.setIfInBounds_toArray, List.set_cons_zero, List.set_cons_succ]
  refine seqP_call 12 #[.bool false] (.agg #[.int .u8 2, .int .i64 (ofN false), .int .i64 0, .string ⟨#[]⟩]) (by first | rfl | simp) (fun w' hw' hctx => ?_) (fun w' hw' hctx => of_is false w') ?_
  · go_simp
  simp only [Act.put, List.setIfInBounds_toArray, List.set_cons_zero, List.set_cons_succ]
  refine seqP_value (fun w => Below.refl _ _) _ (by first | rfl | simp) (fun w' hw' hctx => ?_) ?_
  · go_simp
    try first | with_reducible rfl | simp
  simp only [Act.put, List.setIfInBounds_toArray, List.set_cons_zero, List.set_cons_succ]
  refine seqP_value (fun w => Below.refl _ _) _ (by first | rfl | simp) (fun w' hw' hctx => ?_) ?_
  · go_simp
    try first | with_reducible rfl | simp
  simp only [Act.put, List.setIfInBounds_toArray, List.set_cons_zero, List.set_cons_succ]
  refine seqP_nil (fun v16 hR hctx => ?_)
  have hv16 := below_tr hd hR
  clear hctx hR hd
  have A33 := A32.below hv16
  have Z33 := Z32.below hv16
  have B33 := B32.below hv16
  have C33 := C32.below hv16
  have D33 := D32.below hv16
  have E33 := E32.below hv16
  have hw33 := below_tr hw32 hv16
  clear A32 Z32 B32 C32 D32 E32
  clear hv16
  have a' := A33
  obtain ⟨a0, a1, a2, a3, a4⟩ := a'
  have b' := B33
  obtain ⟨b0, b1, b2, b3, b4⟩ := b'
  have c' := C33
  obtain ⟨c0, c1, c2, c3, c4⟩ := c'
  have z' := Z33
  obtain ⟨z0, z1, z2, z3, z4⟩ := z'
  go_wp2_with fail
  clear a0 a1 a2 a3 a4 b0 b1 b2 b3 b4 c0 c1 c2 c3 c4 z0 z1 z2 z3 z4
  refine (yes_is k n u t true Hhy.out _).mono ?_
  rintro e v17 ⟨rfl, hv17⟩
  have A34 := A33.below hv17
  have Z34 := Z33.below hv17
  have B34 := B33.below hv17
  have C34 := C33.below hv17
  have D34 := D33.below hv17
  have E34 := E33.below hv17
  have hw34 := below_tr hw33 hv17
  clear A33 Z33 B33 C33 D33 E33
  clear hv17
  have a' := A34
  obtain ⟨a0, a1, a2, a3, a4⟩ := a'
  have b' := B34
  obtain ⟨b0, b1, b2, b3, b4⟩ := b'
  have c' := C34
  obtain ⟨c0, c1, c2, c3, c4⟩ := c'
  have z' := Z34
  obtain ⟨z0, z1, z2, z3, z4⟩ := z'
  go_wp2_with fail
  clear a0 a1 a2 a3 a4 b0 b1 b2 b3 b4 c0 c1 c2 c3 c4 z0 z1 z2 z3 z4
  have hd := below_drew v17
  refine wp_region_plan (fun w w' => Below w.heap.size w w') [.it (.int .i64 0), .it (.bool true), .it (.bool true), .it (.int .i64 0), .it (.bool true), .it (.bool true), .it (.bool true), .it (.agg #[.int .u8 0, .int .i64 0, .int .i64 0, .string ⟨#[]⟩]), .it (.agg #[.int .u8 2, .int .i64 0, .int .i64 0, .string ⟨#[]⟩]), .it (.bool false), .it (.bool false), .it (.bool true), .it (.bool true), .it (.bool true), .it (.agg #[.int .u8 2, .int .i64 1, .int .i64 0, .string ⟨#[]⟩]), .it (.agg #[.int .u8 2, .int .i64 1, .int .i64 0, .string ⟨#[]⟩]), .it (.bool true), .it (.agg #[.int .u8 k, .int .i64 n, .int .i64 u, .string t]), .it (.bool true), .it (.bool true), .it (.bool true), .it (.bool true), .it (.bool false), .it (.bool false), .it (.agg #[.int .u8 0, .int .i64 0, .int .i64 0, .string ⟨#[]⟩]), .it (.agg #[.int .u8 0, .int .i64 0, .int .i64 0, .string ⟨#[]⟩]), .it (.bool true), .it (.bool true), .it (.bool true), .it (.bool true), .it (.agg #[.int .u8 k, .int .i64 n, .int .i64 u, .string t]), .it (.bool true), .it (.bool true), .it undef, .it undef, .it undef, .it (.bool true), .it (.bool true), .it (.bool true)] (by kernel_rfl) (by kernel_rfl) (fun w => Below.refl _ _) (fun _ _ _ => below_tr) ?_
  refine seqP_value (fun w => Below.refl _ _) _ (by first | rfl | simp) (fun w' hw' hctx => ?_) ?_
  · go_simp
    try first | with_reducible rfl | simp
  simp only [Act.put, List.setIfInBounds_toArray, List.set_cons_zero, List.set_cons_succ]
  refine seqP_value (fun w => Below.refl _ _) _ (by first | rfl | simp) (fun w' hw' hctx => ?_) ?_
  · go_simp
    try first | with_reducible rfl | simp
  simp only [Act.put, List.setIfInBounds_toArray, List.set_cons_zero, List.set_cons_succ]
  refine seqP_value (fun w => Below.refl _ _) _ (by first | rfl | simp) (fun w' hw' hctx => ?_) ?_
  · go_simp
    try first | with_reducible rfl | simp
  simp only [Act.put, List.setIfInBounds_toArray, List.set_cons_zero, List.set_cons_succ]
  refine seqP_value (fun w => Below.refl _ _) _ (by first | rfl | simp) (fun w' hw' hctx => ?_) ?_
  · go_simp
    try first | with_reducible rfl | simp
  simp only [Act.put, List.setIfInBounds_toArray, List.set_cons_zero, List.set_cons_succ]
  refine seqP_value (fun w => Below.refl _ _) _ (by first | rfl | simp) (fun w' hw' hctx => ?_) ?_
  · go_simp
    try first | with_reducible rfl | simp
  simp only [Act.put, List.setIfInBounds_toArray, List.set_cons_zero, List.set_cons_succ]
  refine seqP_value (fun w => Below.refl _ _) _ (by first | rfl | simp) (fun w' hw' hctx => ?_) ?_
  · go_simp
    try first | with_reducible rfl | simp
  simp only [Act.put, List.setIfInBounds_toArray, List.set_cons_zero, List.set_cons_succ]
  refine seqP_value (fun w => Below.refl _ _) _ (by first | rfl | simp) (fun w' hw' hctx => ?_) ?_
  · go_simp
    try first | with_reducible rfl | simp
  simp only [Act.put, List.setIfInBounds_toArray, List.set_cons_zero, List.set_cons_succ]
  refine seqP_value (fun w => Below.refl _ _) _ (by first | rfl | simp) (fun w' hw' hctx => ?_) ?_
  · obtain ⟨c0, c1, c2, c3, c4⟩ := B34.below (below_tr hd hw')
    go_simp
    try first | with_reducible rfl | simp
  simp only [Act.put, List.setIfInBounds_toArray, List.set_cons_zero, List.set_cons_succ]
  refine seqP_call 12 #[.bool false] (.agg #[.int .u8 2, .int .i64 0, .int .i64 0, .string ⟨#[]⟩]) (by first | rfl | simp) (fun w' hw' hctx => ?_) (fun w' hw' hctx => of_is false w') ?_
  · go_simp
  simp only [Act.put, List.setIfInBounds_toArray, List.set_cons_zero, List.set_cons_succ]
  refine seqP_value (fun w => Below.refl _ _) _ (by first | rfl | simp) (fun w' hw' hctx => ?_) ?_
  · go_simp
    try first | with_reducible rfl | simp
  simp only [Act.put, List.setIfInBounds_toArray, List.set_cons_zero, List.set_cons_succ]
  refine seqP_value (fun w => Below.refl _ _) _ (by first | rfl | simp) (fun w' hw' hctx => ?_) ?_
  · go_simp
    try first | with_reducible rfl | simp
  simp only [Act.put, List.setIfInBounds_toArray, List.set_cons_zero, List.set_cons_succ]
  refine seqP_value (fun w => Below.refl _ _) _ (by first | rfl | simp) (fun w' hw' hctx => ?_) ?_
  · go_simp
    try first | with_reducible rfl | simp
  simp only [Act.put, List.setIfInBounds_toArray, List.set_cons_zero, List.set_cons_succ]
  refine seqP_value (fun w => Below.refl _ _) _ (by first | rfl | simp) (fun w' hw' hctx => ?_) ?_
  · go_simp
    try first | with_reducible rfl | simp
  simp only [Act.put, List.setIfInBounds_toArray, List.set_cons_zero, List.set_cons_succ]
  refine seqP_value (fun w => Below.refl _ _) _ (by first | rfl | simp) (fun w' hw' hctx => ?_) ?_
  · go_simp
    try first | with_reducible rfl | simp
  simp only [Act.put, List.setIfInBounds_toArray, List.set_cons_zero, List.set_cons_succ]
  refine seqP_value (fun w => Below.refl _ _) _ (by first | rfl | simp) (fun w' hw' hctx => ?_) ?_
  · obtain ⟨c0, c1, c2, c3, c4⟩ := C34.below (below_tr hd hw')
    go_simp
    try first | with_reducible rfl | simp
  simp only [Act.put, List.setIfInBounds_toArray, List.set_cons_zero, List.set_cons_succ]
  refine seqP_call 12 #[.bool true] (.agg #[.int .u8 2, .int .i64 1, .int .i64 0, .string ⟨#[]⟩]) (by first | rfl | simp) (fun w' hw' hctx => ?_) (fun w' hw' hctx => of_is true w') ?_
  · go_simp
  simp only [Act.put, List.setIfInBounds_toArray, List.set_cons_zero, List.set_cons_succ]
  refine seqP_value (fun w => Below.refl _ _) _ (by first | rfl | simp) (fun w' hw' hctx => ?_) ?_
  · go_simp
    try first | with_reducible rfl | simp
  simp only [Act.put, List.setIfInBounds_toArray, List.set_cons_zero, List.set_cons_succ]
  refine seqP_value (fun w => Below.refl _ _) _ (by first | rfl | simp) (fun w' hw' hctx => ?_) ?_
  · obtain ⟨c0, c1, c2, c3, c4⟩ := A34.below (below_tr hd hw')
    go_simp
    try first | with_reducible rfl | simp
  simp only [Act.put, List.setIfInBounds_toArray, List.set_cons_zero, List.set_cons_succ]
  refine seqP_call 10 #[.agg #[.int .u8 k, .int .i64 n, .int .i64 u, .string t]] (.bool true) (by first | rfl | simp) (fun w' hw' hctx => ?_) (fun w' hw' hctx => yes_is k n u t true Hhy.out w') ?_
  · go_simp
  simp only [Act.put, List.setIfInBounds_toArray, List.set_cons_zero, List.set_cons_succ]
  refine seqP_value (fun w => Below.refl _ _) _ (by first | rfl | simp) (fun w' hw' hctx => ?_) ?_
  · go_simp
    try first | with_reducible rfl | simp
  simp only [Act.put, List.setIfInBounds_toArray, List.set_cons_zero, List.set_cons_succ]
  refine seqP_value (fun w => Below.refl _ _) _ (by first | rfl | simp) (fun w' hw' hctx => ?_) ?_
  · go_simp
    try first | with_reducible rfl | simp
  simp only [Act.put, List.setIfInBounds_toArray, List.set_cons_zero, List.set_cons_succ]
  refine seqP_value (fun w => Below.refl _ _) _ (by first | rfl | simp) (fun w' hw' hctx => ?_) ?_
  · go_simp
    try first | with_reducible rfl | simp
  simp only [Act.put, List.setIfInBounds_toArray, List.set_cons_zero, List.set_cons_succ]
  refine seqP_value (fun w => Below.refl _ _) _ (by first | rfl | simp) (fun w' hw' hctx => ?_) ?_
  · go_simp
    try first | with_reducible rfl | simp
  simp only [Act.put, List.setIfInBounds_toArray, List.set_cons_zero, List.set_cons_succ]
  refine seqP_value (fun w => Below.refl _ _) _ (by first | rfl | simp) (fun w' hw' hctx => ?_) ?_
  · go_simp
    try first | with_reducible rfl | simp
  simp only [Act.put, List.setIfInBounds_toArray, List.set_cons_zero, List.set_cons_succ]
  refine seqP_value (fun w => Below.refl _ _) _ (by first | rfl | simp) (fun w' hw' hctx => ?_) ?_
  · obtain ⟨c0, c1, c2, c3, c4⟩ := B34.below (below_tr hd hw')
    go_simp
    try first | with_reducible rfl | simp
  simp only [Act.put, List.setIfInBounds_toArray, List.set_cons_zero, List.set_cons_succ]
  refine seqP_value (fun w => Below.refl _ _) _ (by first | rfl | simp) (fun w' hw' hctx => ?_) ?_
  · obtain ⟨c0, c1, c2, c3, c4⟩ := Z34.below (below_tr hd hw')
    go_simp
    try first | with_reducible rfl | simp
  simp only [Act.put, List.setIfInBounds_toArray, List.set_cons_zero, List.set_cons_succ]
  refine seqP_value (fun w => Below.refl _ _) _ (by first | rfl | simp) (fun w' hw' hctx => ?_) ?_
  · go_simp
    try first | with_reducible rfl | simp
  simp only [Act.put, List.setIfInBounds_toArray, List.set_cons_zero, List.set_cons_succ]
  refine seqP_value (fun w => Below.refl _ _) _ (by first | rfl | simp) (fun w' hw' hctx => ?_) ?_
  · go_simp
    try first | with_reducible rfl | simp
  simp only [Act.put, List.setIfInBounds_toArray, List.set_cons_zero, List.set_cons_succ]
  refine seqP_value (fun w => Below.refl _ _) _ (by first | rfl | simp) (fun w' hw' hctx => ?_) ?_
  · go_simp
    try first | with_reducible rfl | simp
  simp only [Act.put, List.setIfInBounds_toArray, List.set_cons_zero, List.set_cons_succ]
  refine seqP_value (fun w => Below.refl _ _) _ (by first | rfl | simp) (fun w' hw' hctx => ?_) ?_
  · go_simp
    try first | with_reducible rfl | simp
  simp only [Act.put, List.setIfInBounds_toArray, List.set_cons_zero, List.set_cons_succ]
  refine seqP_value (fun w => Below.refl _ _) _ (by first | rfl | simp) (fun w' hw' hctx => ?_) ?_
  · obtain ⟨c0, c1, c2, c3, c4⟩ := A34.below (below_tr hd hw')
    go_simp
    try first | with_reducible rfl | simp
  simp only [Act.put, List.setIfInBounds_toArray, List.set_cons_zero, List.set_cons_succ]
  refine seqP_call 10 #[.agg #[.int .u8 k, .int .i64 n, .int .i64 u, .string t]] (.bool true) (by first | rfl | simp) (fun w' hw' hctx => ?_) (fun w' hw' hctx => yes_is k n u t true Hhy.out w') ?_
  · go_simp
  simp only [Act.put, List.setIfInBounds_toArray, List.set_cons_zero, List.set_cons_succ]
  refine seqP_value (fun w => Below.refl _ _) _ (by first | rfl | simp) (fun w' hw' hctx => ?_) ?_
  · go_simp
    try first | with_reducible rfl | simp
  simp only [Act.put, List.setIfInBounds_toArray, List.set_cons_zero, List.set_cons_succ]
  refine seqP_skip (by first | rfl | simp) ?_
  simp only [Act.put, List.setIfInBounds_toArray, List.set_cons_zero, List.set_cons_succ]
  refine seqP_skip (by first | rfl | simp) ?_
  simp only [Act.put, List.setIfInBounds_toArray, List.set_cons_zero, List.set_cons_succ]
  refine seqP_skip (by first | rfl | simp) ?_
  simp only [Act.put, List.setIfInBounds_toArray, List.set_cons_zero, List.set_cons_succ]
  refine seqP_value (fun w => Below.refl _ _) _ (by first | rfl | simp) (fun w' hw' hctx => ?_) ?_
  · go_simp
    try first | with_reducible rfl | simp
  simp only [Act.put, List.setIfInBounds_toArray, List.set_cons_zero, List.set_cons_succ]
  refine seqP_value (fun w => Below.refl _ _) _ (by first | rfl | simp) (fun w' hw' hctx => ?_) ?_
  · go_simp
    try first | with_reducible rfl | simp
  simp only [Act.put, List.setIfInBounds_toArray, List.set_cons_zero, List.set_cons_succ]
  refine seqP_value (fun w => Below.refl _ _) _ (by first | rfl | simp) (fun w' hw' hctx => ?_) ?_
  · go_simp
    try first | with_reducible rfl | simp
  simp only [Act.put, List.setIfInBounds_toArray, List.set_cons_zero, List.set_cons_succ]
  refine seqP_nil (fun v18 hR hctx => ?_)
  have hv18 := below_tr hd hR
  clear hctx hR hd
  have A35 := A34.below hv18
  have Z35 := Z34.below hv18
  have B35 := B34.below hv18
  have C35 := C34.below hv18
  have D35 := D34.below hv18
  have E35 := E34.below hv18
  have hw35 := below_tr hw34 hv18
  clear A34 Z34 B34 C34 D34 E34
  clear hv18
  go_wp2_with fail
  go_ret
  exact ⟨rfl, hw35⟩

end Go.Proofs.Ytmbjhahlbbhdaaa
