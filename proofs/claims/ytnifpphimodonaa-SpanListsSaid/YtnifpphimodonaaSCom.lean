/-
  Common and Meets, of package span and the document's own.
-/
import Derived.Test.YtnifpphimodonaaSMeet
namespace Go.Proofs.Ytnifpphimodonaa
open Go.RowKit

/-- Two values' blocks and a result's. -/
theorem boxXX (w : World) (x y : Val) : ∃ W g, w.heap.size = g ∧ ((w.alloc (.cells #[.int .u8 x.k, .int .i64 x.n, .int .i64 x.u, .string x.t] 23)).alloc (.cells #[.int .u8 y.k, .int .i64 y.n, .int .i64 y.u, .string y.t] 23)).alloc (.cells #[.int .u8 0, .int .i64 0, .int .i64 0, .string ⟨#[]⟩] 23) = W ∧ Boxed W g x.k x.n x.u x.t ∧ Boxed W (g + 1) y.k y.n y.u y.t ∧ Boxed W (g + 2) 0 0 0 ⟨#[]⟩ ∧ Soft W (g + 2) ∧ Below w.heap.size w W ∧ W.heap.size = g + 3 := by
  have h1 := Boxed.new w x.k x.n x.u x.t 23
  have b1 := Below.allocs w (.cells #[.int .u8 x.k, .int .i64 x.n, .int .i64 x.u, .string x.t] 23)
  have h2 := Boxed.new (w.alloc (.cells #[.int .u8 x.k, .int .i64 x.n, .int .i64 x.u, .string x.t] 23)) y.k y.n y.u y.t 23
  have b2 := Below.allocs (w.alloc (.cells #[.int .u8 x.k, .int .i64 x.n, .int .i64 x.u, .string x.t] 23)) (.cells #[.int .u8 y.k, .int .i64 y.n, .int .i64 y.u, .string y.t] 23)
  have h3 := Boxed.new ((w.alloc (.cells #[.int .u8 x.k, .int .i64 x.n, .int .i64 x.u, .string x.t] 23)).alloc (.cells #[.int .u8 y.k, .int .i64 y.n, .int .i64 y.u, .string y.t] 23)) 0 0 0 ⟨#[]⟩ 23
  have h4 := Soft.new ((w.alloc (.cells #[.int .u8 x.k, .int .i64 x.n, .int .i64 x.u, .string x.t] 23)).alloc (.cells #[.int .u8 y.k, .int .i64 y.n, .int .i64 y.u, .string y.t] 23)) 0 0 0 ⟨#[]⟩ 23
  have b3 := Below.allocs ((w.alloc (.cells #[.int .u8 x.k, .int .i64 x.n, .int .i64 x.u, .string x.t] 23)).alloc (.cells #[.int .u8 y.k, .int .i64 y.n, .int .i64 y.u, .string y.t] 23)) (.cells #[.int .u8 0, .int .i64 0, .int .i64 0, .string ⟨#[]⟩] 23)
  have s1 : (w.alloc (.cells #[.int .u8 x.k, .int .i64 x.n, .int .i64 x.u, .string x.t] 23)).heap.size = w.heap.size + 1 := by simp
  have s2 : ((w.alloc (.cells #[.int .u8 x.k, .int .i64 x.n, .int .i64 x.u, .string x.t] 23)).alloc (.cells #[.int .u8 y.k, .int .i64 y.n, .int .i64 y.u, .string y.t] 23)).heap.size = w.heap.size + 2 := by simp
  rw [s1] at h2
  rw [s2] at h3 h4
  exact ⟨_, _, rfl, rfl, (h1.below b2).below b3, h2.below b3, h3, h4, below_tr (below_tr b1 b2) b3, by simp⟩

set_option maxRecDepth 100000 in
set_option maxHeartbeats 1000000 in
theorem com_x00 (x y : Val) (h1 : x.n < y.n) (h2 : y.u < x.u) (hx : okS x = false) (w : World) :
    Calls Try.prog 12 #[.agg #[.int .u8 x.k, .int .i64 x.n, .int .i64 x.u, .string x.t], .agg #[.int .u8 y.k, .int .i64 y.n, .int .i64 y.u, .string y.t]] w fun e w' => e = .returned (.tuple #[.agg #[.int .u8 0, .int .i64 0, .int .i64 0, .string ⟨#[]⟩], .bool false]) ∧ Below w.heap.size w w' := by
  obtain ⟨W, g, hg, hW, B0, B1, B2, S2, hb0, hs⟩ := boxXX w x y
  have HG := Lib.hid hg
  have HB := Lib.hid hb0
  have HS := Lib.hid hs
  have H0 := Lib.hid B0
  have H1 := Lib.hid B1
  have H2 := Lib.hid B2
  have HS2 := Lib.hid S2
  have HX := Lib.hid hx
  clear hs hb0 B2 S2 hx
  obtain ⟨b0, b1, b2, b3, b4⟩ := B0
  obtain ⟨d0, d1, d2, d3, d4⟩ := B1
  go_enter Try.func12, Try.ntmps12
  go_wp2_with fail
  refine (of_is (y.n) (y.u) _).mono ?_
  rintro e w1 ⟨rfl, hb1⟩
  obtain ⟨W1, g1, hW1, hg1, BO, hbo, hs1⟩ := boxX w1 (spanV (y.n) (y.u))
  subst hg1
  dsimp only [spanV] at hW1 BO
  have hA := below_tr hb1 hbo
  have HA := Lib.hid hA
  have HBO := Lib.hid BO
  have HW1 := Lib.hid hW1
  obtain ⟨a0, a1, a2, a3, a4⟩ := H0.out.below hb1
  clear b0 b1 b2 b3 b4 d0 d1 d2 d3 d4 hb1 hbo hs1 hA BO hW1
  go_wp2_with fail
  rw [HW1.out]
  refine (may_is x _ HX.out _).mono ?_
  rintro e w2 ⟨rfl, hb2⟩
  have hw2 := below_tr HA.out hb2
  clear a0 a1 a2 a3 a4
  obtain ⟨r0, r1, r2, r3, r4⟩ := H2.out.below hw2
  obtain ⟨s0, s1, s2, s3, s4⟩ := HS2.out.below hw2
  go_wp2_with fail
  have hwz := below_put4 (below_tr HB.out hw2) (by have := HG.out; omega : w.heap.size ≤ g + 2) 0 0 0 ⟨#[]⟩
  obtain ⟨q0, q1, q2, q3, q4⟩ := boxed_put4 (⟨r0, r1, r2, r3, r4⟩ : Boxed w2 (g + 2) 0 0 0 ⟨#[]⟩) 0 0 0 ⟨#[]⟩
  exact bodyPost_ret (w := put4 w2 (g + 2) 0 0 0 ⟨#[]⟩) (v := .tuple #[.agg #[.int .u8 0, .int .i64 0, .int .i64 0, .string ⟨#[]⟩], .bool false]) (by simp [results, Try.results12, go_sem, q0, q1, q2, q3]) rfl ⟨rfl, hwz⟩

set_option maxRecDepth 100000 in
set_option maxHeartbeats 1000000 in
theorem com_y00 (x y : Val) (h1 : x.n < y.n) (h2 : y.u < x.u) (hx : okS x = true ∧ okS y = false) (w : World) :
    Calls Try.prog 12 #[.agg #[.int .u8 x.k, .int .i64 x.n, .int .i64 x.u, .string x.t], .agg #[.int .u8 y.k, .int .i64 y.n, .int .i64 y.u, .string y.t]] w fun e w' => e = .returned (.tuple #[.agg #[.int .u8 0, .int .i64 0, .int .i64 0, .string ⟨#[]⟩], .bool false]) ∧ Below w.heap.size w w' := by
  obtain ⟨W, g, hg, hW, B0, B1, B2, S2, hb0, hs⟩ := boxXX w x y
  have HG := Lib.hid hg
  have HB := Lib.hid hb0
  have HS := Lib.hid hs
  have H0 := Lib.hid B0
  have H1 := Lib.hid B1
  have H2 := Lib.hid B2
  have HS2 := Lib.hid S2
  have HX := Lib.hid hx
  clear hs hb0 B2 S2 hx
  obtain ⟨b0, b1, b2, b3, b4⟩ := B0
  obtain ⟨d0, d1, d2, d3, d4⟩ := B1
  go_enter Try.func12, Try.ntmps12
  go_wp2_with fail
  refine (of_is (y.n) (y.u) _).mono ?_
  rintro e w1 ⟨rfl, hb1⟩
  obtain ⟨W1, g1, hW1, hg1, BO, hbo, hs1⟩ := boxX w1 (spanV (y.n) (y.u))
  subst hg1
  dsimp only [spanV] at hW1 BO
  have hA := below_tr hb1 hbo
  have HA := Lib.hid hA
  have HBO := Lib.hid BO
  have HW1 := Lib.hid hW1
  obtain ⟨a0, a1, a2, a3, a4⟩ := H0.out.below hb1
  clear b0 b1 b2 b3 b4 d0 d1 d2 d3 d4 hb1 hbo hs1 hA BO hW1
  go_wp2_with fail
  rw [HW1.out]
  refine (may_is x _ HX.out.1 _).mono ?_
  rintro e w2 ⟨rfl, hb2⟩
  have hw2 := below_tr HA.out hb2
  obtain ⟨e0, e1, e2, e3, e4⟩ := H1.out.below hw2
  clear a0 a1 a2 a3 a4
  go_wp2_with fail
  refine (may_is y _ HX.out.2 _).mono ?_
  rintro e w3 ⟨rfl, hb3⟩
  have hw3 := below_tr hw2 hb3
  clear e0 e1 e2 e3 e4
  obtain ⟨r0, r1, r2, r3, r4⟩ := H2.out.below hw3
  obtain ⟨s0, s1, s2, s3, s4⟩ := HS2.out.below hw3
  go_wp2_with fail
  have hwz := below_put4 (below_tr HB.out hw3) (by have := HG.out; omega : w.heap.size ≤ g + 2) 0 0 0 ⟨#[]⟩
  obtain ⟨q0, q1, q2, q3, q4⟩ := boxed_put4 (⟨r0, r1, r2, r3, r4⟩ : Boxed w3 (g + 2) 0 0 0 ⟨#[]⟩) 0 0 0 ⟨#[]⟩
  exact bodyPost_ret (w := put4 w3 (g + 2) 0 0 0 ⟨#[]⟩) (v := .tuple #[.agg #[.int .u8 0, .int .i64 0, .int .i64 0, .string ⟨#[]⟩], .bool false]) (by simp [results, Try.results12, go_sem, q0, q1, q2, q3]) rfl ⟨rfl, hwz⟩

set_option maxRecDepth 100000 in
set_option maxHeartbeats 1000000 in
theorem com_n00 (x y : Val) (h1 : x.n < y.n) (h2 : y.u < x.u) (hx : okS x = true ∧ okS y = true ∧ okS (spanV (y.n) (y.u)) = false) (w : World) :
    Calls Try.prog 12 #[.agg #[.int .u8 x.k, .int .i64 x.n, .int .i64 x.u, .string x.t], .agg #[.int .u8 y.k, .int .i64 y.n, .int .i64 y.u, .string y.t]] w fun e w' => e = .returned (.tuple #[.agg #[.int .u8 0, .int .i64 0, .int .i64 0, .string ⟨#[]⟩], .bool false]) ∧ Below w.heap.size w w' := by
  obtain ⟨W, g, hg, hW, B0, B1, B2, S2, hb0, hs⟩ := boxXX w x y
  have HG := Lib.hid hg
  have HB := Lib.hid hb0
  have HS := Lib.hid hs
  have H0 := Lib.hid B0
  have H1 := Lib.hid B1
  have H2 := Lib.hid B2
  have HS2 := Lib.hid S2
  have HX := Lib.hid hx
  clear hs hb0 B2 S2 hx
  obtain ⟨b0, b1, b2, b3, b4⟩ := B0
  obtain ⟨d0, d1, d2, d3, d4⟩ := B1
  go_enter Try.func12, Try.ntmps12
  go_wp2_with fail
  refine (of_is (y.n) (y.u) _).mono ?_
  rintro e w1 ⟨rfl, hb1⟩
  obtain ⟨W1, g1, hW1, hg1, BO, hbo, hs1⟩ := boxX w1 (spanV (y.n) (y.u))
  subst hg1
  dsimp only [spanV] at hW1 BO
  have hA := below_tr hb1 hbo
  have HA := Lib.hid hA
  have HBO := Lib.hid BO
  have HW1 := Lib.hid hW1
  obtain ⟨a0, a1, a2, a3, a4⟩ := H0.out.below hb1
  clear b0 b1 b2 b3 b4 d0 d1 d2 d3 d4 hb1 hbo hs1 hA BO hW1
  go_wp2_with fail
  rw [HW1.out]
  refine (may_is x _ HX.out.1 _).mono ?_
  rintro e w2 ⟨rfl, hb2⟩
  have hw2 := below_tr HA.out hb2
  obtain ⟨e0, e1, e2, e3, e4⟩ := H1.out.below hw2
  clear a0 a1 a2 a3 a4
  go_wp2_with fail
  refine (may_is y _ HX.out.2.1 _).mono ?_
  rintro e w3 ⟨rfl, hb3⟩
  have hw3 := below_tr hw2 hb3
  obtain ⟨m0, m1, m2, m3, m4⟩ := (HBO.out.below hb2).below hb3
  clear e0 e1 e2 e3 e4
  go_wp2_with fail
  refine (may_is (spanV (y.n) (y.u)) _ HX.out.2.2 _).mono ?_
  rintro e w4 ⟨rfl, hb4⟩
  have hw4 := below_tr hw3 hb4
  clear m0 m1 m2 m3 m4
  obtain ⟨r0, r1, r2, r3, r4⟩ := H2.out.below hw4
  obtain ⟨s0, s1, s2, s3, s4⟩ := HS2.out.below hw4
  go_wp2_with fail
  have hwz := below_put4 (below_tr HB.out hw4) (by have := HG.out; omega : w.heap.size ≤ g + 2) 0 0 0 ⟨#[]⟩
  obtain ⟨q0, q1, q2, q3, q4⟩ := boxed_put4 (⟨r0, r1, r2, r3, r4⟩ : Boxed w4 (g + 2) 0 0 0 ⟨#[]⟩) 0 0 0 ⟨#[]⟩
  exact bodyPost_ret (w := put4 w4 (g + 2) 0 0 0 ⟨#[]⟩) (v := .tuple #[.agg #[.int .u8 0, .int .i64 0, .int .i64 0, .string ⟨#[]⟩], .bool false]) (by simp [results, Try.results12, go_sem, q0, q1, q2, q3]) rfl ⟨rfl, hwz⟩

set_option maxRecDepth 100000 in
set_option maxHeartbeats 1000000 in
theorem com_t00 (x y : Val) (h1 : x.n < y.n) (h2 : y.u < x.u) (hx : okS x = true ∧ okS y = true ∧ okS (spanV (y.n) (y.u)) = true) (w : World) :
    Calls Try.prog 12 #[.agg #[.int .u8 x.k, .int .i64 x.n, .int .i64 x.u, .string x.t], .agg #[.int .u8 y.k, .int .i64 y.n, .int .i64 y.u, .string y.t]] w fun e w' => e = .returned (.tuple #[.agg #[.int .u8 4, .int .i64 (y.n), .int .i64 (y.u), .string ⟨#[]⟩], .bool true]) ∧ Below w.heap.size w w' := by
  obtain ⟨W, g, hg, hW, B0, B1, B2, S2, hb0, hs⟩ := boxXX w x y
  have HG := Lib.hid hg
  have HB := Lib.hid hb0
  have HS := Lib.hid hs
  have H0 := Lib.hid B0
  have H1 := Lib.hid B1
  have H2 := Lib.hid B2
  have HS2 := Lib.hid S2
  have HX := Lib.hid hx
  clear hs hb0 B2 S2 hx
  obtain ⟨b0, b1, b2, b3, b4⟩ := B0
  obtain ⟨d0, d1, d2, d3, d4⟩ := B1
  go_enter Try.func12, Try.ntmps12
  go_wp2_with fail
  refine (of_is (y.n) (y.u) _).mono ?_
  rintro e w1 ⟨rfl, hb1⟩
  obtain ⟨W1, g1, hW1, hg1, BO, hbo, hs1⟩ := boxX w1 (spanV (y.n) (y.u))
  subst hg1
  dsimp only [spanV] at hW1 BO
  have hA := below_tr hb1 hbo
  have HA := Lib.hid hA
  have HBO := Lib.hid BO
  have HW1 := Lib.hid hW1
  obtain ⟨a0, a1, a2, a3, a4⟩ := H0.out.below hb1
  clear b0 b1 b2 b3 b4 d0 d1 d2 d3 d4 hb1 hbo hs1 hA BO hW1
  go_wp2_with fail
  rw [HW1.out]
  refine (may_is x _ HX.out.1 _).mono ?_
  rintro e w2 ⟨rfl, hb2⟩
  have hw2 := below_tr HA.out hb2
  obtain ⟨e0, e1, e2, e3, e4⟩ := H1.out.below hw2
  clear a0 a1 a2 a3 a4
  go_wp2_with fail
  refine (may_is y _ HX.out.2.1 _).mono ?_
  rintro e w3 ⟨rfl, hb3⟩
  have hw3 := below_tr hw2 hb3
  obtain ⟨m0, m1, m2, m3, m4⟩ := (HBO.out.below hb2).below hb3
  clear e0 e1 e2 e3 e4
  go_wp2_with fail
  refine (may_is (spanV (y.n) (y.u)) _ HX.out.2.2 _).mono ?_
  rintro e w4 ⟨rfl, hb4⟩
  have hw4 := below_tr hw3 hb4
  clear m0 m1 m2 m3 m4
  obtain ⟨m0, m1, m2, m3, m4⟩ := ((HBO.out.below hb2).below hb3).below hb4
  obtain ⟨r0, r1, r2, r3, r4⟩ := H2.out.below hw4
  obtain ⟨s0, s1, s2, s3, s4⟩ := HS2.out.below hw4
  go_wp2_with fail
  have hwz := below_put4 (below_tr HB.out hw4) (by have := HG.out; omega : w.heap.size ≤ g + 2) 4 (y.n) (y.u) ⟨#[]⟩
  obtain ⟨q0, q1, q2, q3, q4⟩ := boxed_put4 (⟨r0, r1, r2, r3, r4⟩ : Boxed w4 (g + 2) 0 0 0 ⟨#[]⟩) 4 (y.n) (y.u) ⟨#[]⟩
  exact bodyPost_ret (w := put4 w4 (g + 2) 4 (y.n) (y.u) ⟨#[]⟩) (v := .tuple #[.agg #[.int .u8 4, .int .i64 (y.n), .int .i64 (y.u), .string ⟨#[]⟩], .bool true]) (by simp [results, Try.results12, go_sem, q0, q1, q2, q3]) rfl ⟨rfl, hwz⟩

set_option maxRecDepth 100000 in
set_option maxHeartbeats 1000000 in
theorem com_x01 (x y : Val) (h1 : x.n < y.n) (h2 : x.u ≤ y.u) (hx : okS x = false) (w : World) :
    Calls Try.prog 12 #[.agg #[.int .u8 x.k, .int .i64 x.n, .int .i64 x.u, .string x.t], .agg #[.int .u8 y.k, .int .i64 y.n, .int .i64 y.u, .string y.t]] w fun e w' => e = .returned (.tuple #[.agg #[.int .u8 0, .int .i64 0, .int .i64 0, .string ⟨#[]⟩], .bool false]) ∧ Below w.heap.size w w' := by
  obtain ⟨W, g, hg, hW, B0, B1, B2, S2, hb0, hs⟩ := boxXX w x y
  have HG := Lib.hid hg
  have HB := Lib.hid hb0
  have HS := Lib.hid hs
  have H0 := Lib.hid B0
  have H1 := Lib.hid B1
  have H2 := Lib.hid B2
  have HS2 := Lib.hid S2
  have HX := Lib.hid hx
  clear hs hb0 B2 S2 hx
  obtain ⟨b0, b1, b2, b3, b4⟩ := B0
  obtain ⟨d0, d1, d2, d3, d4⟩ := B1
  go_enter Try.func12, Try.ntmps12
  go_wp2_with fail
  refine (of_is (y.n) (x.u) _).mono ?_
  rintro e w1 ⟨rfl, hb1⟩
  obtain ⟨W1, g1, hW1, hg1, BO, hbo, hs1⟩ := boxX w1 (spanV (y.n) (x.u))
  subst hg1
  dsimp only [spanV] at hW1 BO
  have hA := below_tr hb1 hbo
  have HA := Lib.hid hA
  have HBO := Lib.hid BO
  have HW1 := Lib.hid hW1
  obtain ⟨a0, a1, a2, a3, a4⟩ := H0.out.below hb1
  clear b0 b1 b2 b3 b4 d0 d1 d2 d3 d4 hb1 hbo hs1 hA BO hW1
  go_wp2_with fail
  rw [HW1.out]
  refine (may_is x _ HX.out _).mono ?_
  rintro e w2 ⟨rfl, hb2⟩
  have hw2 := below_tr HA.out hb2
  clear a0 a1 a2 a3 a4
  obtain ⟨r0, r1, r2, r3, r4⟩ := H2.out.below hw2
  obtain ⟨s0, s1, s2, s3, s4⟩ := HS2.out.below hw2
  go_wp2_with fail
  have hwz := below_put4 (below_tr HB.out hw2) (by have := HG.out; omega : w.heap.size ≤ g + 2) 0 0 0 ⟨#[]⟩
  obtain ⟨q0, q1, q2, q3, q4⟩ := boxed_put4 (⟨r0, r1, r2, r3, r4⟩ : Boxed w2 (g + 2) 0 0 0 ⟨#[]⟩) 0 0 0 ⟨#[]⟩
  exact bodyPost_ret (w := put4 w2 (g + 2) 0 0 0 ⟨#[]⟩) (v := .tuple #[.agg #[.int .u8 0, .int .i64 0, .int .i64 0, .string ⟨#[]⟩], .bool false]) (by simp [results, Try.results12, go_sem, q0, q1, q2, q3]) rfl ⟨rfl, hwz⟩

set_option maxRecDepth 100000 in
set_option maxHeartbeats 1000000 in
theorem com_y01 (x y : Val) (h1 : x.n < y.n) (h2 : x.u ≤ y.u) (hx : okS x = true ∧ okS y = false) (w : World) :
    Calls Try.prog 12 #[.agg #[.int .u8 x.k, .int .i64 x.n, .int .i64 x.u, .string x.t], .agg #[.int .u8 y.k, .int .i64 y.n, .int .i64 y.u, .string y.t]] w fun e w' => e = .returned (.tuple #[.agg #[.int .u8 0, .int .i64 0, .int .i64 0, .string ⟨#[]⟩], .bool false]) ∧ Below w.heap.size w w' := by
  obtain ⟨W, g, hg, hW, B0, B1, B2, S2, hb0, hs⟩ := boxXX w x y
  have HG := Lib.hid hg
  have HB := Lib.hid hb0
  have HS := Lib.hid hs
  have H0 := Lib.hid B0
  have H1 := Lib.hid B1
  have H2 := Lib.hid B2
  have HS2 := Lib.hid S2
  have HX := Lib.hid hx
  clear hs hb0 B2 S2 hx
  obtain ⟨b0, b1, b2, b3, b4⟩ := B0
  obtain ⟨d0, d1, d2, d3, d4⟩ := B1
  go_enter Try.func12, Try.ntmps12
  go_wp2_with fail
  refine (of_is (y.n) (x.u) _).mono ?_
  rintro e w1 ⟨rfl, hb1⟩
  obtain ⟨W1, g1, hW1, hg1, BO, hbo, hs1⟩ := boxX w1 (spanV (y.n) (x.u))
  subst hg1
  dsimp only [spanV] at hW1 BO
  have hA := below_tr hb1 hbo
  have HA := Lib.hid hA
  have HBO := Lib.hid BO
  have HW1 := Lib.hid hW1
  obtain ⟨a0, a1, a2, a3, a4⟩ := H0.out.below hb1
  clear b0 b1 b2 b3 b4 d0 d1 d2 d3 d4 hb1 hbo hs1 hA BO hW1
  go_wp2_with fail
  rw [HW1.out]
  refine (may_is x _ HX.out.1 _).mono ?_
  rintro e w2 ⟨rfl, hb2⟩
  have hw2 := below_tr HA.out hb2
  obtain ⟨e0, e1, e2, e3, e4⟩ := H1.out.below hw2
  clear a0 a1 a2 a3 a4
  go_wp2_with fail
  refine (may_is y _ HX.out.2 _).mono ?_
  rintro e w3 ⟨rfl, hb3⟩
  have hw3 := below_tr hw2 hb3
  clear e0 e1 e2 e3 e4
  obtain ⟨r0, r1, r2, r3, r4⟩ := H2.out.below hw3
  obtain ⟨s0, s1, s2, s3, s4⟩ := HS2.out.below hw3
  go_wp2_with fail
  have hwz := below_put4 (below_tr HB.out hw3) (by have := HG.out; omega : w.heap.size ≤ g + 2) 0 0 0 ⟨#[]⟩
  obtain ⟨q0, q1, q2, q3, q4⟩ := boxed_put4 (⟨r0, r1, r2, r3, r4⟩ : Boxed w3 (g + 2) 0 0 0 ⟨#[]⟩) 0 0 0 ⟨#[]⟩
  exact bodyPost_ret (w := put4 w3 (g + 2) 0 0 0 ⟨#[]⟩) (v := .tuple #[.agg #[.int .u8 0, .int .i64 0, .int .i64 0, .string ⟨#[]⟩], .bool false]) (by simp [results, Try.results12, go_sem, q0, q1, q2, q3]) rfl ⟨rfl, hwz⟩

set_option maxRecDepth 100000 in
set_option maxHeartbeats 1000000 in
theorem com_n01 (x y : Val) (h1 : x.n < y.n) (h2 : x.u ≤ y.u) (hx : okS x = true ∧ okS y = true ∧ okS (spanV (y.n) (x.u)) = false) (w : World) :
    Calls Try.prog 12 #[.agg #[.int .u8 x.k, .int .i64 x.n, .int .i64 x.u, .string x.t], .agg #[.int .u8 y.k, .int .i64 y.n, .int .i64 y.u, .string y.t]] w fun e w' => e = .returned (.tuple #[.agg #[.int .u8 0, .int .i64 0, .int .i64 0, .string ⟨#[]⟩], .bool false]) ∧ Below w.heap.size w w' := by
  obtain ⟨W, g, hg, hW, B0, B1, B2, S2, hb0, hs⟩ := boxXX w x y
  have HG := Lib.hid hg
  have HB := Lib.hid hb0
  have HS := Lib.hid hs
  have H0 := Lib.hid B0
  have H1 := Lib.hid B1
  have H2 := Lib.hid B2
  have HS2 := Lib.hid S2
  have HX := Lib.hid hx
  clear hs hb0 B2 S2 hx
  obtain ⟨b0, b1, b2, b3, b4⟩ := B0
  obtain ⟨d0, d1, d2, d3, d4⟩ := B1
  go_enter Try.func12, Try.ntmps12
  go_wp2_with fail
  refine (of_is (y.n) (x.u) _).mono ?_
  rintro e w1 ⟨rfl, hb1⟩
  obtain ⟨W1, g1, hW1, hg1, BO, hbo, hs1⟩ := boxX w1 (spanV (y.n) (x.u))
  subst hg1
  dsimp only [spanV] at hW1 BO
  have hA := below_tr hb1 hbo
  have HA := Lib.hid hA
  have HBO := Lib.hid BO
  have HW1 := Lib.hid hW1
  obtain ⟨a0, a1, a2, a3, a4⟩ := H0.out.below hb1
  clear b0 b1 b2 b3 b4 d0 d1 d2 d3 d4 hb1 hbo hs1 hA BO hW1
  go_wp2_with fail
  rw [HW1.out]
  refine (may_is x _ HX.out.1 _).mono ?_
  rintro e w2 ⟨rfl, hb2⟩
  have hw2 := below_tr HA.out hb2
  obtain ⟨e0, e1, e2, e3, e4⟩ := H1.out.below hw2
  clear a0 a1 a2 a3 a4
  go_wp2_with fail
  refine (may_is y _ HX.out.2.1 _).mono ?_
  rintro e w3 ⟨rfl, hb3⟩
  have hw3 := below_tr hw2 hb3
  obtain ⟨m0, m1, m2, m3, m4⟩ := (HBO.out.below hb2).below hb3
  clear e0 e1 e2 e3 e4
  go_wp2_with fail
  refine (may_is (spanV (y.n) (x.u)) _ HX.out.2.2 _).mono ?_
  rintro e w4 ⟨rfl, hb4⟩
  have hw4 := below_tr hw3 hb4
  clear m0 m1 m2 m3 m4
  obtain ⟨r0, r1, r2, r3, r4⟩ := H2.out.below hw4
  obtain ⟨s0, s1, s2, s3, s4⟩ := HS2.out.below hw4
  go_wp2_with fail
  have hwz := below_put4 (below_tr HB.out hw4) (by have := HG.out; omega : w.heap.size ≤ g + 2) 0 0 0 ⟨#[]⟩
  obtain ⟨q0, q1, q2, q3, q4⟩ := boxed_put4 (⟨r0, r1, r2, r3, r4⟩ : Boxed w4 (g + 2) 0 0 0 ⟨#[]⟩) 0 0 0 ⟨#[]⟩
  exact bodyPost_ret (w := put4 w4 (g + 2) 0 0 0 ⟨#[]⟩) (v := .tuple #[.agg #[.int .u8 0, .int .i64 0, .int .i64 0, .string ⟨#[]⟩], .bool false]) (by simp [results, Try.results12, go_sem, q0, q1, q2, q3]) rfl ⟨rfl, hwz⟩

set_option maxRecDepth 100000 in
set_option maxHeartbeats 1000000 in
theorem com_t01 (x y : Val) (h1 : x.n < y.n) (h2 : x.u ≤ y.u) (hx : okS x = true ∧ okS y = true ∧ okS (spanV (y.n) (x.u)) = true) (w : World) :
    Calls Try.prog 12 #[.agg #[.int .u8 x.k, .int .i64 x.n, .int .i64 x.u, .string x.t], .agg #[.int .u8 y.k, .int .i64 y.n, .int .i64 y.u, .string y.t]] w fun e w' => e = .returned (.tuple #[.agg #[.int .u8 4, .int .i64 (y.n), .int .i64 (x.u), .string ⟨#[]⟩], .bool true]) ∧ Below w.heap.size w w' := by
  obtain ⟨W, g, hg, hW, B0, B1, B2, S2, hb0, hs⟩ := boxXX w x y
  have HG := Lib.hid hg
  have HB := Lib.hid hb0
  have HS := Lib.hid hs
  have H0 := Lib.hid B0
  have H1 := Lib.hid B1
  have H2 := Lib.hid B2
  have HS2 := Lib.hid S2
  have HX := Lib.hid hx
  clear hs hb0 B2 S2 hx
  obtain ⟨b0, b1, b2, b3, b4⟩ := B0
  obtain ⟨d0, d1, d2, d3, d4⟩ := B1
  go_enter Try.func12, Try.ntmps12
  go_wp2_with fail
  refine (of_is (y.n) (x.u) _).mono ?_
  rintro e w1 ⟨rfl, hb1⟩
  obtain ⟨W1, g1, hW1, hg1, BO, hbo, hs1⟩ := boxX w1 (spanV (y.n) (x.u))
  subst hg1
  dsimp only [spanV] at hW1 BO
  have hA := below_tr hb1 hbo
  have HA := Lib.hid hA
  have HBO := Lib.hid BO
  have HW1 := Lib.hid hW1
  obtain ⟨a0, a1, a2, a3, a4⟩ := H0.out.below hb1
  clear b0 b1 b2 b3 b4 d0 d1 d2 d3 d4 hb1 hbo hs1 hA BO hW1
  go_wp2_with fail
  rw [HW1.out]
  refine (may_is x _ HX.out.1 _).mono ?_
  rintro e w2 ⟨rfl, hb2⟩
  have hw2 := below_tr HA.out hb2
  obtain ⟨e0, e1, e2, e3, e4⟩ := H1.out.below hw2
  clear a0 a1 a2 a3 a4
  go_wp2_with fail
  refine (may_is y _ HX.out.2.1 _).mono ?_
  rintro e w3 ⟨rfl, hb3⟩
  have hw3 := below_tr hw2 hb3
  obtain ⟨m0, m1, m2, m3, m4⟩ := (HBO.out.below hb2).below hb3
  clear e0 e1 e2 e3 e4
  go_wp2_with fail
  refine (may_is (spanV (y.n) (x.u)) _ HX.out.2.2 _).mono ?_
  rintro e w4 ⟨rfl, hb4⟩
  have hw4 := below_tr hw3 hb4
  clear m0 m1 m2 m3 m4
  obtain ⟨m0, m1, m2, m3, m4⟩ := ((HBO.out.below hb2).below hb3).below hb4
  obtain ⟨r0, r1, r2, r3, r4⟩ := H2.out.below hw4
  obtain ⟨s0, s1, s2, s3, s4⟩ := HS2.out.below hw4
  go_wp2_with fail
  have hwz := below_put4 (below_tr HB.out hw4) (by have := HG.out; omega : w.heap.size ≤ g + 2) 4 (y.n) (x.u) ⟨#[]⟩
  obtain ⟨q0, q1, q2, q3, q4⟩ := boxed_put4 (⟨r0, r1, r2, r3, r4⟩ : Boxed w4 (g + 2) 0 0 0 ⟨#[]⟩) 4 (y.n) (x.u) ⟨#[]⟩
  exact bodyPost_ret (w := put4 w4 (g + 2) 4 (y.n) (x.u) ⟨#[]⟩) (v := .tuple #[.agg #[.int .u8 4, .int .i64 (y.n), .int .i64 (x.u), .string ⟨#[]⟩], .bool true]) (by simp [results, Try.results12, go_sem, q0, q1, q2, q3]) rfl ⟨rfl, hwz⟩

set_option maxRecDepth 100000 in
set_option maxHeartbeats 1000000 in
theorem com_x10 (x y : Val) (h1 : y.n ≤ x.n) (h2 : y.u < x.u) (hx : okS x = false) (w : World) :
    Calls Try.prog 12 #[.agg #[.int .u8 x.k, .int .i64 x.n, .int .i64 x.u, .string x.t], .agg #[.int .u8 y.k, .int .i64 y.n, .int .i64 y.u, .string y.t]] w fun e w' => e = .returned (.tuple #[.agg #[.int .u8 0, .int .i64 0, .int .i64 0, .string ⟨#[]⟩], .bool false]) ∧ Below w.heap.size w w' := by
  obtain ⟨W, g, hg, hW, B0, B1, B2, S2, hb0, hs⟩ := boxXX w x y
  have HG := Lib.hid hg
  have HB := Lib.hid hb0
  have HS := Lib.hid hs
  have H0 := Lib.hid B0
  have H1 := Lib.hid B1
  have H2 := Lib.hid B2
  have HS2 := Lib.hid S2
  have HX := Lib.hid hx
  clear hs hb0 B2 S2 hx
  obtain ⟨b0, b1, b2, b3, b4⟩ := B0
  obtain ⟨d0, d1, d2, d3, d4⟩ := B1
  go_enter Try.func12, Try.ntmps12
  go_wp2_with fail
  refine (of_is (x.n) (y.u) _).mono ?_
  rintro e w1 ⟨rfl, hb1⟩
  obtain ⟨W1, g1, hW1, hg1, BO, hbo, hs1⟩ := boxX w1 (spanV (x.n) (y.u))
  subst hg1
  dsimp only [spanV] at hW1 BO
  have hA := below_tr hb1 hbo
  have HA := Lib.hid hA
  have HBO := Lib.hid BO
  have HW1 := Lib.hid hW1
  obtain ⟨a0, a1, a2, a3, a4⟩ := H0.out.below hb1
  clear b0 b1 b2 b3 b4 d0 d1 d2 d3 d4 hb1 hbo hs1 hA BO hW1
  go_wp2_with fail
  rw [HW1.out]
  refine (may_is x _ HX.out _).mono ?_
  rintro e w2 ⟨rfl, hb2⟩
  have hw2 := below_tr HA.out hb2
  clear a0 a1 a2 a3 a4
  obtain ⟨r0, r1, r2, r3, r4⟩ := H2.out.below hw2
  obtain ⟨s0, s1, s2, s3, s4⟩ := HS2.out.below hw2
  go_wp2_with fail
  have hwz := below_put4 (below_tr HB.out hw2) (by have := HG.out; omega : w.heap.size ≤ g + 2) 0 0 0 ⟨#[]⟩
  obtain ⟨q0, q1, q2, q3, q4⟩ := boxed_put4 (⟨r0, r1, r2, r3, r4⟩ : Boxed w2 (g + 2) 0 0 0 ⟨#[]⟩) 0 0 0 ⟨#[]⟩
  exact bodyPost_ret (w := put4 w2 (g + 2) 0 0 0 ⟨#[]⟩) (v := .tuple #[.agg #[.int .u8 0, .int .i64 0, .int .i64 0, .string ⟨#[]⟩], .bool false]) (by simp [results, Try.results12, go_sem, q0, q1, q2, q3]) rfl ⟨rfl, hwz⟩

set_option maxRecDepth 100000 in
set_option maxHeartbeats 1000000 in
theorem com_y10 (x y : Val) (h1 : y.n ≤ x.n) (h2 : y.u < x.u) (hx : okS x = true ∧ okS y = false) (w : World) :
    Calls Try.prog 12 #[.agg #[.int .u8 x.k, .int .i64 x.n, .int .i64 x.u, .string x.t], .agg #[.int .u8 y.k, .int .i64 y.n, .int .i64 y.u, .string y.t]] w fun e w' => e = .returned (.tuple #[.agg #[.int .u8 0, .int .i64 0, .int .i64 0, .string ⟨#[]⟩], .bool false]) ∧ Below w.heap.size w w' := by
  obtain ⟨W, g, hg, hW, B0, B1, B2, S2, hb0, hs⟩ := boxXX w x y
  have HG := Lib.hid hg
  have HB := Lib.hid hb0
  have HS := Lib.hid hs
  have H0 := Lib.hid B0
  have H1 := Lib.hid B1
  have H2 := Lib.hid B2
  have HS2 := Lib.hid S2
  have HX := Lib.hid hx
  clear hs hb0 B2 S2 hx
  obtain ⟨b0, b1, b2, b3, b4⟩ := B0
  obtain ⟨d0, d1, d2, d3, d4⟩ := B1
  go_enter Try.func12, Try.ntmps12
  go_wp2_with fail
  refine (of_is (x.n) (y.u) _).mono ?_
  rintro e w1 ⟨rfl, hb1⟩
  obtain ⟨W1, g1, hW1, hg1, BO, hbo, hs1⟩ := boxX w1 (spanV (x.n) (y.u))
  subst hg1
  dsimp only [spanV] at hW1 BO
  have hA := below_tr hb1 hbo
  have HA := Lib.hid hA
  have HBO := Lib.hid BO
  have HW1 := Lib.hid hW1
  obtain ⟨a0, a1, a2, a3, a4⟩ := H0.out.below hb1
  clear b0 b1 b2 b3 b4 d0 d1 d2 d3 d4 hb1 hbo hs1 hA BO hW1
  go_wp2_with fail
  rw [HW1.out]
  refine (may_is x _ HX.out.1 _).mono ?_
  rintro e w2 ⟨rfl, hb2⟩
  have hw2 := below_tr HA.out hb2
  obtain ⟨e0, e1, e2, e3, e4⟩ := H1.out.below hw2
  clear a0 a1 a2 a3 a4
  go_wp2_with fail
  refine (may_is y _ HX.out.2 _).mono ?_
  rintro e w3 ⟨rfl, hb3⟩
  have hw3 := below_tr hw2 hb3
  clear e0 e1 e2 e3 e4
  obtain ⟨r0, r1, r2, r3, r4⟩ := H2.out.below hw3
  obtain ⟨s0, s1, s2, s3, s4⟩ := HS2.out.below hw3
  go_wp2_with fail
  have hwz := below_put4 (below_tr HB.out hw3) (by have := HG.out; omega : w.heap.size ≤ g + 2) 0 0 0 ⟨#[]⟩
  obtain ⟨q0, q1, q2, q3, q4⟩ := boxed_put4 (⟨r0, r1, r2, r3, r4⟩ : Boxed w3 (g + 2) 0 0 0 ⟨#[]⟩) 0 0 0 ⟨#[]⟩
  exact bodyPost_ret (w := put4 w3 (g + 2) 0 0 0 ⟨#[]⟩) (v := .tuple #[.agg #[.int .u8 0, .int .i64 0, .int .i64 0, .string ⟨#[]⟩], .bool false]) (by simp [results, Try.results12, go_sem, q0, q1, q2, q3]) rfl ⟨rfl, hwz⟩

set_option maxRecDepth 100000 in
set_option maxHeartbeats 1000000 in
theorem com_n10 (x y : Val) (h1 : y.n ≤ x.n) (h2 : y.u < x.u) (hx : okS x = true ∧ okS y = true ∧ okS (spanV (x.n) (y.u)) = false) (w : World) :
    Calls Try.prog 12 #[.agg #[.int .u8 x.k, .int .i64 x.n, .int .i64 x.u, .string x.t], .agg #[.int .u8 y.k, .int .i64 y.n, .int .i64 y.u, .string y.t]] w fun e w' => e = .returned (.tuple #[.agg #[.int .u8 0, .int .i64 0, .int .i64 0, .string ⟨#[]⟩], .bool false]) ∧ Below w.heap.size w w' := by
  obtain ⟨W, g, hg, hW, B0, B1, B2, S2, hb0, hs⟩ := boxXX w x y
  have HG := Lib.hid hg
  have HB := Lib.hid hb0
  have HS := Lib.hid hs
  have H0 := Lib.hid B0
  have H1 := Lib.hid B1
  have H2 := Lib.hid B2
  have HS2 := Lib.hid S2
  have HX := Lib.hid hx
  clear hs hb0 B2 S2 hx
  obtain ⟨b0, b1, b2, b3, b4⟩ := B0
  obtain ⟨d0, d1, d2, d3, d4⟩ := B1
  go_enter Try.func12, Try.ntmps12
  go_wp2_with fail
  refine (of_is (x.n) (y.u) _).mono ?_
  rintro e w1 ⟨rfl, hb1⟩
  obtain ⟨W1, g1, hW1, hg1, BO, hbo, hs1⟩ := boxX w1 (spanV (x.n) (y.u))
  subst hg1
  dsimp only [spanV] at hW1 BO
  have hA := below_tr hb1 hbo
  have HA := Lib.hid hA
  have HBO := Lib.hid BO
  have HW1 := Lib.hid hW1
  obtain ⟨a0, a1, a2, a3, a4⟩ := H0.out.below hb1
  clear b0 b1 b2 b3 b4 d0 d1 d2 d3 d4 hb1 hbo hs1 hA BO hW1
  go_wp2_with fail
  rw [HW1.out]
  refine (may_is x _ HX.out.1 _).mono ?_
  rintro e w2 ⟨rfl, hb2⟩
  have hw2 := below_tr HA.out hb2
  obtain ⟨e0, e1, e2, e3, e4⟩ := H1.out.below hw2
  clear a0 a1 a2 a3 a4
  go_wp2_with fail
  refine (may_is y _ HX.out.2.1 _).mono ?_
  rintro e w3 ⟨rfl, hb3⟩
  have hw3 := below_tr hw2 hb3
  obtain ⟨m0, m1, m2, m3, m4⟩ := (HBO.out.below hb2).below hb3
  clear e0 e1 e2 e3 e4
  go_wp2_with fail
  refine (may_is (spanV (x.n) (y.u)) _ HX.out.2.2 _).mono ?_
  rintro e w4 ⟨rfl, hb4⟩
  have hw4 := below_tr hw3 hb4
  clear m0 m1 m2 m3 m4
  obtain ⟨r0, r1, r2, r3, r4⟩ := H2.out.below hw4
  obtain ⟨s0, s1, s2, s3, s4⟩ := HS2.out.below hw4
  go_wp2_with fail
  have hwz := below_put4 (below_tr HB.out hw4) (by have := HG.out; omega : w.heap.size ≤ g + 2) 0 0 0 ⟨#[]⟩
  obtain ⟨q0, q1, q2, q3, q4⟩ := boxed_put4 (⟨r0, r1, r2, r3, r4⟩ : Boxed w4 (g + 2) 0 0 0 ⟨#[]⟩) 0 0 0 ⟨#[]⟩
  exact bodyPost_ret (w := put4 w4 (g + 2) 0 0 0 ⟨#[]⟩) (v := .tuple #[.agg #[.int .u8 0, .int .i64 0, .int .i64 0, .string ⟨#[]⟩], .bool false]) (by simp [results, Try.results12, go_sem, q0, q1, q2, q3]) rfl ⟨rfl, hwz⟩

set_option maxRecDepth 100000 in
set_option maxHeartbeats 1000000 in
theorem com_t10 (x y : Val) (h1 : y.n ≤ x.n) (h2 : y.u < x.u) (hx : okS x = true ∧ okS y = true ∧ okS (spanV (x.n) (y.u)) = true) (w : World) :
    Calls Try.prog 12 #[.agg #[.int .u8 x.k, .int .i64 x.n, .int .i64 x.u, .string x.t], .agg #[.int .u8 y.k, .int .i64 y.n, .int .i64 y.u, .string y.t]] w fun e w' => e = .returned (.tuple #[.agg #[.int .u8 4, .int .i64 (x.n), .int .i64 (y.u), .string ⟨#[]⟩], .bool true]) ∧ Below w.heap.size w w' := by
  obtain ⟨W, g, hg, hW, B0, B1, B2, S2, hb0, hs⟩ := boxXX w x y
  have HG := Lib.hid hg
  have HB := Lib.hid hb0
  have HS := Lib.hid hs
  have H0 := Lib.hid B0
  have H1 := Lib.hid B1
  have H2 := Lib.hid B2
  have HS2 := Lib.hid S2
  have HX := Lib.hid hx
  clear hs hb0 B2 S2 hx
  obtain ⟨b0, b1, b2, b3, b4⟩ := B0
  obtain ⟨d0, d1, d2, d3, d4⟩ := B1
  go_enter Try.func12, Try.ntmps12
  go_wp2_with fail
  refine (of_is (x.n) (y.u) _).mono ?_
  rintro e w1 ⟨rfl, hb1⟩
  obtain ⟨W1, g1, hW1, hg1, BO, hbo, hs1⟩ := boxX w1 (spanV (x.n) (y.u))
  subst hg1
  dsimp only [spanV] at hW1 BO
  have hA := below_tr hb1 hbo
  have HA := Lib.hid hA
  have HBO := Lib.hid BO
  have HW1 := Lib.hid hW1
  obtain ⟨a0, a1, a2, a3, a4⟩ := H0.out.below hb1
  clear b0 b1 b2 b3 b4 d0 d1 d2 d3 d4 hb1 hbo hs1 hA BO hW1
  go_wp2_with fail
  rw [HW1.out]
  refine (may_is x _ HX.out.1 _).mono ?_
  rintro e w2 ⟨rfl, hb2⟩
  have hw2 := below_tr HA.out hb2
  obtain ⟨e0, e1, e2, e3, e4⟩ := H1.out.below hw2
  clear a0 a1 a2 a3 a4
  go_wp2_with fail
  refine (may_is y _ HX.out.2.1 _).mono ?_
  rintro e w3 ⟨rfl, hb3⟩
  have hw3 := below_tr hw2 hb3
  obtain ⟨m0, m1, m2, m3, m4⟩ := (HBO.out.below hb2).below hb3
  clear e0 e1 e2 e3 e4
  go_wp2_with fail
  refine (may_is (spanV (x.n) (y.u)) _ HX.out.2.2 _).mono ?_
  rintro e w4 ⟨rfl, hb4⟩
  have hw4 := below_tr hw3 hb4
  clear m0 m1 m2 m3 m4
  obtain ⟨m0, m1, m2, m3, m4⟩ := ((HBO.out.below hb2).below hb3).below hb4
  obtain ⟨r0, r1, r2, r3, r4⟩ := H2.out.below hw4
  obtain ⟨s0, s1, s2, s3, s4⟩ := HS2.out.below hw4
  go_wp2_with fail
  have hwz := below_put4 (below_tr HB.out hw4) (by have := HG.out; omega : w.heap.size ≤ g + 2) 4 (x.n) (y.u) ⟨#[]⟩
  obtain ⟨q0, q1, q2, q3, q4⟩ := boxed_put4 (⟨r0, r1, r2, r3, r4⟩ : Boxed w4 (g + 2) 0 0 0 ⟨#[]⟩) 4 (x.n) (y.u) ⟨#[]⟩
  exact bodyPost_ret (w := put4 w4 (g + 2) 4 (x.n) (y.u) ⟨#[]⟩) (v := .tuple #[.agg #[.int .u8 4, .int .i64 (x.n), .int .i64 (y.u), .string ⟨#[]⟩], .bool true]) (by simp [results, Try.results12, go_sem, q0, q1, q2, q3]) rfl ⟨rfl, hwz⟩

set_option maxRecDepth 100000 in
set_option maxHeartbeats 1000000 in
theorem com_x11 (x y : Val) (h1 : y.n ≤ x.n) (h2 : x.u ≤ y.u) (hx : okS x = false) (w : World) :
    Calls Try.prog 12 #[.agg #[.int .u8 x.k, .int .i64 x.n, .int .i64 x.u, .string x.t], .agg #[.int .u8 y.k, .int .i64 y.n, .int .i64 y.u, .string y.t]] w fun e w' => e = .returned (.tuple #[.agg #[.int .u8 0, .int .i64 0, .int .i64 0, .string ⟨#[]⟩], .bool false]) ∧ Below w.heap.size w w' := by
  obtain ⟨W, g, hg, hW, B0, B1, B2, S2, hb0, hs⟩ := boxXX w x y
  have HG := Lib.hid hg
  have HB := Lib.hid hb0
  have HS := Lib.hid hs
  have H0 := Lib.hid B0
  have H1 := Lib.hid B1
  have H2 := Lib.hid B2
  have HS2 := Lib.hid S2
  have HX := Lib.hid hx
  clear hs hb0 B2 S2 hx
  obtain ⟨b0, b1, b2, b3, b4⟩ := B0
  obtain ⟨d0, d1, d2, d3, d4⟩ := B1
  go_enter Try.func12, Try.ntmps12
  go_wp2_with fail
  refine (of_is (x.n) (x.u) _).mono ?_
  rintro e w1 ⟨rfl, hb1⟩
  obtain ⟨W1, g1, hW1, hg1, BO, hbo, hs1⟩ := boxX w1 (spanV (x.n) (x.u))
  subst hg1
  dsimp only [spanV] at hW1 BO
  have hA := below_tr hb1 hbo
  have HA := Lib.hid hA
  have HBO := Lib.hid BO
  have HW1 := Lib.hid hW1
  obtain ⟨a0, a1, a2, a3, a4⟩ := H0.out.below hb1
  clear b0 b1 b2 b3 b4 d0 d1 d2 d3 d4 hb1 hbo hs1 hA BO hW1
  go_wp2_with fail
  rw [HW1.out]
  refine (may_is x _ HX.out _).mono ?_
  rintro e w2 ⟨rfl, hb2⟩
  have hw2 := below_tr HA.out hb2
  clear a0 a1 a2 a3 a4
  obtain ⟨r0, r1, r2, r3, r4⟩ := H2.out.below hw2
  obtain ⟨s0, s1, s2, s3, s4⟩ := HS2.out.below hw2
  go_wp2_with fail
  have hwz := below_put4 (below_tr HB.out hw2) (by have := HG.out; omega : w.heap.size ≤ g + 2) 0 0 0 ⟨#[]⟩
  obtain ⟨q0, q1, q2, q3, q4⟩ := boxed_put4 (⟨r0, r1, r2, r3, r4⟩ : Boxed w2 (g + 2) 0 0 0 ⟨#[]⟩) 0 0 0 ⟨#[]⟩
  exact bodyPost_ret (w := put4 w2 (g + 2) 0 0 0 ⟨#[]⟩) (v := .tuple #[.agg #[.int .u8 0, .int .i64 0, .int .i64 0, .string ⟨#[]⟩], .bool false]) (by simp [results, Try.results12, go_sem, q0, q1, q2, q3]) rfl ⟨rfl, hwz⟩

set_option maxRecDepth 100000 in
set_option maxHeartbeats 1000000 in
theorem com_y11 (x y : Val) (h1 : y.n ≤ x.n) (h2 : x.u ≤ y.u) (hx : okS x = true ∧ okS y = false) (w : World) :
    Calls Try.prog 12 #[.agg #[.int .u8 x.k, .int .i64 x.n, .int .i64 x.u, .string x.t], .agg #[.int .u8 y.k, .int .i64 y.n, .int .i64 y.u, .string y.t]] w fun e w' => e = .returned (.tuple #[.agg #[.int .u8 0, .int .i64 0, .int .i64 0, .string ⟨#[]⟩], .bool false]) ∧ Below w.heap.size w w' := by
  obtain ⟨W, g, hg, hW, B0, B1, B2, S2, hb0, hs⟩ := boxXX w x y
  have HG := Lib.hid hg
  have HB := Lib.hid hb0
  have HS := Lib.hid hs
  have H0 := Lib.hid B0
  have H1 := Lib.hid B1
  have H2 := Lib.hid B2
  have HS2 := Lib.hid S2
  have HX := Lib.hid hx
  clear hs hb0 B2 S2 hx
  obtain ⟨b0, b1, b2, b3, b4⟩ := B0
  obtain ⟨d0, d1, d2, d3, d4⟩ := B1
  go_enter Try.func12, Try.ntmps12
  go_wp2_with fail
  refine (of_is (x.n) (x.u) _).mono ?_
  rintro e w1 ⟨rfl, hb1⟩
  obtain ⟨W1, g1, hW1, hg1, BO, hbo, hs1⟩ := boxX w1 (spanV (x.n) (x.u))
  subst hg1
  dsimp only [spanV] at hW1 BO
  have hA := below_tr hb1 hbo
  have HA := Lib.hid hA
  have HBO := Lib.hid BO
  have HW1 := Lib.hid hW1
  obtain ⟨a0, a1, a2, a3, a4⟩ := H0.out.below hb1
  clear b0 b1 b2 b3 b4 d0 d1 d2 d3 d4 hb1 hbo hs1 hA BO hW1
  go_wp2_with fail
  rw [HW1.out]
  refine (may_is x _ HX.out.1 _).mono ?_
  rintro e w2 ⟨rfl, hb2⟩
  have hw2 := below_tr HA.out hb2
  obtain ⟨e0, e1, e2, e3, e4⟩ := H1.out.below hw2
  clear a0 a1 a2 a3 a4
  go_wp2_with fail
  refine (may_is y _ HX.out.2 _).mono ?_
  rintro e w3 ⟨rfl, hb3⟩
  have hw3 := below_tr hw2 hb3
  clear e0 e1 e2 e3 e4
  obtain ⟨r0, r1, r2, r3, r4⟩ := H2.out.below hw3
  obtain ⟨s0, s1, s2, s3, s4⟩ := HS2.out.below hw3
  go_wp2_with fail
  have hwz := below_put4 (below_tr HB.out hw3) (by have := HG.out; omega : w.heap.size ≤ g + 2) 0 0 0 ⟨#[]⟩
  obtain ⟨q0, q1, q2, q3, q4⟩ := boxed_put4 (⟨r0, r1, r2, r3, r4⟩ : Boxed w3 (g + 2) 0 0 0 ⟨#[]⟩) 0 0 0 ⟨#[]⟩
  exact bodyPost_ret (w := put4 w3 (g + 2) 0 0 0 ⟨#[]⟩) (v := .tuple #[.agg #[.int .u8 0, .int .i64 0, .int .i64 0, .string ⟨#[]⟩], .bool false]) (by simp [results, Try.results12, go_sem, q0, q1, q2, q3]) rfl ⟨rfl, hwz⟩

set_option maxRecDepth 100000 in
set_option maxHeartbeats 1000000 in
theorem com_n11 (x y : Val) (h1 : y.n ≤ x.n) (h2 : x.u ≤ y.u) (hx : okS x = true ∧ okS y = true ∧ okS (spanV (x.n) (x.u)) = false) (w : World) :
    Calls Try.prog 12 #[.agg #[.int .u8 x.k, .int .i64 x.n, .int .i64 x.u, .string x.t], .agg #[.int .u8 y.k, .int .i64 y.n, .int .i64 y.u, .string y.t]] w fun e w' => e = .returned (.tuple #[.agg #[.int .u8 0, .int .i64 0, .int .i64 0, .string ⟨#[]⟩], .bool false]) ∧ Below w.heap.size w w' := by
  obtain ⟨W, g, hg, hW, B0, B1, B2, S2, hb0, hs⟩ := boxXX w x y
  have HG := Lib.hid hg
  have HB := Lib.hid hb0
  have HS := Lib.hid hs
  have H0 := Lib.hid B0
  have H1 := Lib.hid B1
  have H2 := Lib.hid B2
  have HS2 := Lib.hid S2
  have HX := Lib.hid hx
  clear hs hb0 B2 S2 hx
  obtain ⟨b0, b1, b2, b3, b4⟩ := B0
  obtain ⟨d0, d1, d2, d3, d4⟩ := B1
  go_enter Try.func12, Try.ntmps12
  go_wp2_with fail
  refine (of_is (x.n) (x.u) _).mono ?_
  rintro e w1 ⟨rfl, hb1⟩
  obtain ⟨W1, g1, hW1, hg1, BO, hbo, hs1⟩ := boxX w1 (spanV (x.n) (x.u))
  subst hg1
  dsimp only [spanV] at hW1 BO
  have hA := below_tr hb1 hbo
  have HA := Lib.hid hA
  have HBO := Lib.hid BO
  have HW1 := Lib.hid hW1
  obtain ⟨a0, a1, a2, a3, a4⟩ := H0.out.below hb1
  clear b0 b1 b2 b3 b4 d0 d1 d2 d3 d4 hb1 hbo hs1 hA BO hW1
  go_wp2_with fail
  rw [HW1.out]
  refine (may_is x _ HX.out.1 _).mono ?_
  rintro e w2 ⟨rfl, hb2⟩
  have hw2 := below_tr HA.out hb2
  obtain ⟨e0, e1, e2, e3, e4⟩ := H1.out.below hw2
  clear a0 a1 a2 a3 a4
  go_wp2_with fail
  refine (may_is y _ HX.out.2.1 _).mono ?_
  rintro e w3 ⟨rfl, hb3⟩
  have hw3 := below_tr hw2 hb3
  obtain ⟨m0, m1, m2, m3, m4⟩ := (HBO.out.below hb2).below hb3
  clear e0 e1 e2 e3 e4
  go_wp2_with fail
  refine (may_is (spanV (x.n) (x.u)) _ HX.out.2.2 _).mono ?_
  rintro e w4 ⟨rfl, hb4⟩
  have hw4 := below_tr hw3 hb4
  clear m0 m1 m2 m3 m4
  obtain ⟨r0, r1, r2, r3, r4⟩ := H2.out.below hw4
  obtain ⟨s0, s1, s2, s3, s4⟩ := HS2.out.below hw4
  go_wp2_with fail
  have hwz := below_put4 (below_tr HB.out hw4) (by have := HG.out; omega : w.heap.size ≤ g + 2) 0 0 0 ⟨#[]⟩
  obtain ⟨q0, q1, q2, q3, q4⟩ := boxed_put4 (⟨r0, r1, r2, r3, r4⟩ : Boxed w4 (g + 2) 0 0 0 ⟨#[]⟩) 0 0 0 ⟨#[]⟩
  exact bodyPost_ret (w := put4 w4 (g + 2) 0 0 0 ⟨#[]⟩) (v := .tuple #[.agg #[.int .u8 0, .int .i64 0, .int .i64 0, .string ⟨#[]⟩], .bool false]) (by simp [results, Try.results12, go_sem, q0, q1, q2, q3]) rfl ⟨rfl, hwz⟩

set_option maxRecDepth 100000 in
set_option maxHeartbeats 1000000 in
theorem com_t11 (x y : Val) (h1 : y.n ≤ x.n) (h2 : x.u ≤ y.u) (hx : okS x = true ∧ okS y = true ∧ okS (spanV (x.n) (x.u)) = true) (w : World) :
    Calls Try.prog 12 #[.agg #[.int .u8 x.k, .int .i64 x.n, .int .i64 x.u, .string x.t], .agg #[.int .u8 y.k, .int .i64 y.n, .int .i64 y.u, .string y.t]] w fun e w' => e = .returned (.tuple #[.agg #[.int .u8 4, .int .i64 (x.n), .int .i64 (x.u), .string ⟨#[]⟩], .bool true]) ∧ Below w.heap.size w w' := by
  obtain ⟨W, g, hg, hW, B0, B1, B2, S2, hb0, hs⟩ := boxXX w x y
  have HG := Lib.hid hg
  have HB := Lib.hid hb0
  have HS := Lib.hid hs
  have H0 := Lib.hid B0
  have H1 := Lib.hid B1
  have H2 := Lib.hid B2
  have HS2 := Lib.hid S2
  have HX := Lib.hid hx
  clear hs hb0 B2 S2 hx
  obtain ⟨b0, b1, b2, b3, b4⟩ := B0
  obtain ⟨d0, d1, d2, d3, d4⟩ := B1
  go_enter Try.func12, Try.ntmps12
  go_wp2_with fail
  refine (of_is (x.n) (x.u) _).mono ?_
  rintro e w1 ⟨rfl, hb1⟩
  obtain ⟨W1, g1, hW1, hg1, BO, hbo, hs1⟩ := boxX w1 (spanV (x.n) (x.u))
  subst hg1
  dsimp only [spanV] at hW1 BO
  have hA := below_tr hb1 hbo
  have HA := Lib.hid hA
  have HBO := Lib.hid BO
  have HW1 := Lib.hid hW1
  obtain ⟨a0, a1, a2, a3, a4⟩ := H0.out.below hb1
  clear b0 b1 b2 b3 b4 d0 d1 d2 d3 d4 hb1 hbo hs1 hA BO hW1
  go_wp2_with fail
  rw [HW1.out]
  refine (may_is x _ HX.out.1 _).mono ?_
  rintro e w2 ⟨rfl, hb2⟩
  have hw2 := below_tr HA.out hb2
  obtain ⟨e0, e1, e2, e3, e4⟩ := H1.out.below hw2
  clear a0 a1 a2 a3 a4
  go_wp2_with fail
  refine (may_is y _ HX.out.2.1 _).mono ?_
  rintro e w3 ⟨rfl, hb3⟩
  have hw3 := below_tr hw2 hb3
  obtain ⟨m0, m1, m2, m3, m4⟩ := (HBO.out.below hb2).below hb3
  clear e0 e1 e2 e3 e4
  go_wp2_with fail
  refine (may_is (spanV (x.n) (x.u)) _ HX.out.2.2 _).mono ?_
  rintro e w4 ⟨rfl, hb4⟩
  have hw4 := below_tr hw3 hb4
  clear m0 m1 m2 m3 m4
  obtain ⟨m0, m1, m2, m3, m4⟩ := ((HBO.out.below hb2).below hb3).below hb4
  obtain ⟨r0, r1, r2, r3, r4⟩ := H2.out.below hw4
  obtain ⟨s0, s1, s2, s3, s4⟩ := HS2.out.below hw4
  go_wp2_with fail
  have hwz := below_put4 (below_tr HB.out hw4) (by have := HG.out; omega : w.heap.size ≤ g + 2) 4 (x.n) (x.u) ⟨#[]⟩
  obtain ⟨q0, q1, q2, q3, q4⟩ := boxed_put4 (⟨r0, r1, r2, r3, r4⟩ : Boxed w4 (g + 2) 0 0 0 ⟨#[]⟩) 4 (x.n) (x.u) ⟨#[]⟩
  exact bodyPost_ret (w := put4 w4 (g + 2) 4 (x.n) (x.u) ⟨#[]⟩) (v := .tuple #[.agg #[.int .u8 4, .int .i64 (x.n), .int .i64 (x.u), .string ⟨#[]⟩], .bool true]) (by simp [results, Try.results12, go_sem, q0, q1, q2, q3]) rfl ⟨rfl, hwz⟩

theorem comS_no {x y : Val} (h : meetS x y = false) : comS x y = Val.zero := by unfold comS; rw [h]; rfl

theorem com_is (x y : Val) (w : World) :
    Calls Try.prog 12 #[.agg #[.int .u8 x.k, .int .i64 x.n, .int .i64 x.u, .string x.t], .agg #[.int .u8 y.k, .int .i64 y.n, .int .i64 y.u, .string y.t]] w fun e w' => e = .returned (.tuple #[.agg #[.int .u8 (comS x y).k, .int .i64 (comS x y).n, .int .i64 (comS x y).u, .string (comS x y).t], .bool (meetS x y)]) ∧ Below w.heap.size w w' := by
  cases ox : okS x
  · have hm : meetS x y = false := by simp [meetS, ox]
    rw [comS_no hm, hm]
    rcases Int.lt_or_le x.n y.n with h1 | h1 <;> rcases Int.lt_or_le y.u x.u with h2 | h2
    · exact com_x00 x y h1 h2 ox w
    · exact com_x01 x y h1 h2 ox w
    · exact com_x10 x y h1 h2 ox w
    · exact com_x11 x y h1 h2 ox w
  cases oy : okS y
  · have hm : meetS x y = false := by simp [meetS, oy]
    rw [comS_no hm, hm]
    rcases Int.lt_or_le x.n y.n with h1 | h1 <;> rcases Int.lt_or_le y.u x.u with h2 | h2
    · exact com_y00 x y h1 h2 ⟨ox, oy⟩ w
    · exact com_y01 x y h1 h2 ⟨ox, oy⟩ w
    · exact com_y10 x y h1 h2 ⟨ox, oy⟩ w
    · exact com_y11 x y h1 h2 ⟨ox, oy⟩ w
  have hm : meetS x y = okS (spanV (max x.n y.n) (min x.u y.u)) := by rw [okS_span]; simp [meetS, ox, oy]
  rw [hm]
  cases om : okS (spanV (max x.n y.n) (min x.u y.u))
  · rw [comS_no (hm.trans om)]
    rcases Int.lt_or_le x.n y.n with h1 | h1 <;> rcases Int.lt_or_le y.u x.u with h2 | h2
    · rw [Int.max_eq_right (by omega), Int.min_eq_right (by omega)] at om
      exact com_n00 x y h1 h2 ⟨ox, oy, om⟩ w
    · rw [Int.max_eq_right (by omega), Int.min_eq_left (by omega)] at om
      exact com_n01 x y h1 h2 ⟨ox, oy, om⟩ w
    · rw [Int.max_eq_left (by omega), Int.min_eq_right (by omega)] at om
      exact com_n10 x y h1 h2 ⟨ox, oy, om⟩ w
    · rw [Int.max_eq_left (by omega), Int.min_eq_left (by omega)] at om
      exact com_n11 x y h1 h2 ⟨ox, oy, om⟩ w
  · have hc : comS x y = spanV (max x.n y.n) (min x.u y.u) := by unfold comS; rw [hm, om]; rfl
    rw [hc]
    rcases Int.lt_or_le x.n y.n with h1 | h1 <;> rcases Int.lt_or_le y.u x.u with h2 | h2
    · rw [Int.max_eq_right (by omega), Int.min_eq_right (by omega)] at om ⊢
      exact com_t00 x y h1 h2 ⟨ox, oy, om⟩ w
    · rw [Int.max_eq_right (by omega), Int.min_eq_left (by omega)] at om ⊢
      exact com_t01 x y h1 h2 ⟨ox, oy, om⟩ w
    · rw [Int.max_eq_left (by omega), Int.min_eq_right (by omega)] at om ⊢
      exact com_t10 x y h1 h2 ⟨ox, oy, om⟩ w
    · rw [Int.max_eq_left (by omega), Int.min_eq_left (by omega)] at om ⊢
      exact com_t11 x y h1 h2 ⟨ox, oy, om⟩ w

set_option maxRecDepth 100000 in
theorem meets_is (x y : Val) (b : Bool) (h : meetS x y = b) (w : World) :
    Calls Try.prog 18 #[.agg #[.int .u8 x.k, .int .i64 x.n, .int .i64 x.u, .string x.t], .agg #[.int .u8 y.k, .int .i64 y.n, .int .i64 y.u, .string y.t]] w fun e w' => e = .returned (.bool b) ∧ Below w.heap.size w w' := by
  subst h
  obtain ⟨W0, g0, hW0, hg0, A0, ha0, hs0⟩ := boxX w x
  obtain ⟨W, g, hW, hg, B0, hb0, hs⟩ := boxX W0 y
  have hcon := fun w => com_is x y w
  obtain ⟨c, hc⟩ : ∃ c, comS x y = c := ⟨_, rfl⟩
  rw [hc] at hcon
  have HC := Lib.hid hcon
  have HB := Lib.hid (below_tr ha0 hb0)
  obtain ⟨a0, a1, a2, a3, a4⟩ := A0.below hb0
  obtain ⟨b0, b1, b2, b3, b4⟩ := B0
  clear hs0 hs hcon hc ha0 hb0 A0
  go_enter Try.func18, Try.ntmps18
  go_wp2_with fail
  refine (HC.out _).mono ?_
  rintro e w1 ⟨rfl, hb1⟩
  go_wp2_with fail
  go_ret
  exact ⟨rfl, (below_tr HB.out hb1).alloc (below_tr HB.out hb1).size _⟩

end Go.Proofs.Ytnifpphimodonaa
