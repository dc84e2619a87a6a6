/-
  SpanTells, walked.
-/
import Derived.Test.YtnifpphimodonaaSAwake
namespace Go.Proofs.Ytnifpphimodonaa
open Go.RowKit

/-- Two values' blocks. -/
theorem boxYY (w : World) (x y : Val) : ∃ W g, w.heap.size = g ∧ (w.alloc (.cells #[.int .u8 x.k, .int .i64 x.n, .int .i64 x.u, .string x.t] 23)).alloc (.cells #[.int .u8 y.k, .int .i64 y.n, .int .i64 y.u, .string y.t] 23) = W ∧ Boxed W g x.k x.n x.u x.t ∧ Boxed W (g + 1) y.k y.n y.u y.t ∧ Below w.heap.size w W := by
  have h1 := Boxed.new w x.k x.n x.u x.t 23
  have b1 := Below.allocs w (.cells #[.int .u8 x.k, .int .i64 x.n, .int .i64 x.u, .string x.t] 23)
  have h2 := Boxed.new (w.alloc (.cells #[.int .u8 x.k, .int .i64 x.n, .int .i64 x.u, .string x.t] 23)) y.k y.n y.u y.t 23
  have b2 := Below.allocs (w.alloc (.cells #[.int .u8 x.k, .int .i64 x.n, .int .i64 x.u, .string x.t] 23)) (.cells #[.int .u8 y.k, .int .i64 y.n, .int .i64 y.u, .string y.t] 23)
  have s1 : (w.alloc (.cells #[.int .u8 x.k, .int .i64 x.n, .int .i64 x.u, .string x.t] 23)).heap.size = w.heap.size + 1 := by simp
  rw [s1] at h2
  exact ⟨_, _, rfl, rfl, h1.below b2, h2, below_tr b1 b2⟩

theorem eql_self (x : Val) (w : World) : (Go.binOp .eql 23 (.agg #[.int .u8 x.k, .int .i64 x.n, .int .i64 x.u, .string x.t]) (.agg #[.int .u8 x.k, .int .i64 x.n, .int .i64 x.u, .string x.t])).run Try.prog w = .ok (.bool true) w := eql_is x x true (eqB_iff.2 rfl) w

set_option maxRecDepth 100000 in
set_option maxHeartbeats 4000000 in
theorem tells_a (n u : Int) (x y : Val) (h : 1000 < x.t.size) (w : World) :
    Calls Try.prog 3 #[.int .i64 n, .int .i64 u, .agg #[.int .u8 x.k, .int .i64 x.n, .int .i64 x.u, .string x.t], .agg #[.int .u8 y.k, .int .i64 y.n, .int .i64 y.u, .string y.t]] w fun e w' => e = .returned (.bool true) ∧ Below w.heap.size w w' := by
  obtain ⟨W, g, hg, hW, B0, B1, hb0⟩ := boxYY w x y
  have HB := Lib.hid hb0
  have H0 := Lib.hid B0
  have H1 := Lib.hid B1
  obtain ⟨b0, b1, b2, b3, b4⟩ := B0
  obtain ⟨d0, d1, d2, d3, d4⟩ := B1
  clear hb0
  have h' : (1000 : Int) < (x.t.size : Int) := by omega
  clear h
  go_enter Try.func3, Try.ntmps3
  go_wp2_with fail
  refine (awake_is _).mono ?_
  rintro e w1 ⟨rfl, hb1⟩
  go_wp2_with fail
  go_ret
  exact ⟨rfl, below_tr HB.out hb1⟩

set_option maxRecDepth 100000 in
set_option maxHeartbeats 4000000 in
theorem tells_b (n u : Int) (x y : Val) (h : x.t.size ≤ 1000) (k : 1000 < y.t.size) (w : World) :
    Calls Try.prog 3 #[.int .i64 n, .int .i64 u, .agg #[.int .u8 x.k, .int .i64 x.n, .int .i64 x.u, .string x.t], .agg #[.int .u8 y.k, .int .i64 y.n, .int .i64 y.u, .string y.t]] w fun e w' => e = .returned (.bool true) ∧ Below w.heap.size w w' := by
  obtain ⟨W, g, hg, hW, B0, B1, hb0⟩ := boxYY w x y
  have HB := Lib.hid hb0
  have H0 := Lib.hid B0
  have H1 := Lib.hid B1
  obtain ⟨b0, b1, b2, b3, b4⟩ := B0
  obtain ⟨d0, d1, d2, d3, d4⟩ := B1
  clear hb0
  have h' : ¬ (1000 : Int) < (x.t.size : Int) := by omega
  have k' : (1000 : Int) < (y.t.size : Int) := by omega
  clear h k
  go_enter Try.func3, Try.ntmps3
  go_wp2_with fail
  refine (awake_is _).mono ?_
  rintro e w1 ⟨rfl, hb1⟩
  go_wp2_with fail
  go_ret
  exact ⟨rfl, below_tr HB.out hb1⟩

set_option maxRecDepth 100000 in
set_option maxHeartbeats 4000000 in
theorem tells_c (n u : Int) (x y : Val) (h : x.t.size ≤ 1000) (k : y.t.size ≤ 1000) (w : World) :
    Calls Try.prog 3 #[.int .i64 n, .int .i64 u, .agg #[.int .u8 x.k, .int .i64 x.n, .int .i64 x.u, .string x.t], .agg #[.int .u8 y.k, .int .i64 y.n, .int .i64 y.u, .string y.t]] w fun e w' => e = .returned (.bool true) ∧ Below w.heap.size w w' := by
  obtain ⟨W, g, hg, hW, B0, B1, hb0⟩ := boxYY w x y
  have HB := Lib.hid hb0
  have H0 := Lib.hid B0
  have H1 := Lib.hid B1
  obtain ⟨b0, b1, b2, b3, b4⟩ := B0
  obtain ⟨d0, d1, d2, d3, d4⟩ := B1
  clear hb0
  have h' : ¬ (1000 : Int) < (x.t.size : Int) := by omega
  have k' : ¬ (1000 : Int) < (y.t.size : Int) := by omega
  clear h k
  have ho1 := fun w => sof_is n u w
  have ho2 := fun w => rof_is n u w
  have hc1 := fun w => com_is x y w
  have hc2 := fun w => rcom_is x y w
  generalize ofS n u = o at ho1 ho2
  generalize ofE n u = oe at ho1 ho2
  have hm1 := fun w => meets_is x y _ rfl w
  have hm2 := fun w => rmeets_is x y _ rfl w
  generalize comS x y = c at hc1 hc2
  generalize meetS x y = m at hc1 hc2 hm1 hm2
  have hk1 := fun w => may_is x _ rfl w
  have hk2 := fun w => refMay_is x _ rfl w
  generalize okS x = ok at hk1 hk2
  have hx1 := fun w => has_is x n _ rfl w
  have hx2 := fun w => rhas_is x n _ rfl w
  generalize hasS x n = hx at hx1 hx2
  have hy1 := fun w => has_is y u _ rfl w
  have hy2 := fun w => rhas_is y u _ rfl w
  generalize hasS y u = hy at hy1 hy2
  have HO1 := Lib.hid ho1
  have HO2 := Lib.hid ho2
  have HC1 := Lib.hid hc1
  have HC2 := Lib.hid hc2
  have HM1 := Lib.hid hm1
  have HM2 := Lib.hid hm2
  have HK1 := Lib.hid hk1
  have HK2 := Lib.hid hk2
  have HX1 := Lib.hid hx1
  have HX2 := Lib.hid hx2
  have HY1 := Lib.hid hy1
  have HY2 := Lib.hid hy2
  have heo := eql_self o
  have hec := eql_self c
  clear ho1 ho2 hc1 hc2 hm1 hm2 hk1 hk2 hx1 hx2 hy1 hy2
  go_enter Try.func3, Try.ntmps3
  go_wp2_with fail
  clear b0 b1 b2 b3 b4 d0 d1 d2 d3 d4
  refine (HO1.out _).mono ?_
  rintro e a1 ⟨rfl, hb1⟩
  obtain ⟨W1, hW1, hN1, hn1⟩ : ∃ V, a1.alloc (.cells #[.int .u8 o.k, .int .i64 o.n, .int .i64 o.u, .string o.t] 23) = V ∧ Boxed V a1.heap.size o.k o.n o.u o.t ∧ Below a1.heap.size a1 V := ⟨_, rfl, Boxed.new _ _ _ _ _ _, Below.allocs _ _⟩
  have HW1 := Lib.hid hW1
  have hz1 := below_tr hb1 hn1
  have HB1 := Lib.hid (below_tr HB.out hz1)
  have HN1 := Lib.hid hN1
  have JX1 := Lib.hid (H0.out.below hz1)
  have JY1 := Lib.hid (H1.out.below hz1)
  obtain ⟨b0, b1, b2, b3, b4⟩ := H0.out.below hb1
  obtain ⟨d0, d1, d2, d3, d4⟩ := H1.out.below hb1
  clear hW1 hb1 hn1 hz1 hN1
  go_wp2_with fail
  rw [HW1.out]
  clear b0 b1 b2 b3 b4 d0 d1 d2 d3 d4
  refine (HO2.out _).mono ?_
  rintro e a2 ⟨rfl, hb2⟩
  obtain ⟨W2, hW2, hN2, hn2⟩ : ∃ V, a2.alloc (.cells #[.int .u8 o.k, .int .i64 o.n, .int .i64 o.u, .string o.t] 23) = V ∧ Boxed V a2.heap.size o.k o.n o.u o.t ∧ Below a2.heap.size a2 V := ⟨_, rfl, Boxed.new _ _ _ _ _ _, Below.allocs _ _⟩
  have HW2 := Lib.hid hW2
  have hz2 := below_tr hb2 hn2
  have HB2 := Lib.hid (below_tr HB1.out hz2)
  have HN2 := Lib.hid hN2
  have JX2 := Lib.hid (JX1.out.below hz2)
  have JY2 := Lib.hid (JY1.out.below hz2)
  have Jo12 := Lib.hid (HN1.out.below hz2)
  obtain ⟨b0, b1, b2, b3, b4⟩ := JX1.out.below hb2
  obtain ⟨d0, d1, d2, d3, d4⟩ := JY1.out.below hb2
  clear hW2 hb2 hn2 hz2 hN2
  go_wp2_with fail
  rw [HW2.out]
  clear b0 b1 b2 b3 b4 d0 d1 d2 d3 d4
  refine (HC1.out _).mono ?_
  rintro e a3 ⟨rfl, hb3⟩
  obtain ⟨W3, hW3, hN3, hn3⟩ : ∃ V, a3.alloc (.cells #[.int .u8 c.k, .int .i64 c.n, .int .i64 c.u, .string c.t] 23) = V ∧ Boxed V a3.heap.size c.k c.n c.u c.t ∧ Below a3.heap.size a3 V := ⟨_, rfl, Boxed.new _ _ _ _ _ _, Below.allocs _ _⟩
  have HW3 := Lib.hid hW3
  have hz3 := below_tr hb3 hn3
  have HB3 := Lib.hid (below_tr HB2.out hz3)
  have HN3 := Lib.hid hN3
  have JX3 := Lib.hid (JX2.out.below hz3)
  have JY3 := Lib.hid (JY2.out.below hz3)
  have Jo13 := Lib.hid (Jo12.out.below hz3)
  have Jo23 := Lib.hid (HN2.out.below hz3)
  obtain ⟨b0, b1, b2, b3, b4⟩ := JX2.out.below hb3
  obtain ⟨d0, d1, d2, d3, d4⟩ := JY2.out.below hb3
  clear hW3 hb3 hn3 hz3 hN3
  go_wp2_with fail
  rw [HW3.out]
  clear b0 b1 b2 b3 b4 d0 d1 d2 d3 d4
  refine (HC2.out _).mono ?_
  rintro e a4 ⟨rfl, hb4⟩
  obtain ⟨W4, hW4, hN4, hn4⟩ : ∃ V, a4.alloc (.cells #[.int .u8 c.k, .int .i64 c.n, .int .i64 c.u, .string c.t] 23) = V ∧ Boxed V a4.heap.size c.k c.n c.u c.t ∧ Below a4.heap.size a4 V := ⟨_, rfl, Boxed.new _ _ _ _ _ _, Below.allocs _ _⟩
  have HW4 := Lib.hid hW4
  have hz4 := below_tr hb4 hn4
  have HB4 := Lib.hid (below_tr HB3.out hz4)
  have HN4 := Lib.hid hN4
  have JX4 := Lib.hid (JX3.out.below hz4)
  have JY4 := Lib.hid (JY3.out.below hz4)
  have Jo14 := Lib.hid (Jo13.out.below hz4)
  have Jo24 := Lib.hid (Jo23.out.below hz4)
  have Jc14 := Lib.hid (HN3.out.below hz4)
  obtain ⟨b0, b1, b2, b3, b4⟩ := JX3.out.below hb4
  obtain ⟨d0, d1, d2, d3, d4⟩ := JY3.out.below hb4
  clear hW4 hb4 hn4 hz4 hN4
  go_wp2_with fail
  rw [HW4.out]
  clear b0 b1 b2 b3 b4 d0 d1 d2 d3 d4
  have hdr := below_drw W4
  try simp only [List.append_eq, List.cons_append, List.nil_append]
  refine RX.wp_region_plan (fun w w' => Below w.heap.size w w') [.it (.agg #[.int .u8 o.k, .int .i64 o.n, .int .i64 o.u, .string o.t]), .it (.agg #[.int .u8 o.k, .int .i64 o.n, .int .i64 o.u, .string o.t]), .it (.bool true), .it (.bool true), .it (.int .i64 oe), .it (.int .i64 oe), .it (.bool true), .it (.bool true), .it (.bool true), .it (.agg #[.int .u8 c.k, .int .i64 c.n, .int .i64 c.u, .string c.t]), .it (.agg #[.int .u8 c.k, .int .i64 c.n, .int .i64 c.u, .string c.t]), .it (.bool true), .it (.bool true), .it (.bool true), .it (.bool m), .it (.bool m), .it (.bool true), .it (.bool true), .it (.bool true), .it (.agg #[.int .u8 x.k, .int .i64 x.n, .int .i64 x.u, .string x.t]), .it (.bool ok), .it (.agg #[.int .u8 x.k, .int .i64 x.n, .int .i64 x.u, .string x.t]), .it (.bool ok), .it (.bool true), .it (.bool true), .it (.bool true), .it (.agg #[.int .u8 x.k, .int .i64 x.n, .int .i64 x.u, .string x.t]), .it (.int .i64 n), .it (.bool hx), .it (.agg #[.int .u8 x.k, .int .i64 x.n, .int .i64 x.u, .string x.t]), .it (.int .i64 n), .it (.bool hx), .it (.bool true), .it (.bool true), .it (.bool true), .it (.agg #[.int .u8 y.k, .int .i64 y.n, .int .i64 y.u, .string y.t]), .it (.int .i64 u), .it (.bool hy), .it (.agg #[.int .u8 y.k, .int .i64 y.n, .int .i64 y.u, .string y.t]), .it (.int .i64 u), .it (.bool hy), .it (.bool true), .it (.bool true), .it (.bool true), .it (.agg #[.int .u8 x.k, .int .i64 x.n, .int .i64 x.u, .string x.t]), .it (.agg #[.int .u8 y.k, .int .i64 y.n, .int .i64 y.u, .string y.t]), .it (.bool m), .it (.agg #[.int .u8 x.k, .int .i64 x.n, .int .i64 x.u, .string x.t]), .it (.agg #[.int .u8 y.k, .int .i64 y.n, .int .i64 y.u, .string y.t]), .it (.bool m), .it (.bool true), .it (.bool true), .it (.bool true), .it (.bool true), .it (.bool true), .it (.bool true)] (by kernel_rfl) (by kernel_rfl) (fun _ => Below.refl _ _) (fun _ _ _ => below_tr) ?_
  refine RX.seqP_value (fun _ => Below.refl _ _) _ (by first | rfl | simp) (fun w' hw' hctx => ?_) ?_
  · obtain ⟨c0, c1, c2, c3, c4⟩ := Jo14.out.below (below_tr hdr hw')
    go_simp
    try first | with_reducible rfl | simp
  simp only [Act.put, List.setIfInBounds_toArray, List.set_cons_zero, List.set_cons_succ]
  refine RX.seqP_value (fun _ => Below.refl _ _) _ (by first | rfl | simp) (fun w' hw' hctx => ?_) ?_
  · obtain ⟨c0, c1, c2, c3, c4⟩ := Jo24.out.below (below_tr hdr hw')
    go_simp
    try first | with_reducible rfl | simp
  simp only [Act.put, List.setIfInBounds_toArray, List.set_cons_zero, List.set_cons_succ]
  refine RX.seqP_value (fun _ => Below.refl _ _) _ (by first | rfl | simp) (fun w' hw' hctx => by (go_simp); (try first | with_reducible rfl | simp)) ?_
  simp only [Act.put, List.setIfInBounds_toArray, List.set_cons_zero, List.set_cons_succ]
  refine RX.seqP_value (fun _ => Below.refl _ _) _ (by first | rfl | simp) (fun w' hw' hctx => by (go_simp); (try first | with_reducible rfl | simp)) ?_
  simp only [Act.put, List.setIfInBounds_toArray, List.set_cons_zero, List.set_cons_succ]
  refine RX.seqP_value (fun _ => Below.refl _ _) _ (by first | rfl | simp) (fun w' hw' hctx => by (go_simp); (try first | with_reducible rfl | simp)) ?_
  simp only [Act.put, List.setIfInBounds_toArray, List.set_cons_zero, List.set_cons_succ]
  refine RX.seqP_value (fun _ => Below.refl _ _) _ (by first | rfl | simp) (fun w' hw' hctx => by (go_simp); (try first | with_reducible rfl | simp)) ?_
  simp only [Act.put, List.setIfInBounds_toArray, List.set_cons_zero, List.set_cons_succ]
  refine RX.seqP_value (fun _ => Below.refl _ _) _ (by first | rfl | simp) (fun w' hw' hctx => by (go_simp); (try first | with_reducible rfl | simp)) ?_
  simp only [Act.put, List.setIfInBounds_toArray, List.set_cons_zero, List.set_cons_succ]
  refine RX.seqP_value (fun _ => Below.refl _ _) _ (by first | rfl | simp) (fun w' hw' hctx => by (go_simp); (try first | with_reducible rfl | simp)) ?_
  simp only [Act.put, List.setIfInBounds_toArray, List.set_cons_zero, List.set_cons_succ]
  refine RX.seqP_value (fun _ => Below.refl _ _) _ (by first | rfl | simp) (fun w' hw' hctx => by (go_simp); (try first | with_reducible rfl | simp)) ?_
  simp only [Act.put, List.setIfInBounds_toArray, List.set_cons_zero, List.set_cons_succ]
  refine RX.seqP_value (fun _ => Below.refl _ _) _ (by first | rfl | simp) (fun w' hw' hctx => ?_) ?_
  · obtain ⟨c0, c1, c2, c3, c4⟩ := Jc14.out.below (below_tr hdr hw')
    go_simp
    try first | with_reducible rfl | simp
  simp only [Act.put, List.setIfInBounds_toArray, List.set_cons_zero, List.set_cons_succ]
  refine RX.seqP_value (fun _ => Below.refl _ _) _ (by first | rfl | simp) (fun w' hw' hctx => ?_) ?_
  · obtain ⟨c0, c1, c2, c3, c4⟩ := HN4.out.below (below_tr hdr hw')
    go_simp
    try first | with_reducible rfl | simp
  simp only [Act.put, List.setIfInBounds_toArray, List.set_cons_zero, List.set_cons_succ]
  refine RX.seqP_value (fun _ => Below.refl _ _) _ (by first | rfl | simp) (fun w' hw' hctx => by (go_simp); (try first | with_reducible rfl | simp)) ?_
  simp only [Act.put, List.setIfInBounds_toArray, List.set_cons_zero, List.set_cons_succ]
  refine RX.seqP_value (fun _ => Below.refl _ _) _ (by first | rfl | simp) (fun w' hw' hctx => by (go_simp); (try first | with_reducible rfl | simp)) ?_
  simp only [Act.put, List.setIfInBounds_toArray, List.set_cons_zero, List.set_cons_succ]
  refine RX.seqP_value (fun _ => Below.refl _ _) _ (by first | rfl | simp) (fun w' hw' hctx => by (go_simp); (try first | with_reducible rfl | simp)) ?_
  simp only [Act.put, List.setIfInBounds_toArray, List.set_cons_zero, List.set_cons_succ]
  refine RX.seqP_value (fun _ => Below.refl _ _) _ (by first | rfl | simp) (fun w' hw' hctx => by (go_simp); (try first | with_reducible rfl | simp)) ?_
  simp only [Act.put, List.setIfInBounds_toArray, List.set_cons_zero, List.set_cons_succ]
  refine RX.seqP_value (fun _ => Below.refl _ _) _ (by first | rfl | simp) (fun w' hw' hctx => by (go_simp); (try first | with_reducible rfl | simp)) ?_
  simp only [Act.put, List.setIfInBounds_toArray, List.set_cons_zero, List.set_cons_succ]
  refine RX.seqP_value (fun _ => Below.refl _ _) _ (by first | rfl | simp) (fun w' hw' hctx => by (go_simp); (try first | with_reducible rfl | simp)) ?_
  simp only [Act.put, List.setIfInBounds_toArray, List.set_cons_zero, List.set_cons_succ]
  refine RX.seqP_value (fun _ => Below.refl _ _) _ (by first | rfl | simp) (fun w' hw' hctx => by (go_simp); (try first | with_reducible rfl | simp)) ?_
  simp only [Act.put, List.setIfInBounds_toArray, List.set_cons_zero, List.set_cons_succ]
  refine RX.seqP_value (fun _ => Below.refl _ _) _ (by first | rfl | simp) (fun w' hw' hctx => by (go_simp); (try first | with_reducible rfl | simp)) ?_
  simp only [Act.put, List.setIfInBounds_toArray, List.set_cons_zero, List.set_cons_succ]
  refine RX.seqP_value (fun _ => Below.refl _ _) _ (by first | rfl | simp) (fun w' hw' hctx => ?_) ?_
  · obtain ⟨c0, c1, c2, c3, c4⟩ := JX4.out.below (below_tr hdr hw')
    go_simp
    try first | with_reducible rfl | simp
  simp only [Act.put, List.setIfInBounds_toArray, List.set_cons_zero, List.set_cons_succ]
  refine RX.seqP_call (14) #[.agg #[.int .u8 x.k, .int .i64 x.n, .int .i64 x.u, .string x.t]] (.bool ok) (by first | rfl | simp) (fun w' hw' hctx => ?_) (fun w' hw' hctx => HK1.out w') ?_
  · go_simp
  simp only [Act.put, List.setIfInBounds_toArray, List.set_cons_zero, List.set_cons_succ]
  refine RX.seqP_value (fun _ => Below.refl _ _) _ (by first | rfl | simp) (fun w' hw' hctx => ?_) ?_
  · obtain ⟨c0, c1, c2, c3, c4⟩ := JX4.out.below (below_tr hdr hw')
    go_simp
    try first | with_reducible rfl | simp
  simp only [Act.put, List.setIfInBounds_toArray, List.set_cons_zero, List.set_cons_succ]
  refine RX.seqP_call (15) #[.agg #[.int .u8 x.k, .int .i64 x.n, .int .i64 x.u, .string x.t]] (.bool ok) (by first | rfl | simp) (fun w' hw' hctx => ?_) (fun w' hw' hctx => HK2.out w') ?_
  · go_simp
  simp only [Act.put, List.setIfInBounds_toArray, List.set_cons_zero, List.set_cons_succ]
  refine RX.seqP_value (fun _ => Below.refl _ _) _ (by first | rfl | simp) (fun w' hw' hctx => by (go_simp); (try first | with_reducible rfl | simp)) ?_
  simp only [Act.put, List.setIfInBounds_toArray, List.set_cons_zero, List.set_cons_succ]
  refine RX.seqP_value (fun _ => Below.refl _ _) _ (by first | rfl | simp) (fun w' hw' hctx => by (go_simp); (try first | with_reducible rfl | simp)) ?_
  simp only [Act.put, List.setIfInBounds_toArray, List.set_cons_zero, List.set_cons_succ]
  refine RX.seqP_value (fun _ => Below.refl _ _) _ (by first | rfl | simp) (fun w' hw' hctx => by (go_simp); (try first | with_reducible rfl | simp)) ?_
  simp only [Act.put, List.setIfInBounds_toArray, List.set_cons_zero, List.set_cons_succ]
  refine RX.seqP_value (fun _ => Below.refl _ _) _ (by first | rfl | simp) (fun w' hw' hctx => ?_) ?_
  · obtain ⟨c0, c1, c2, c3, c4⟩ := JX4.out.below (below_tr hdr hw')
    go_simp
    try first | with_reducible rfl | simp
  simp only [Act.put, List.setIfInBounds_toArray, List.set_cons_zero, List.set_cons_succ]
  refine RX.seqP_value (fun _ => Below.refl _ _) _ (by first | rfl | simp) (fun w' hw' hctx => by (go_simp); (try first | with_reducible rfl | simp)) ?_
  simp only [Act.put, List.setIfInBounds_toArray, List.set_cons_zero, List.set_cons_succ]
  refine RX.seqP_call (16) #[.agg #[.int .u8 x.k, .int .i64 x.n, .int .i64 x.u, .string x.t], .int .i64 n] (.bool hx) (by first | rfl | simp) (fun w' hw' hctx => ?_) (fun w' hw' hctx => HX1.out w') ?_
  · go_simp
  simp only [Act.put, List.setIfInBounds_toArray, List.set_cons_zero, List.set_cons_succ]
  refine RX.seqP_value (fun _ => Below.refl _ _) _ (by first | rfl | simp) (fun w' hw' hctx => ?_) ?_
  · obtain ⟨c0, c1, c2, c3, c4⟩ := JX4.out.below (below_tr hdr hw')
    go_simp
    try first | with_reducible rfl | simp
  simp only [Act.put, List.setIfInBounds_toArray, List.set_cons_zero, List.set_cons_succ]
  refine RX.seqP_value (fun _ => Below.refl _ _) _ (by first | rfl | simp) (fun w' hw' hctx => by (go_simp); (try first | with_reducible rfl | simp)) ?_
  simp only [Act.put, List.setIfInBounds_toArray, List.set_cons_zero, List.set_cons_succ]
  refine RX.seqP_call (17) #[.agg #[.int .u8 x.k, .int .i64 x.n, .int .i64 x.u, .string x.t], .int .i64 n] (.bool hx) (by first | rfl | simp) (fun w' hw' hctx => ?_) (fun w' hw' hctx => HX2.out w') ?_
  · go_simp
  simp only [Act.put, List.setIfInBounds_toArray, List.set_cons_zero, List.set_cons_succ]
  refine RX.seqP_value (fun _ => Below.refl _ _) _ (by first | rfl | simp) (fun w' hw' hctx => by (go_simp); (try first | with_reducible rfl | simp)) ?_
  simp only [Act.put, List.setIfInBounds_toArray, List.set_cons_zero, List.set_cons_succ]
  refine RX.seqP_value (fun _ => Below.refl _ _) _ (by first | rfl | simp) (fun w' hw' hctx => by (go_simp); (try first | with_reducible rfl | simp)) ?_
  simp only [Act.put, List.setIfInBounds_toArray, List.set_cons_zero, List.set_cons_succ]
  refine RX.seqP_value (fun _ => Below.refl _ _) _ (by first | rfl | simp) (fun w' hw' hctx => by (go_simp); (try first | with_reducible rfl | simp)) ?_
  simp only [Act.put, List.setIfInBounds_toArray, List.set_cons_zero, List.set_cons_succ]
  refine RX.seqP_value (fun _ => Below.refl _ _) _ (by first | rfl | simp) (fun w' hw' hctx => ?_) ?_
  · obtain ⟨c0, c1, c2, c3, c4⟩ := JY4.out.below (below_tr hdr hw')
    go_simp
    try first | with_reducible rfl | simp
  simp only [Act.put, List.setIfInBounds_toArray, List.set_cons_zero, List.set_cons_succ]
  refine RX.seqP_value (fun _ => Below.refl _ _) _ (by first | rfl | simp) (fun w' hw' hctx => by (go_simp); (try first | with_reducible rfl | simp)) ?_
  simp only [Act.put, List.setIfInBounds_toArray, List.set_cons_zero, List.set_cons_succ]
  refine RX.seqP_call (16) #[.agg #[.int .u8 y.k, .int .i64 y.n, .int .i64 y.u, .string y.t], .int .i64 u] (.bool hy) (by first | rfl | simp) (fun w' hw' hctx => ?_) (fun w' hw' hctx => HY1.out w') ?_
  · go_simp
  simp only [Act.put, List.setIfInBounds_toArray, List.set_cons_zero, List.set_cons_succ]
  refine RX.seqP_value (fun _ => Below.refl _ _) _ (by first | rfl | simp) (fun w' hw' hctx => ?_) ?_
  · obtain ⟨c0, c1, c2, c3, c4⟩ := JY4.out.below (below_tr hdr hw')
    go_simp
    try first | with_reducible rfl | simp
  simp only [Act.put, List.setIfInBounds_toArray, List.set_cons_zero, List.set_cons_succ]
  refine RX.seqP_value (fun _ => Below.refl _ _) _ (by first | rfl | simp) (fun w' hw' hctx => by (go_simp); (try first | with_reducible rfl | simp)) ?_
  simp only [Act.put, List.setIfInBounds_toArray, List.set_cons_zero, List.set_cons_succ]
  refine RX.seqP_call (17) #[.agg #[.int .u8 y.k, .int .i64 y.n, .int .i64 y.u, .string y.t], .int .i64 u] (.bool hy) (by first | rfl | simp) (fun w' hw' hctx => ?_) (fun w' hw' hctx => HY2.out w') ?_
  · go_simp
  simp only [Act.put, List.setIfInBounds_toArray, List.set_cons_zero, List.set_cons_succ]
  refine RX.seqP_value (fun _ => Below.refl _ _) _ (by first | rfl | simp) (fun w' hw' hctx => by (go_simp); (try first | with_reducible rfl | simp)) ?_
  simp only [Act.put, List.setIfInBounds_toArray, List.set_cons_zero, List.set_cons_succ]
  refine RX.seqP_value (fun _ => Below.refl _ _) _ (by first | rfl | simp) (fun w' hw' hctx => by (go_simp); (try first | with_reducible rfl | simp)) ?_
  simp only [Act.put, List.setIfInBounds_toArray, List.set_cons_zero, List.set_cons_succ]
  refine RX.seqP_value (fun _ => Below.refl _ _) _ (by first | rfl | simp) (fun w' hw' hctx => by (go_simp); (try first | with_reducible rfl | simp)) ?_
  simp only [Act.put, List.setIfInBounds_toArray, List.set_cons_zero, List.set_cons_succ]
  refine RX.seqP_value (fun _ => Below.refl _ _) _ (by first | rfl | simp) (fun w' hw' hctx => ?_) ?_
  · obtain ⟨c0, c1, c2, c3, c4⟩ := JX4.out.below (below_tr hdr hw')
    go_simp
    try first | with_reducible rfl | simp
  simp only [Act.put, List.setIfInBounds_toArray, List.set_cons_zero, List.set_cons_succ]
  refine RX.seqP_value (fun _ => Below.refl _ _) _ (by first | rfl | simp) (fun w' hw' hctx => ?_) ?_
  · obtain ⟨c0, c1, c2, c3, c4⟩ := JY4.out.below (below_tr hdr hw')
    go_simp
    try first | with_reducible rfl | simp
  simp only [Act.put, List.setIfInBounds_toArray, List.set_cons_zero, List.set_cons_succ]
  refine RX.seqP_call (18) #[.agg #[.int .u8 x.k, .int .i64 x.n, .int .i64 x.u, .string x.t], .agg #[.int .u8 y.k, .int .i64 y.n, .int .i64 y.u, .string y.t]] (.bool m) (by first | rfl | simp) (fun w' hw' hctx => ?_) (fun w' hw' hctx => HM1.out w') ?_
  · go_simp
  simp only [Act.put, List.setIfInBounds_toArray, List.set_cons_zero, List.set_cons_succ]
  refine RX.seqP_value (fun _ => Below.refl _ _) _ (by first | rfl | simp) (fun w' hw' hctx => ?_) ?_
  · obtain ⟨c0, c1, c2, c3, c4⟩ := JX4.out.below (below_tr hdr hw')
    go_simp
    try first | with_reducible rfl | simp
  simp only [Act.put, List.setIfInBounds_toArray, List.set_cons_zero, List.set_cons_succ]
  refine RX.seqP_value (fun _ => Below.refl _ _) _ (by first | rfl | simp) (fun w' hw' hctx => ?_) ?_
  · obtain ⟨c0, c1, c2, c3, c4⟩ := JY4.out.below (below_tr hdr hw')
    go_simp
    try first | with_reducible rfl | simp
  simp only [Act.put, List.setIfInBounds_toArray, List.set_cons_zero, List.set_cons_succ]
  refine RX.seqP_call (19) #[.agg #[.int .u8 x.k, .int .i64 x.n, .int .i64 x.u, .string x.t], .agg #[.int .u8 y.k, .int .i64 y.n, .int .i64 y.u, .string y.t]] (.bool m) (by first | rfl | simp) (fun w' hw' hctx => ?_) (fun w' hw' hctx => HM2.out w') ?_
  · go_simp
  simp only [Act.put, List.setIfInBounds_toArray, List.set_cons_zero, List.set_cons_succ]
  refine RX.seqP_value (fun _ => Below.refl _ _) _ (by first | rfl | simp) (fun w' hw' hctx => by (go_simp); (try first | with_reducible rfl | simp)) ?_
  simp only [Act.put, List.setIfInBounds_toArray, List.set_cons_zero, List.set_cons_succ]
  refine RX.seqP_value (fun _ => Below.refl _ _) _ (by first | rfl | simp) (fun w' hw' hctx => by (go_simp); (try first | with_reducible rfl | simp)) ?_
  simp only [Act.put, List.setIfInBounds_toArray, List.set_cons_zero, List.set_cons_succ]
  refine RX.seqP_value (fun _ => Below.refl _ _) _ (by first | rfl | simp) (fun w' hw' hctx => by (go_simp); (try first | with_reducible rfl | simp)) ?_
  simp only [Act.put, List.setIfInBounds_toArray, List.set_cons_zero, List.set_cons_succ]
  refine RX.seqP_call (9) #[] (.bool true) (by first | rfl | simp) (fun w' hw' hctx => ?_) (fun w' hw' hctx => awake_is w') ?_
  · go_simp
  simp only [Act.put, List.setIfInBounds_toArray, List.set_cons_zero, List.set_cons_succ]
  refine RX.seqP_value (fun _ => Below.refl _ _) _ (by first | rfl | simp) (fun w' hw' hctx => by (go_simp); (try first | with_reducible rfl | simp)) ?_
  simp only [Act.put, List.setIfInBounds_toArray, List.set_cons_zero, List.set_cons_succ]
  refine RX.seqP_value (fun _ => Below.refl _ _) _ (by first | rfl | simp) (fun w' hw' hctx => by (go_simp); (try first | with_reducible rfl | simp)) ?_
  simp only [Act.put, List.setIfInBounds_toArray, List.set_cons_zero, List.set_cons_succ]
  refine RX.seqP_nil (fun v1 hR hctx _ => ?_)
  have hv1 := below_tr hdr hR
  clear hctx hR
  go_wp2_with fail
  go_ret
  exact ⟨rfl, below_tr HB4.out hv1⟩

theorem tells_any (n u : Int) (x y : Val) (w : World) :
    Calls Try.prog 3 #[.int .i64 n, .int .i64 u, .agg #[.int .u8 x.k, .int .i64 x.n, .int .i64 x.u, .string x.t], .agg #[.int .u8 y.k, .int .i64 y.n, .int .i64 y.u, .string y.t]] w fun e w' => e = .returned (.bool true) ∧ Below w.heap.size w w' := by
  rcases Nat.lt_or_ge 1000 x.t.size with h | h
  · exact tells_a n u x y h w
  · rcases Nat.lt_or_ge 1000 y.t.size with k | k
    · exact tells_b n u x y h k w
    · exact tells_c n u x y h k w
end Go.Proofs.Ytnifpphimodonaa
