/-
  SpanBoth, walked.
-/
import Derived.Test.YtnifpphimodonaaSTells
namespace Go.Proofs.Ytnifpphimodonaa
open Go.RowKit

set_option maxRecDepth 100000 in
set_option maxHeartbeats 1000000 in
theorem neq_any (k n u : Int) (t : ByteArray) (k' n' u' : Int) (t' : ByteArray) (w : World) :
    (Go.binOp .neq 23 (.agg #[.int .u8 k, .int .i64 n, .int .i64 u, .string t]) (.agg #[.int .u8 k', .int .i64 n', .int .i64 u', .string t'])).run Try.prog w = .ok (.bool (!eqB ⟨k, n, u, t⟩ ⟨k', n', u', t'⟩)) w := by
  unfold eqB
  by_cases h1 : k = k'
  · by_cases h2 : n = n'
    · by_cases h3 : u = u'
      · by_cases h4 : t.toList = t'.toList
        · simp only [h1, h2, h3, h4]
          go_simp
        · simp only [h1, h2, h3, h4]
          go_simp
      · simp only [h1, h2, h3]
        go_simp
    · simp only [h1, h2]
      go_simp
  · simp only [h1]
    go_simp

theorem neq_is (x y : Val) (b : Bool) (h : (!eqB x y) = b) (w : World) : (Go.binOp .neq 23 (.agg #[.int .u8 x.k, .int .i64 x.n, .int .i64 x.u, .string x.t]) (.agg #[.int .u8 y.k, .int .i64 y.n, .int .i64 y.u, .string y.t])).run Try.prog w = .ok (.bool b) w := by
  rw [← h]; exact neq_any x.k x.n x.u x.t y.k y.n y.u y.t w

theorem neq_self (x : Val) (w : World) : (Go.binOp .neq 23 (.agg #[.int .u8 x.k, .int .i64 x.n, .int .i64 x.u, .string x.t]) (.agg #[.int .u8 x.k, .int .i64 x.n, .int .i64 x.u, .string x.t])).run Try.prog w = .ok (.bool false) w := neq_is x x false (by rw [eqB_iff.2 rfl]; rfl) w

set_option maxRecDepth 100000 in
set_option maxHeartbeats 4000000 in
theorem both_a (x y : Val) (n : Int) (h : 1000 < x.t.size) (w : World) :
    Calls Try.prog 6 #[.agg #[.int .u8 x.k, .int .i64 x.n, .int .i64 x.u, .string x.t], .agg #[.int .u8 y.k, .int .i64 y.n, .int .i64 y.u, .string y.t], .int .i64 n] w fun e w' => e = .returned (.bool true) ∧ Below w.heap.size w w' := by
  obtain ⟨W, g, hg, hW, B0, B1, hb0⟩ := boxYY w x y
  have HB := Lib.hid hb0
  have H0 := Lib.hid B0
  have H1 := Lib.hid B1
  obtain ⟨b0, b1, b2, b3, b4⟩ := B0
  obtain ⟨d0, d1, d2, d3, d4⟩ := B1
  clear hb0
  have h' : (1000 : Int) < (x.t.size : Int) := by omega
  clear h
  go_enter Try.func6, Try.ntmps6
  go_wp2_with fail
  refine (awake_is _).mono ?_
  rintro e w1 ⟨rfl, hb1⟩
  go_wp2_with fail
  go_ret
  exact ⟨rfl, below_tr HB.out hb1⟩

set_option maxRecDepth 100000 in
set_option maxHeartbeats 4000000 in
theorem both_b (x y : Val) (n : Int) (h : x.t.size ≤ 1000) (k : 1000 < y.t.size) (w : World) :
    Calls Try.prog 6 #[.agg #[.int .u8 x.k, .int .i64 x.n, .int .i64 x.u, .string x.t], .agg #[.int .u8 y.k, .int .i64 y.n, .int .i64 y.u, .string y.t], .int .i64 n] w fun e w' => e = .returned (.bool true) ∧ Below w.heap.size w w' := by
  obtain ⟨W, g, hg, hW, B0, B1, hb0⟩ := boxYY w x y
  have HB := Lib.hid hb0
  have H0 := Lib.hid B0
  have H1 := Lib.hid B1
  obtain ⟨b0, b1, b2, b3, b4⟩ := B0
  obtain ⟨d0, d1, d2, d3, d4⟩ := B1
  clear hb0
  have h' : ¬ (1000 : Int) < (x.t.size : Int) := by omega
  have k' : (1000 : Int) < (y.t.size : Int) := by omega
  clear h k
  go_enter Try.func6, Try.ntmps6
  go_wp2_with fail
  refine (awake_is _).mono ?_
  rintro e w1 ⟨rfl, hb1⟩
  go_wp2_with fail
  go_ret
  exact ⟨rfl, below_tr HB.out hb1⟩

set_option maxRecDepth 100000 in
set_option maxHeartbeats 4000000 in
theorem both_1 (x y : Val) (n : Int) (hs : x.t.size ≤ 1000) (ht : y.t.size ≤ 1000) (hx : okS x = false) (w : World) :
    Calls Try.prog 6 #[.agg #[.int .u8 x.k, .int .i64 x.n, .int .i64 x.u, .string x.t], .agg #[.int .u8 y.k, .int .i64 y.n, .int .i64 y.u, .string y.t], .int .i64 n] w fun e w' => e = .returned (.bool true) ∧ Below w.heap.size w w' := by
  have hm : meetS x y = false := by simp [meetS, hx]
  have hc1 : ∀ w, Calls Try.prog 12 #[.agg #[.int .u8 x.k, .int .i64 x.n, .int .i64 x.u, .string x.t], .agg #[.int .u8 y.k, .int .i64 y.n, .int .i64 y.u, .string y.t]] w fun e w' => e = .returned (.tuple #[.agg #[.int .u8 0, .int .i64 0, .int .i64 0, .string ⟨#[]⟩], .bool false]) ∧ Below w.heap.size w w' := fun w => by
    have h := com_is x y w
    rw [comS_no hm, hm] at h
    exact h
  have hc2 : ∀ w, Calls Try.prog 12 #[.agg #[.int .u8 y.k, .int .i64 y.n, .int .i64 y.u, .string y.t], .agg #[.int .u8 x.k, .int .i64 x.n, .int .i64 x.u, .string x.t]] w fun e w' => e = .returned (.tuple #[.agg #[.int .u8 0, .int .i64 0, .int .i64 0, .string ⟨#[]⟩], .bool false]) ∧ Below w.heap.size w w' := fun w => by
    have h := com_is y x w
    rw [← comS_comm, ← meetS_comm, comS_no hm, hm] at h
    exact h
  have hm1 := fun w => meets_is x y false hm w
  have hm2 := fun w => meets_is y x false (by rw [meetS_comm]; exact hm) w
  have hm3 := fun w => meets_is x x false (by rw [meetS_self]; exact hx) w
  have hk1 := fun w => may_is x false hx w
  have hk2 := fun w => may_is y _ rfl w
  have hhc := fun w => has_is Val.zero n false (by rw [hasS, okS_zero]; rfl) w
  have hhx := fun w => has_is x n false (by simp [hasS, hx]) w
  have hhy := fun w => has_is y n _ rfl w
  have HC1 := Lib.hid hc1
  have HC2 := Lib.hid hc2
  have HM1 := Lib.hid hm1
  have HM2 := Lib.hid hm2
  have HM3 := Lib.hid hm3
  have HK1 := Lib.hid hk1
  have HK2 := Lib.hid hk2
  have HHC := Lib.hid hhc
  have HHX := Lib.hid hhx
  have HHY := Lib.hid hhy
  clear hc1 hc2 hm1 hm2 hm3 hk1 hk2 hhc hhx hhy
  have hnq : ∀ w, (Go.binOp .neq 23 (.agg #[.int .u8 0, .int .i64 0, .int .i64 0, .string ⟨#[]⟩]) (.agg #[.int .u8 0, .int .i64 0, .int .i64 0, .string ⟨#[]⟩])).run Try.prog w = .ok (.bool false) w := neq_self ⟨0, 0, 0, ⟨#[]⟩⟩
  obtain ⟨W, g, hg, hW, B0, B1, hb0⟩ := boxYY w x y
  have HB := Lib.hid hb0
  have H0 := Lib.hid B0
  have H1 := Lib.hid B1
  obtain ⟨b0, b1, b2, b3, b4⟩ := B0
  obtain ⟨d0, d1, d2, d3, d4⟩ := B1
  clear hb0
  have h' : ¬ (1000 : Int) < (x.t.size : Int) := by omega
  have k' : ¬ (1000 : Int) < (y.t.size : Int) := by omega
  clear hs ht hx
  go_enter Try.func6, Try.ntmps6
  go_wp2_with fail
  refine (awake_is _).mono ?_
  rintro e a0 ⟨rfl, hb0⟩
  have J0 := Lib.hid (H0.out.below hb0)
  have J1 := Lib.hid (H1.out.below hb0)
  have HB0 := Lib.hid (below_tr HB.out hb0)
  clear b0 b1 b2 b3 b4 d0 d1 d2 d3 d4 hb0
  obtain ⟨b0, b1, b2, b3, b4⟩ := J0.out
  obtain ⟨d0, d1, d2, d3, d4⟩ := J1.out
  go_wp2_with fail
  clear b0 b1 b2 b3 b4 d0 d1 d2 d3 d4
  refine (HC1.out _).mono ?_
  rintro e a1 ⟨rfl, hb1⟩
  obtain ⟨W1, hW1, hN1, hn1⟩ : ∃ V, a1.alloc (.cells #[.int .u8 0, .int .i64 0, .int .i64 0, .string ⟨#[]⟩] 23) = V ∧ Boxed V a1.heap.size 0 0 0 ⟨#[]⟩ ∧ Below a1.heap.size a1 V := ⟨_, rfl, Boxed.new _ _ _ _ _ _, Below.allocs _ _⟩
  have HW1 := Lib.hid hW1
  have hz1 := below_tr hb1 hn1
  have HB1 := Lib.hid (below_tr HB0.out hz1)
  have HN1 := Lib.hid hN1
  have JX1 := Lib.hid (J0.out.below hz1)
  have JY1 := Lib.hid (J1.out.below hz1)
  obtain ⟨b0, b1, b2, b3, b4⟩ := J0.out.below hb1
  obtain ⟨d0, d1, d2, d3, d4⟩ := J1.out.below hb1
  clear hW1 hb1 hn1 hz1 hN1
  go_wp2_with fail
  rw [HW1.out]
  clear b0 b1 b2 b3 b4 d0 d1 d2 d3 d4
  refine (HC2.out _).mono ?_
  rintro e a2 ⟨rfl, hb2⟩
  obtain ⟨W2, hW2, hN2, hn2⟩ : ∃ V, a2.alloc (.cells #[.int .u8 0, .int .i64 0, .int .i64 0, .string ⟨#[]⟩] 23) = V ∧ Boxed V a2.heap.size 0 0 0 ⟨#[]⟩ ∧ Below a2.heap.size a2 V := ⟨_, rfl, Boxed.new _ _ _ _ _ _, Below.allocs _ _⟩
  have HW2 := Lib.hid hW2
  have hz2 := below_tr hb2 hn2
  have HB2 := Lib.hid (below_tr HB1.out hz2)
  have HN2 := Lib.hid hN2
  have JX2 := Lib.hid (JX1.out.below hz2)
  have JY2 := Lib.hid (JY1.out.below hz2)
  have Jc12 := Lib.hid (HN1.out.below hz2)
  obtain ⟨b0, b1, b2, b3, b4⟩ := JX1.out.below hb2
  obtain ⟨d0, d1, d2, d3, d4⟩ := JY1.out.below hb2
  clear hW2 hb2 hn2 hz2 hN2
  go_wp2_with fail
  rw [HW2.out]
  clear b0 b1 b2 b3 b4 d0 d1 d2 d3 d4
  have hdr := below_drw W2
  try simp only [List.append_eq, List.cons_append, List.nil_append]
  refine RX.wp_region_plan (fun w w' => Below w.heap.size w w') [.it (.bool false), .it (.agg #[.int .u8 x.k, .int .i64 x.n, .int .i64 x.u, .string x.t]), .it (.agg #[.int .u8 y.k, .int .i64 y.n, .int .i64 y.u, .string y.t]), .it (.bool false), .it (.bool false), .it (.bool false), .it (.bool false), .it (.agg #[.int .u8 y.k, .int .i64 y.n, .int .i64 y.u, .string y.t]), .it (.agg #[.int .u8 x.k, .int .i64 x.n, .int .i64 x.u, .string x.t]), .it (.bool false), .it (.bool false), .it (.bool false), .it (.bool false), .it (.bool false), .it (.bool false), .it (.bool false), .it (.bool false), .it (.bool false), .it (.agg #[.int .u8 0, .int .i64 0, .int .i64 0, .string ⟨#[]⟩]), .it (.agg #[.int .u8 0, .int .i64 0, .int .i64 0, .string ⟨#[]⟩]), .it (.bool false), .it (.bool false), .it (.bool false), .it (.agg #[.int .u8 x.k, .int .i64 x.n, .int .i64 x.u, .string x.t]), .it (.agg #[.int .u8 x.k, .int .i64 x.n, .int .i64 x.u, .string x.t]), .it (.bool false), .it (.agg #[.int .u8 x.k, .int .i64 x.n, .int .i64 x.u, .string x.t]), .it (.bool false), .it (.bool false), .it (.bool false)] (by kernel_rfl) (by kernel_rfl) (fun _ => Below.refl _ _) (fun _ _ _ => below_tr) ?_
  refine RX.seqP_value (fun _ => Below.refl _ _) _ (by first | rfl | simp) (fun w' hw' hctx => by (go_simp); (try first | with_reducible rfl | simp)) ?_
  simp only [Act.put, List.setIfInBounds_toArray, List.set_cons_zero, List.set_cons_succ]
  refine RX.seqP_value (fun _ => Below.refl _ _) _ (by first | rfl | simp) (fun w' hw' hctx => ?_) ?_
  · obtain ⟨c0, c1, c2, c3, c4⟩ := JX2.out.below (below_tr hdr hw')
    go_simp
    try first | with_reducible rfl | simp
  simp only [Act.put, List.setIfInBounds_toArray, List.set_cons_zero, List.set_cons_succ]
  refine RX.seqP_value (fun _ => Below.refl _ _) _ (by first | rfl | simp) (fun w' hw' hctx => ?_) ?_
  · obtain ⟨c0, c1, c2, c3, c4⟩ := JY2.out.below (below_tr hdr hw')
    go_simp
    try first | with_reducible rfl | simp
  simp only [Act.put, List.setIfInBounds_toArray, List.set_cons_zero, List.set_cons_succ]
  refine RX.seqP_call (18) #[.agg #[.int .u8 x.k, .int .i64 x.n, .int .i64 x.u, .string x.t], .agg #[.int .u8 y.k, .int .i64 y.n, .int .i64 y.u, .string y.t]] (.bool false) (by first | rfl | simp) (fun w' hw' hctx => ?_) (fun w' hw' hctx => HM1.out w') ?_
  · go_simp
  simp only [Act.put, List.setIfInBounds_toArray, List.set_cons_zero, List.set_cons_succ]
  refine RX.seqP_value (fun _ => Below.refl _ _) _ (by first | rfl | simp) (fun w' hw' hctx => by (go_simp); (try first | with_reducible rfl | simp)) ?_
  simp only [Act.put, List.setIfInBounds_toArray, List.set_cons_zero, List.set_cons_succ]
  refine RX.seqP_value (fun _ => Below.refl _ _) _ (by first | rfl | simp) (fun w' hw' hctx => by (go_simp); (try first | with_reducible rfl | simp)) ?_
  simp only [Act.put, List.setIfInBounds_toArray, List.set_cons_zero, List.set_cons_succ]
  refine RX.seqP_value (fun _ => Below.refl _ _) _ (by first | rfl | simp) (fun w' hw' hctx => by (go_simp); (try first | with_reducible rfl | simp)) ?_
  simp only [Act.put, List.setIfInBounds_toArray, List.set_cons_zero, List.set_cons_succ]
  refine RX.seqP_value (fun _ => Below.refl _ _) _ (by first | rfl | simp) (fun w' hw' hctx => ?_) ?_
  · obtain ⟨c0, c1, c2, c3, c4⟩ := JY2.out.below (below_tr hdr hw')
    go_simp
    try first | with_reducible rfl | simp
  simp only [Act.put, List.setIfInBounds_toArray, List.set_cons_zero, List.set_cons_succ]
  refine RX.seqP_value (fun _ => Below.refl _ _) _ (by first | rfl | simp) (fun w' hw' hctx => ?_) ?_
  · obtain ⟨c0, c1, c2, c3, c4⟩ := JX2.out.below (below_tr hdr hw')
    go_simp
    try first | with_reducible rfl | simp
  simp only [Act.put, List.setIfInBounds_toArray, List.set_cons_zero, List.set_cons_succ]
  refine RX.seqP_call (18) #[.agg #[.int .u8 y.k, .int .i64 y.n, .int .i64 y.u, .string y.t], .agg #[.int .u8 x.k, .int .i64 x.n, .int .i64 x.u, .string x.t]] (.bool false) (by first | rfl | simp) (fun w' hw' hctx => ?_) (fun w' hw' hctx => HM2.out w') ?_
  · go_simp
  simp only [Act.put, List.setIfInBounds_toArray, List.set_cons_zero, List.set_cons_succ]
  refine RX.seqP_value (fun _ => Below.refl _ _) _ (by first | rfl | simp) (fun w' hw' hctx => by (go_simp); (try first | with_reducible rfl | simp)) ?_
  simp only [Act.put, List.setIfInBounds_toArray, List.set_cons_zero, List.set_cons_succ]
  refine RX.seqP_value (fun _ => Below.refl _ _) _ (by first | rfl | simp) (fun w' hw' hctx => by (go_simp); (try first | with_reducible rfl | simp)) ?_
  simp only [Act.put, List.setIfInBounds_toArray, List.set_cons_zero, List.set_cons_succ]
  refine RX.seqP_value (fun _ => Below.refl _ _) _ (by first | rfl | simp) (fun w' hw' hctx => by (go_simp); (try first | with_reducible rfl | simp)) ?_
  simp only [Act.put, List.setIfInBounds_toArray, List.set_cons_zero, List.set_cons_succ]
  refine RX.seqP_value (fun _ => Below.refl _ _) _ (by first | rfl | simp) (fun w' hw' hctx => by (go_simp); (try first | with_reducible rfl | simp)) ?_
  simp only [Act.put, List.setIfInBounds_toArray, List.set_cons_zero, List.set_cons_succ]
  refine RX.seqP_value (fun _ => Below.refl _ _) _ (by first | rfl | simp) (fun w' hw' hctx => by (go_simp); (try first | with_reducible rfl | simp)) ?_
  simp only [Act.put, List.setIfInBounds_toArray, List.set_cons_zero, List.set_cons_succ]
  refine RX.seqP_value (fun _ => Below.refl _ _) _ (by first | rfl | simp) (fun w' hw' hctx => by (go_simp); (try first | with_reducible rfl | simp)) ?_
  simp only [Act.put, List.setIfInBounds_toArray, List.set_cons_zero, List.set_cons_succ]
  refine RX.seqP_value (fun _ => Below.refl _ _) _ (by first | rfl | simp) (fun w' hw' hctx => by (go_simp); (try first | with_reducible rfl | simp)) ?_
  simp only [Act.put, List.setIfInBounds_toArray, List.set_cons_zero, List.set_cons_succ]
  refine RX.seqP_value (fun _ => Below.refl _ _) _ (by first | rfl | simp) (fun w' hw' hctx => by (go_simp); (try first | with_reducible rfl | simp)) ?_
  simp only [Act.put, List.setIfInBounds_toArray, List.set_cons_zero, List.set_cons_succ]
  refine RX.seqP_value (fun _ => Below.refl _ _) _ (by first | rfl | simp) (fun w' hw' hctx => ?_) ?_
  · obtain ⟨c0, c1, c2, c3, c4⟩ := Jc12.out.below (below_tr hdr hw')
    go_simp
    try first | with_reducible rfl | simp
  simp only [Act.put, List.setIfInBounds_toArray, List.set_cons_zero, List.set_cons_succ]
  refine RX.seqP_value (fun _ => Below.refl _ _) _ (by first | rfl | simp) (fun w' hw' hctx => ?_) ?_
  · obtain ⟨c0, c1, c2, c3, c4⟩ := HN2.out.below (below_tr hdr hw')
    go_simp
    try first | with_reducible rfl | simp
  simp only [Act.put, List.setIfInBounds_toArray, List.set_cons_zero, List.set_cons_succ]
  refine RX.seqP_value (fun _ => Below.refl _ _) _ (by first | rfl | simp) (fun w' hw' hctx => by (go_simp); (try first | with_reducible rfl | simp)) ?_
  simp only [Act.put, List.setIfInBounds_toArray, List.set_cons_zero, List.set_cons_succ]
  refine RX.seqP_value (fun _ => Below.refl _ _) _ (by first | rfl | simp) (fun w' hw' hctx => by (go_simp); (try first | with_reducible rfl | simp)) ?_
  simp only [Act.put, List.setIfInBounds_toArray, List.set_cons_zero, List.set_cons_succ]
  refine RX.seqP_value (fun _ => Below.refl _ _) _ (by first | rfl | simp) (fun w' hw' hctx => by (go_simp); (try first | with_reducible rfl | simp)) ?_
  simp only [Act.put, List.setIfInBounds_toArray, List.set_cons_zero, List.set_cons_succ]
  refine RX.seqP_value (fun _ => Below.refl _ _) _ (by first | rfl | simp) (fun w' hw' hctx => ?_) ?_
  · obtain ⟨c0, c1, c2, c3, c4⟩ := JX2.out.below (below_tr hdr hw')
    go_simp
    try first | with_reducible rfl | simp
  simp only [Act.put, List.setIfInBounds_toArray, List.set_cons_zero, List.set_cons_succ]
  refine RX.seqP_value (fun _ => Below.refl _ _) _ (by first | rfl | simp) (fun w' hw' hctx => ?_) ?_
  · obtain ⟨c0, c1, c2, c3, c4⟩ := JX2.out.below (below_tr hdr hw')
    go_simp
    try first | with_reducible rfl | simp
  simp only [Act.put, List.setIfInBounds_toArray, List.set_cons_zero, List.set_cons_succ]
  refine RX.seqP_call (18) #[.agg #[.int .u8 x.k, .int .i64 x.n, .int .i64 x.u, .string x.t], .agg #[.int .u8 x.k, .int .i64 x.n, .int .i64 x.u, .string x.t]] (.bool false) (by first | rfl | simp) (fun w' hw' hctx => ?_) (fun w' hw' hctx => HM3.out w') ?_
  · go_simp
  simp only [Act.put, List.setIfInBounds_toArray, List.set_cons_zero, List.set_cons_succ]
  refine RX.seqP_value (fun _ => Below.refl _ _) _ (by first | rfl | simp) (fun w' hw' hctx => ?_) ?_
  · obtain ⟨c0, c1, c2, c3, c4⟩ := JX2.out.below (below_tr hdr hw')
    go_simp
    try first | with_reducible rfl | simp
  simp only [Act.put, List.setIfInBounds_toArray, List.set_cons_zero, List.set_cons_succ]
  refine RX.seqP_call (14) #[.agg #[.int .u8 x.k, .int .i64 x.n, .int .i64 x.u, .string x.t]] (.bool false) (by first | rfl | simp) (fun w' hw' hctx => ?_) (fun w' hw' hctx => HK1.out w') ?_
  · go_simp
  simp only [Act.put, List.setIfInBounds_toArray, List.set_cons_zero, List.set_cons_succ]
  refine RX.seqP_value (fun _ => Below.refl _ _) _ (by first | rfl | simp) (fun w' hw' hctx => by (go_simp); (try first | with_reducible rfl | simp)) ?_
  simp only [Act.put, List.setIfInBounds_toArray, List.set_cons_zero, List.set_cons_succ]
  refine RX.seqP_value (fun _ => Below.refl _ _) _ (by first | rfl | simp) (fun w' hw' hctx => by (go_simp); (try first | with_reducible rfl | simp)) ?_
  simp only [Act.put, List.setIfInBounds_toArray, List.set_cons_zero, List.set_cons_succ]
  refine RX.seqP_nil (fun v1 hR hctx _ => ?_)
  have hv1 := below_tr hdr hR
  clear hctx hR
  have HV1 := Lib.hid (below_tr HB2.out hv1)
  have KX := Lib.hid (JX2.out.below hv1)
  have KY := Lib.hid (JY2.out.below hv1)
  have Kc1 := Lib.hid (Jc12.out.below hv1)
  have Kc2 := Lib.hid (HN2.out.below hv1)
  clear hv1 hdr
  go_wp2_with fail
  have hdr := below_drw v1
  try simp only [List.append_eq, List.cons_append, List.nil_append]
  refine RX.wp_region_plan (fun w w' => Below w.heap.size w w') [.it (.agg #[.int .u8 0, .int .i64 0, .int .i64 0, .string ⟨#[]⟩]), .it (.int .i64 n), .it (.bool false), .it (.agg #[.int .u8 x.k, .int .i64 x.n, .int .i64 x.u, .string x.t]), .it (.int .i64 n), .it (.bool false), .it (.bool false), .it undef, .it undef, .it undef, .it (.bool false), .it (.bool false)] (by kernel_rfl) (by kernel_rfl) (fun _ => Below.refl _ _) (fun _ _ _ => below_tr) ?_
  refine RX.seqP_value (fun _ => Below.refl _ _) _ (by first | rfl | simp) (fun w' hw' hctx => ?_) ?_
  · obtain ⟨c0, c1, c2, c3, c4⟩ := Kc1.out.below (below_tr hdr hw')
    go_simp
    try first | with_reducible rfl | simp
  simp only [Act.put, List.setIfInBounds_toArray, List.set_cons_zero, List.set_cons_succ]
  refine RX.seqP_value (fun _ => Below.refl _ _) _ (by first | rfl | simp) (fun w' hw' hctx => by (go_simp); (try first | with_reducible rfl | simp)) ?_
  simp only [Act.put, List.setIfInBounds_toArray, List.set_cons_zero, List.set_cons_succ]
  refine RX.seqP_call (16) #[.agg #[.int .u8 0, .int .i64 0, .int .i64 0, .string ⟨#[]⟩], .int .i64 n] (.bool false) (by first | rfl | simp) (fun w' hw' hctx => ?_) (fun w' hw' hctx => HHC.out w') ?_
  · go_simp
  simp only [Act.put, List.setIfInBounds_toArray, List.set_cons_zero, List.set_cons_succ]
  refine RX.seqP_value (fun _ => Below.refl _ _) _ (by first | rfl | simp) (fun w' hw' hctx => ?_) ?_
  · obtain ⟨c0, c1, c2, c3, c4⟩ := KX.out.below (below_tr hdr hw')
    go_simp
    try first | with_reducible rfl | simp
  simp only [Act.put, List.setIfInBounds_toArray, List.set_cons_zero, List.set_cons_succ]
  refine RX.seqP_value (fun _ => Below.refl _ _) _ (by first | rfl | simp) (fun w' hw' hctx => by (go_simp); (try first | with_reducible rfl | simp)) ?_
  simp only [Act.put, List.setIfInBounds_toArray, List.set_cons_zero, List.set_cons_succ]
  refine RX.seqP_call (16) #[.agg #[.int .u8 x.k, .int .i64 x.n, .int .i64 x.u, .string x.t], .int .i64 n] (.bool false) (by first | rfl | simp) (fun w' hw' hctx => ?_) (fun w' hw' hctx => HHX.out w') ?_
  · go_simp
  simp only [Act.put, List.setIfInBounds_toArray, List.set_cons_zero, List.set_cons_succ]
  refine RX.seqP_value (fun _ => Below.refl _ _) _ (by first | rfl | simp) (fun w' hw' hctx => by (go_simp); (try first | with_reducible rfl | simp)) ?_
  simp only [Act.put, List.setIfInBounds_toArray, List.set_cons_zero, List.set_cons_succ]
  refine RX.seqP_skip (by first | rfl | simp) ?_
  simp only [Act.put, List.setIfInBounds_toArray, List.set_cons_zero, List.set_cons_succ]
  refine RX.seqP_skip (by first | rfl | simp) ?_
  simp only [Act.put, List.setIfInBounds_toArray, List.set_cons_zero, List.set_cons_succ]
  refine RX.seqP_skip (by first | rfl | simp) ?_
  simp only [Act.put, List.setIfInBounds_toArray, List.set_cons_zero, List.set_cons_succ]
  refine RX.seqP_value (fun _ => Below.refl _ _) _ (by first | rfl | simp) (fun w' hw' hctx => by (go_simp); (try first | with_reducible rfl | simp)) ?_
  simp only [Act.put, List.setIfInBounds_toArray, List.set_cons_zero, List.set_cons_succ]
  refine RX.seqP_value (fun _ => Below.refl _ _) _ (by first | rfl | simp) (fun w' hw' hctx => by (go_simp); (try first | with_reducible rfl | simp)) ?_
  simp only [Act.put, List.setIfInBounds_toArray, List.set_cons_zero, List.set_cons_succ]
  refine RX.seqP_nil (fun v2 hR hctx _ => ?_)
  have hv2 := below_tr hdr hR
  clear hctx hR
  have HV2 := Lib.hid (below_tr HV1.out hv2)
  have MX := Lib.hid (KX.out.below hv2)
  have MY := Lib.hid (KY.out.below hv2)
  have Mc1 := Lib.hid (Kc1.out.below hv2)
  have Mc2 := Lib.hid (Kc2.out.below hv2)
  clear hv2 hdr
  obtain ⟨b0, b1, b2, b3, b4⟩ := MX.out
  obtain ⟨d0, d1, d2, d3, d4⟩ := MY.out
  obtain ⟨m0, m1, m2, m3, m4⟩ := Mc1.out
  go_wp2_with fail
  refine (HK1.out _).mono ?_
  rintro e v3 ⟨rfl, hv3⟩
  have hw3 := hv3
  clear b0 b1 b2 b3 b4 d0 d1 d2 d3 d4 m0 m1 m2 m3 m4
  obtain ⟨b0, b1, b2, b3, b4⟩ := MX.out.below hw3
  obtain ⟨d0, d1, d2, d3, d4⟩ := MY.out.below hw3
  obtain ⟨m0, m1, m2, m3, m4⟩ := Mc1.out.below hw3
  go_wp2_with fail
  go_ret
  exact ⟨rfl, below_tr HV2.out hw3⟩

set_option maxRecDepth 100000 in
set_option maxHeartbeats 4000000 in
theorem both_2t (x y : Val) (n : Int) (hs : x.t.size ≤ 1000) (ht : y.t.size ≤ 1000) (hx : okS x = true) (hy : okS y = false) (hp : hasS x n = true) (w : World) :
    Calls Try.prog 6 #[.agg #[.int .u8 x.k, .int .i64 x.n, .int .i64 x.u, .string x.t], .agg #[.int .u8 y.k, .int .i64 y.n, .int .i64 y.u, .string y.t], .int .i64 n] w fun e w' => e = .returned (.bool true) ∧ Below w.heap.size w w' := by
  have hm : meetS x y = false := by simp [meetS, hy]
  have hc1 : ∀ w, Calls Try.prog 12 #[.agg #[.int .u8 x.k, .int .i64 x.n, .int .i64 x.u, .string x.t], .agg #[.int .u8 y.k, .int .i64 y.n, .int .i64 y.u, .string y.t]] w fun e w' => e = .returned (.tuple #[.agg #[.int .u8 0, .int .i64 0, .int .i64 0, .string ⟨#[]⟩], .bool false]) ∧ Below w.heap.size w w' := fun w => by
    have h := com_is x y w
    rw [comS_no hm, hm] at h
    exact h
  have hc2 : ∀ w, Calls Try.prog 12 #[.agg #[.int .u8 y.k, .int .i64 y.n, .int .i64 y.u, .string y.t], .agg #[.int .u8 x.k, .int .i64 x.n, .int .i64 x.u, .string x.t]] w fun e w' => e = .returned (.tuple #[.agg #[.int .u8 0, .int .i64 0, .int .i64 0, .string ⟨#[]⟩], .bool false]) ∧ Below w.heap.size w w' := fun w => by
    have h := com_is y x w
    rw [← comS_comm, ← meetS_comm, comS_no hm, hm] at h
    exact h
  have hm1 := fun w => meets_is x y false hm w
  have hm2 := fun w => meets_is y x false (by rw [meetS_comm]; exact hm) w
  have hm3 := fun w => meets_is x x true (by rw [meetS_self]; exact hx) w
  have hk1 := fun w => may_is x true hx w
  have hk2 := fun w => may_is y false hy w
  have hhc := fun w => has_is Val.zero n false (by rw [hasS, okS_zero]; rfl) w
  have hhx := fun w => has_is x n true hp w
  have hhy := fun w => has_is y n false (by simp [hasS, hy]) w
  have HC1 := Lib.hid hc1
  have HC2 := Lib.hid hc2
  have HM1 := Lib.hid hm1
  have HM2 := Lib.hid hm2
  have HM3 := Lib.hid hm3
  have HK1 := Lib.hid hk1
  have HK2 := Lib.hid hk2
  have HHC := Lib.hid hhc
  have HHX := Lib.hid hhx
  have HHY := Lib.hid hhy
  clear hc1 hc2 hm1 hm2 hm3 hk1 hk2 hhc hhx hhy
  have hnq : ∀ w, (Go.binOp .neq 23 (.agg #[.int .u8 0, .int .i64 0, .int .i64 0, .string ⟨#[]⟩]) (.agg #[.int .u8 0, .int .i64 0, .int .i64 0, .string ⟨#[]⟩])).run Try.prog w = .ok (.bool false) w := neq_self ⟨0, 0, 0, ⟨#[]⟩⟩
  obtain ⟨W, g, hg, hW, B0, B1, hb0⟩ := boxYY w x y
  have HB := Lib.hid hb0
  have H0 := Lib.hid B0
  have H1 := Lib.hid B1
  obtain ⟨b0, b1, b2, b3, b4⟩ := B0
  obtain ⟨d0, d1, d2, d3, d4⟩ := B1
  clear hb0
  have h' : ¬ (1000 : Int) < (x.t.size : Int) := by omega
  have k' : ¬ (1000 : Int) < (y.t.size : Int) := by omega
  clear hs ht hx hy hp
  go_enter Try.func6, Try.ntmps6
  go_wp2_with fail
  refine (awake_is _).mono ?_
  rintro e a0 ⟨rfl, hb0⟩
  have J0 := Lib.hid (H0.out.below hb0)
  have J1 := Lib.hid (H1.out.below hb0)
  have HB0 := Lib.hid (below_tr HB.out hb0)
  clear b0 b1 b2 b3 b4 d0 d1 d2 d3 d4 hb0
  obtain ⟨b0, b1, b2, b3, b4⟩ := J0.out
  obtain ⟨d0, d1, d2, d3, d4⟩ := J1.out
  go_wp2_with fail
  clear b0 b1 b2 b3 b4 d0 d1 d2 d3 d4
  refine (HC1.out _).mono ?_
  rintro e a1 ⟨rfl, hb1⟩
  obtain ⟨W1, hW1, hN1, hn1⟩ : ∃ V, a1.alloc (.cells #[.int .u8 0, .int .i64 0, .int .i64 0, .string ⟨#[]⟩] 23) = V ∧ Boxed V a1.heap.size 0 0 0 ⟨#[]⟩ ∧ Below a1.heap.size a1 V := ⟨_, rfl, Boxed.new _ _ _ _ _ _, Below.allocs _ _⟩
  have HW1 := Lib.hid hW1
  have hz1 := below_tr hb1 hn1
  have HB1 := Lib.hid (below_tr HB0.out hz1)
  have HN1 := Lib.hid hN1
  have JX1 := Lib.hid (J0.out.below hz1)
  have JY1 := Lib.hid (J1.out.below hz1)
  obtain ⟨b0, b1, b2, b3, b4⟩ := J0.out.below hb1
  obtain ⟨d0, d1, d2, d3, d4⟩ := J1.out.below hb1
  clear hW1 hb1 hn1 hz1 hN1
  go_wp2_with fail
  rw [HW1.out]
  clear b0 b1 b2 b3 b4 d0 d1 d2 d3 d4
  refine (HC2.out _).mono ?_
  rintro e a2 ⟨rfl, hb2⟩
  obtain ⟨W2, hW2, hN2, hn2⟩ : ∃ V, a2.alloc (.cells #[.int .u8 0, .int .i64 0, .int .i64 0, .string ⟨#[]⟩] 23) = V ∧ Boxed V a2.heap.size 0 0 0 ⟨#[]⟩ ∧ Below a2.heap.size a2 V := ⟨_, rfl, Boxed.new _ _ _ _ _ _, Below.allocs _ _⟩
  have HW2 := Lib.hid hW2
  have hz2 := below_tr hb2 hn2
  have HB2 := Lib.hid (below_tr HB1.out hz2)
  have HN2 := Lib.hid hN2
  have JX2 := Lib.hid (JX1.out.below hz2)
  have JY2 := Lib.hid (JY1.out.below hz2)
  have Jc12 := Lib.hid (HN1.out.below hz2)
  obtain ⟨b0, b1, b2, b3, b4⟩ := JX1.out.below hb2
  obtain ⟨d0, d1, d2, d3, d4⟩ := JY1.out.below hb2
  clear hW2 hb2 hn2 hz2 hN2
  go_wp2_with fail
  rw [HW2.out]
  clear b0 b1 b2 b3 b4 d0 d1 d2 d3 d4
  have hdr := below_drw W2
  try simp only [List.append_eq, List.cons_append, List.nil_append]
  refine RX.wp_region_plan (fun w w' => Below w.heap.size w w') [.it (.bool false), .it (.agg #[.int .u8 x.k, .int .i64 x.n, .int .i64 x.u, .string x.t]), .it (.agg #[.int .u8 y.k, .int .i64 y.n, .int .i64 y.u, .string y.t]), .it (.bool false), .it (.bool false), .it (.bool false), .it (.bool false), .it (.agg #[.int .u8 y.k, .int .i64 y.n, .int .i64 y.u, .string y.t]), .it (.agg #[.int .u8 x.k, .int .i64 x.n, .int .i64 x.u, .string x.t]), .it (.bool false), .it (.bool false), .it (.bool false), .it (.bool false), .it (.bool false), .it (.bool false), .it (.bool false), .it (.bool false), .it (.bool false), .it (.agg #[.int .u8 0, .int .i64 0, .int .i64 0, .string ⟨#[]⟩]), .it (.agg #[.int .u8 0, .int .i64 0, .int .i64 0, .string ⟨#[]⟩]), .it (.bool false), .it (.bool false), .it (.bool false), .it (.agg #[.int .u8 x.k, .int .i64 x.n, .int .i64 x.u, .string x.t]), .it (.agg #[.int .u8 x.k, .int .i64 x.n, .int .i64 x.u, .string x.t]), .it (.bool true), .it (.agg #[.int .u8 x.k, .int .i64 x.n, .int .i64 x.u, .string x.t]), .it (.bool true), .it (.bool false), .it (.bool false)] (by kernel_rfl) (by kernel_rfl) (fun _ => Below.refl _ _) (fun _ _ _ => below_tr) ?_
  refine RX.seqP_value (fun _ => Below.refl _ _) _ (by first | rfl | simp) (fun w' hw' hctx => by (go_simp); (try first | with_reducible rfl | simp)) ?_
  simp only [Act.put, List.setIfInBounds_toArray, List.set_cons_zero, List.set_cons_succ]
  refine RX.seqP_value (fun _ => Below.refl _ _) _ (by first | rfl | simp) (fun w' hw' hctx => ?_) ?_
  · obtain ⟨c0, c1, c2, c3, c4⟩ := JX2.out.below (below_tr hdr hw')
    go_simp
    try first | with_reducible rfl | simp
  simp only [Act.put, List.setIfInBounds_toArray, List.set_cons_zero, List.set_cons_succ]
  refine RX.seqP_value (fun _ => Below.refl _ _) _ (by first | rfl | simp) (fun w' hw' hctx => ?_) ?_
  · obtain ⟨c0, c1, c2, c3, c4⟩ := JY2.out.below (below_tr hdr hw')
    go_simp
    try first | with_reducible rfl | simp
  simp only [Act.put, List.setIfInBounds_toArray, List.set_cons_zero, List.set_cons_succ]
  refine RX.seqP_call (18) #[.agg #[.int .u8 x.k, .int .i64 x.n, .int .i64 x.u, .string x.t], .agg #[.int .u8 y.k, .int .i64 y.n, .int .i64 y.u, .string y.t]] (.bool false) (by first | rfl | simp) (fun w' hw' hctx => ?_) (fun w' hw' hctx => HM1.out w') ?_
  · go_simp
  simp only [Act.put, List.setIfInBounds_toArray, List.set_cons_zero, List.set_cons_succ]
  refine RX.seqP_value (fun _ => Below.refl _ _) _ (by first | rfl | simp) (fun w' hw' hctx => by (go_simp); (try first | with_reducible rfl | simp)) ?_
  simp only [Act.put, List.setIfInBounds_toArray, List.set_cons_zero, List.set_cons_succ]
  refine RX.seqP_value (fun _ => Below.refl _ _) _ (by first | rfl | simp) (fun w' hw' hctx => by (go_simp); (try first | with_reducible rfl | simp)) ?_
  simp only [Act.put, List.setIfInBounds_toArray, List.set_cons_zero, List.set_cons_succ]
  refine RX.seqP_value (fun _ => Below.refl _ _) _ (by first | rfl | simp) (fun w' hw' hctx => by (go_simp); (try first | with_reducible rfl | simp)) ?_
  simp only [Act.put, List.setIfInBounds_toArray, List.set_cons_zero, List.set_cons_succ]
  refine RX.seqP_value (fun _ => Below.refl _ _) _ (by first | rfl | simp) (fun w' hw' hctx => ?_) ?_
  · obtain ⟨c0, c1, c2, c3, c4⟩ := JY2.out.below (below_tr hdr hw')
    go_simp
    try first | with_reducible rfl | simp
  simp only [Act.put, List.setIfInBounds_toArray, List.set_cons_zero, List.set_cons_succ]
  refine RX.seqP_value (fun _ => Below.refl _ _) _ (by first | rfl | simp) (fun w' hw' hctx => ?_) ?_
  · obtain ⟨c0, c1, c2, c3, c4⟩ := JX2.out.below (below_tr hdr hw')
    go_simp
    try first | with_reducible rfl | simp
  simp only [Act.put, List.setIfInBounds_toArray, List.set_cons_zero, List.set_cons_succ]
  refine RX.seqP_call (18) #[.agg #[.int .u8 y.k, .int .i64 y.n, .int .i64 y.u, .string y.t], .agg #[.int .u8 x.k, .int .i64 x.n, .int .i64 x.u, .string x.t]] (.bool false) (by first | rfl | simp) (fun w' hw' hctx => ?_) (fun w' hw' hctx => HM2.out w') ?_
  · go_simp
  simp only [Act.put, List.setIfInBounds_toArray, List.set_cons_zero, List.set_cons_succ]
  refine RX.seqP_value (fun _ => Below.refl _ _) _ (by first | rfl | simp) (fun w' hw' hctx => by (go_simp); (try first | with_reducible rfl | simp)) ?_
  simp only [Act.put, List.setIfInBounds_toArray, List.set_cons_zero, List.set_cons_succ]
  refine RX.seqP_value (fun _ => Below.refl _ _) _ (by first | rfl | simp) (fun w' hw' hctx => by (go_simp); (try first | with_reducible rfl | simp)) ?_
  simp only [Act.put, List.setIfInBounds_toArray, List.set_cons_zero, List.set_cons_succ]
  refine RX.seqP_value (fun _ => Below.refl _ _) _ (by first | rfl | simp) (fun w' hw' hctx => by (go_simp); (try first | with_reducible rfl | simp)) ?_
  simp only [Act.put, List.setIfInBounds_toArray, List.set_cons_zero, List.set_cons_succ]
  refine RX.seqP_value (fun _ => Below.refl _ _) _ (by first | rfl | simp) (fun w' hw' hctx => by (go_simp); (try first | with_reducible rfl | simp)) ?_
  simp only [Act.put, List.setIfInBounds_toArray, List.set_cons_zero, List.set_cons_succ]
  refine RX.seqP_value (fun _ => Below.refl _ _) _ (by first | rfl | simp) (fun w' hw' hctx => by (go_simp); (try first | with_reducible rfl | simp)) ?_
  simp only [Act.put, List.setIfInBounds_toArray, List.set_cons_zero, List.set_cons_succ]
  refine RX.seqP_value (fun _ => Below.refl _ _) _ (by first | rfl | simp) (fun w' hw' hctx => by (go_simp); (try first | with_reducible rfl | simp)) ?_
  simp only [Act.put, List.setIfInBounds_toArray, List.set_cons_zero, List.set_cons_succ]
  refine RX.seqP_value (fun _ => Below.refl _ _) _ (by first | rfl | simp) (fun w' hw' hctx => by (go_simp); (try first | with_reducible rfl | simp)) ?_
  simp only [Act.put, List.setIfInBounds_toArray, List.set_cons_zero, List.set_cons_succ]
  refine RX.seqP_value (fun _ => Below.refl _ _) _ (by first | rfl | simp) (fun w' hw' hctx => by (go_simp); (try first | with_reducible rfl | simp)) ?_
  simp only [Act.put, List.setIfInBounds_toArray, List.set_cons_zero, List.set_cons_succ]
  refine RX.seqP_value (fun _ => Below.refl _ _) _ (by first | rfl | simp) (fun w' hw' hctx => ?_) ?_
  · obtain ⟨c0, c1, c2, c3, c4⟩ := Jc12.out.below (below_tr hdr hw')
    go_simp
    try first | with_reducible rfl | simp
  simp only [Act.put, List.setIfInBounds_toArray, List.set_cons_zero, List.set_cons_succ]
  refine RX.seqP_value (fun _ => Below.refl _ _) _ (by first | rfl | simp) (fun w' hw' hctx => ?_) ?_
  · obtain ⟨c0, c1, c2, c3, c4⟩ := HN2.out.below (below_tr hdr hw')
    go_simp
    try first | with_reducible rfl | simp
  simp only [Act.put, List.setIfInBounds_toArray, List.set_cons_zero, List.set_cons_succ]
  refine RX.seqP_value (fun _ => Below.refl _ _) _ (by first | rfl | simp) (fun w' hw' hctx => by (go_simp); (try first | with_reducible rfl | simp)) ?_
  simp only [Act.put, List.setIfInBounds_toArray, List.set_cons_zero, List.set_cons_succ]
  refine RX.seqP_value (fun _ => Below.refl _ _) _ (by first | rfl | simp) (fun w' hw' hctx => by (go_simp); (try first | with_reducible rfl | simp)) ?_
  simp only [Act.put, List.setIfInBounds_toArray, List.set_cons_zero, List.set_cons_succ]
  refine RX.seqP_value (fun _ => Below.refl _ _) _ (by first | rfl | simp) (fun w' hw' hctx => by (go_simp); (try first | with_reducible rfl | simp)) ?_
  simp only [Act.put, List.setIfInBounds_toArray, List.set_cons_zero, List.set_cons_succ]
  refine RX.seqP_value (fun _ => Below.refl _ _) _ (by first | rfl | simp) (fun w' hw' hctx => ?_) ?_
  · obtain ⟨c0, c1, c2, c3, c4⟩ := JX2.out.below (below_tr hdr hw')
    go_simp
    try first | with_reducible rfl | simp
  simp only [Act.put, List.setIfInBounds_toArray, List.set_cons_zero, List.set_cons_succ]
  refine RX.seqP_value (fun _ => Below.refl _ _) _ (by first | rfl | simp) (fun w' hw' hctx => ?_) ?_
  · obtain ⟨c0, c1, c2, c3, c4⟩ := JX2.out.below (below_tr hdr hw')
    go_simp
    try first | with_reducible rfl | simp
  simp only [Act.put, List.setIfInBounds_toArray, List.set_cons_zero, List.set_cons_succ]
  refine RX.seqP_call (18) #[.agg #[.int .u8 x.k, .int .i64 x.n, .int .i64 x.u, .string x.t], .agg #[.int .u8 x.k, .int .i64 x.n, .int .i64 x.u, .string x.t]] (.bool true) (by first | rfl | simp) (fun w' hw' hctx => ?_) (fun w' hw' hctx => HM3.out w') ?_
  · go_simp
  simp only [Act.put, List.setIfInBounds_toArray, List.set_cons_zero, List.set_cons_succ]
  refine RX.seqP_value (fun _ => Below.refl _ _) _ (by first | rfl | simp) (fun w' hw' hctx => ?_) ?_
  · obtain ⟨c0, c1, c2, c3, c4⟩ := JX2.out.below (below_tr hdr hw')
    go_simp
    try first | with_reducible rfl | simp
  simp only [Act.put, List.setIfInBounds_toArray, List.set_cons_zero, List.set_cons_succ]
  refine RX.seqP_call (14) #[.agg #[.int .u8 x.k, .int .i64 x.n, .int .i64 x.u, .string x.t]] (.bool true) (by first | rfl | simp) (fun w' hw' hctx => ?_) (fun w' hw' hctx => HK1.out w') ?_
  · go_simp
  simp only [Act.put, List.setIfInBounds_toArray, List.set_cons_zero, List.set_cons_succ]
  refine RX.seqP_value (fun _ => Below.refl _ _) _ (by first | rfl | simp) (fun w' hw' hctx => by (go_simp); (try first | with_reducible rfl | simp)) ?_
  simp only [Act.put, List.setIfInBounds_toArray, List.set_cons_zero, List.set_cons_succ]
  refine RX.seqP_value (fun _ => Below.refl _ _) _ (by first | rfl | simp) (fun w' hw' hctx => by (go_simp); (try first | with_reducible rfl | simp)) ?_
  simp only [Act.put, List.setIfInBounds_toArray, List.set_cons_zero, List.set_cons_succ]
  refine RX.seqP_nil (fun v1 hR hctx _ => ?_)
  have hv1 := below_tr hdr hR
  clear hctx hR
  have HV1 := Lib.hid (below_tr HB2.out hv1)
  have KX := Lib.hid (JX2.out.below hv1)
  have KY := Lib.hid (JY2.out.below hv1)
  have Kc1 := Lib.hid (Jc12.out.below hv1)
  have Kc2 := Lib.hid (HN2.out.below hv1)
  clear hv1 hdr
  go_wp2_with fail
  have hdr := below_drw v1
  try simp only [List.append_eq, List.cons_append, List.nil_append]
  refine RX.wp_region_plan (fun w w' => Below w.heap.size w w') [.it (.agg #[.int .u8 0, .int .i64 0, .int .i64 0, .string ⟨#[]⟩]), .it (.int .i64 n), .it (.bool false), .it (.agg #[.int .u8 x.k, .int .i64 x.n, .int .i64 x.u, .string x.t]), .it (.int .i64 n), .it (.bool true), .it (.bool true), .it (.agg #[.int .u8 y.k, .int .i64 y.n, .int .i64 y.u, .string y.t]), .it (.int .i64 n), .it (.bool false), .it (.bool false), .it (.bool false)] (by kernel_rfl) (by kernel_rfl) (fun _ => Below.refl _ _) (fun _ _ _ => below_tr) ?_
  refine RX.seqP_value (fun _ => Below.refl _ _) _ (by first | rfl | simp) (fun w' hw' hctx => ?_) ?_
  · obtain ⟨c0, c1, c2, c3, c4⟩ := Kc1.out.below (below_tr hdr hw')
    go_simp
    try first | with_reducible rfl | simp
  simp only [Act.put, List.setIfInBounds_toArray, List.set_cons_zero, List.set_cons_succ]
  refine RX.seqP_value (fun _ => Below.refl _ _) _ (by first | rfl | simp) (fun w' hw' hctx => by (go_simp); (try first | with_reducible rfl | simp)) ?_
  simp only [Act.put, List.setIfInBounds_toArray, List.set_cons_zero, List.set_cons_succ]
  refine RX.seqP_call (16) #[.agg #[.int .u8 0, .int .i64 0, .int .i64 0, .string ⟨#[]⟩], .int .i64 n] (.bool false) (by first | rfl | simp) (fun w' hw' hctx => ?_) (fun w' hw' hctx => HHC.out w') ?_
  · go_simp
  simp only [Act.put, List.setIfInBounds_toArray, List.set_cons_zero, List.set_cons_succ]
  refine RX.seqP_value (fun _ => Below.refl _ _) _ (by first | rfl | simp) (fun w' hw' hctx => ?_) ?_
  · obtain ⟨c0, c1, c2, c3, c4⟩ := KX.out.below (below_tr hdr hw')
    go_simp
    try first | with_reducible rfl | simp
  simp only [Act.put, List.setIfInBounds_toArray, List.set_cons_zero, List.set_cons_succ]
  refine RX.seqP_value (fun _ => Below.refl _ _) _ (by first | rfl | simp) (fun w' hw' hctx => by (go_simp); (try first | with_reducible rfl | simp)) ?_
  simp only [Act.put, List.setIfInBounds_toArray, List.set_cons_zero, List.set_cons_succ]
  refine RX.seqP_call (16) #[.agg #[.int .u8 x.k, .int .i64 x.n, .int .i64 x.u, .string x.t], .int .i64 n] (.bool true) (by first | rfl | simp) (fun w' hw' hctx => ?_) (fun w' hw' hctx => HHX.out w') ?_
  · go_simp
  simp only [Act.put, List.setIfInBounds_toArray, List.set_cons_zero, List.set_cons_succ]
  refine RX.seqP_value (fun _ => Below.refl _ _) _ (by first | rfl | simp) (fun w' hw' hctx => by (go_simp); (try first | with_reducible rfl | simp)) ?_
  simp only [Act.put, List.setIfInBounds_toArray, List.set_cons_zero, List.set_cons_succ]
  refine RX.seqP_value (fun _ => Below.refl _ _) _ (by first | rfl | simp) (fun w' hw' hctx => ?_) ?_
  · obtain ⟨c0, c1, c2, c3, c4⟩ := KY.out.below (below_tr hdr hw')
    go_simp
    try first | with_reducible rfl | simp
  simp only [Act.put, List.setIfInBounds_toArray, List.set_cons_zero, List.set_cons_succ]
  refine RX.seqP_value (fun _ => Below.refl _ _) _ (by first | rfl | simp) (fun w' hw' hctx => by (go_simp); (try first | with_reducible rfl | simp)) ?_
  simp only [Act.put, List.setIfInBounds_toArray, List.set_cons_zero, List.set_cons_succ]
  refine RX.seqP_call (16) #[.agg #[.int .u8 y.k, .int .i64 y.n, .int .i64 y.u, .string y.t], .int .i64 n] (.bool false) (by first | rfl | simp) (fun w' hw' hctx => ?_) (fun w' hw' hctx => HHY.out w') ?_
  · go_simp
  simp only [Act.put, List.setIfInBounds_toArray, List.set_cons_zero, List.set_cons_succ]
  refine RX.seqP_value (fun _ => Below.refl _ _) _ (by first | rfl | simp) (fun w' hw' hctx => by (go_simp); (try first | with_reducible rfl | simp)) ?_
  simp only [Act.put, List.setIfInBounds_toArray, List.set_cons_zero, List.set_cons_succ]
  refine RX.seqP_value (fun _ => Below.refl _ _) _ (by first | rfl | simp) (fun w' hw' hctx => by (go_simp); (try first | with_reducible rfl | simp)) ?_
  simp only [Act.put, List.setIfInBounds_toArray, List.set_cons_zero, List.set_cons_succ]
  refine RX.seqP_nil (fun v2 hR hctx _ => ?_)
  have hv2 := below_tr hdr hR
  clear hctx hR
  have HV2 := Lib.hid (below_tr HV1.out hv2)
  have MX := Lib.hid (KX.out.below hv2)
  have MY := Lib.hid (KY.out.below hv2)
  have Mc1 := Lib.hid (Kc1.out.below hv2)
  have Mc2 := Lib.hid (Kc2.out.below hv2)
  clear hv2 hdr
  obtain ⟨b0, b1, b2, b3, b4⟩ := MX.out
  obtain ⟨d0, d1, d2, d3, d4⟩ := MY.out
  obtain ⟨m0, m1, m2, m3, m4⟩ := Mc1.out
  go_wp2_with fail
  refine (HK1.out _).mono ?_
  rintro e v3 ⟨rfl, hv3⟩
  have hw3 := hv3
  clear b0 b1 b2 b3 b4 d0 d1 d2 d3 d4 m0 m1 m2 m3 m4
  obtain ⟨b0, b1, b2, b3, b4⟩ := MX.out.below hw3
  obtain ⟨d0, d1, d2, d3, d4⟩ := MY.out.below hw3
  obtain ⟨m0, m1, m2, m3, m4⟩ := Mc1.out.below hw3
  go_wp2_with fail
  refine (HK2.out _).mono ?_
  rintro e v4 ⟨rfl, hv4⟩
  have hw4 := below_tr hw3 hv4
  clear b0 b1 b2 b3 b4 d0 d1 d2 d3 d4 m0 m1 m2 m3 m4
  obtain ⟨b0, b1, b2, b3, b4⟩ := MX.out.below hw4
  obtain ⟨d0, d1, d2, d3, d4⟩ := MY.out.below hw4
  obtain ⟨m0, m1, m2, m3, m4⟩ := Mc1.out.below hw4
  go_wp2_with fail
  go_ret
  exact ⟨rfl, below_tr HV2.out hw4⟩

set_option maxRecDepth 100000 in
set_option maxHeartbeats 4000000 in
theorem both_3t0 (x y : Val) (n : Int) (hs : x.t.size ≤ 1000) (ht : y.t.size ≤ 1000) (hx : okS x = true) (hy : okS y = true) (hm0 : meetS x y = false) (hp : hasS x n = true) (hq : hasS y n = false) (ho : x.u ≤ y.n) (w : World) :
    Calls Try.prog 6 #[.agg #[.int .u8 x.k, .int .i64 x.n, .int .i64 x.u, .string x.t], .agg #[.int .u8 y.k, .int .i64 y.n, .int .i64 y.u, .string y.t], .int .i64 n] w fun e w' => e = .returned (.bool true) ∧ Below w.heap.size w w' := by
  have hm : meetS x y = false := hm0
  have hc1 : ∀ w, Calls Try.prog 12 #[.agg #[.int .u8 x.k, .int .i64 x.n, .int .i64 x.u, .string x.t], .agg #[.int .u8 y.k, .int .i64 y.n, .int .i64 y.u, .string y.t]] w fun e w' => e = .returned (.tuple #[.agg #[.int .u8 0, .int .i64 0, .int .i64 0, .string ⟨#[]⟩], .bool false]) ∧ Below w.heap.size w w' := fun w => by
    have h := com_is x y w
    rw [comS_no hm, hm] at h
    exact h
  have hc2 : ∀ w, Calls Try.prog 12 #[.agg #[.int .u8 y.k, .int .i64 y.n, .int .i64 y.u, .string y.t], .agg #[.int .u8 x.k, .int .i64 x.n, .int .i64 x.u, .string x.t]] w fun e w' => e = .returned (.tuple #[.agg #[.int .u8 0, .int .i64 0, .int .i64 0, .string ⟨#[]⟩], .bool false]) ∧ Below w.heap.size w w' := fun w => by
    have h := com_is y x w
    rw [← comS_comm, ← meetS_comm, comS_no hm, hm] at h
    exact h
  have hm1 := fun w => meets_is x y false hm w
  have hm2 := fun w => meets_is y x false (by rw [meetS_comm]; exact hm) w
  have hm3 := fun w => meets_is x x true (by rw [meetS_self]; exact hx) w
  have hk1 := fun w => may_is x true hx w
  have hk2 := fun w => may_is y true hy w
  have hhc := fun w => has_is Val.zero n false (by rw [hasS, okS_zero]; rfl) w
  have hhx := fun w => has_is x n true hp w
  have hhy := fun w => has_is y n false hq w
  have HC1 := Lib.hid hc1
  have HC2 := Lib.hid hc2
  have HM1 := Lib.hid hm1
  have HM2 := Lib.hid hm2
  have HM3 := Lib.hid hm3
  have HK1 := Lib.hid hk1
  have HK2 := Lib.hid hk2
  have HHC := Lib.hid hhc
  have HHX := Lib.hid hhx
  have HHY := Lib.hid hhy
  clear hc1 hc2 hm1 hm2 hm3 hk1 hk2 hhc hhx hhy
  have hnq : ∀ w, (Go.binOp .neq 23 (.agg #[.int .u8 0, .int .i64 0, .int .i64 0, .string ⟨#[]⟩]) (.agg #[.int .u8 0, .int .i64 0, .int .i64 0, .string ⟨#[]⟩])).run Try.prog w = .ok (.bool false) w := neq_self ⟨0, 0, 0, ⟨#[]⟩⟩
  obtain ⟨W, g, hg, hW, B0, B1, hb0⟩ := boxYY w x y
  have HB := Lib.hid hb0
  have H0 := Lib.hid B0
  have H1 := Lib.hid B1
  obtain ⟨b0, b1, b2, b3, b4⟩ := B0
  obtain ⟨d0, d1, d2, d3, d4⟩ := B1
  clear hb0
  have h' : ¬ (1000 : Int) < (x.t.size : Int) := by omega
  have k' : ¬ (1000 : Int) < (y.t.size : Int) := by omega
  clear hs ht hx hy hm0 hp hm hq
  go_enter Try.func6, Try.ntmps6
  go_wp2_with fail
  refine (awake_is _).mono ?_
  rintro e a0 ⟨rfl, hb0⟩
  have J0 := Lib.hid (H0.out.below hb0)
  have J1 := Lib.hid (H1.out.below hb0)
  have HB0 := Lib.hid (below_tr HB.out hb0)
  clear b0 b1 b2 b3 b4 d0 d1 d2 d3 d4 hb0
  obtain ⟨b0, b1, b2, b3, b4⟩ := J0.out
  obtain ⟨d0, d1, d2, d3, d4⟩ := J1.out
  go_wp2_with fail
  clear b0 b1 b2 b3 b4 d0 d1 d2 d3 d4
  refine (HC1.out _).mono ?_
  rintro e a1 ⟨rfl, hb1⟩
  obtain ⟨W1, hW1, hN1, hn1⟩ : ∃ V, a1.alloc (.cells #[.int .u8 0, .int .i64 0, .int .i64 0, .string ⟨#[]⟩] 23) = V ∧ Boxed V a1.heap.size 0 0 0 ⟨#[]⟩ ∧ Below a1.heap.size a1 V := ⟨_, rfl, Boxed.new _ _ _ _ _ _, Below.allocs _ _⟩
  have HW1 := Lib.hid hW1
  have hz1 := below_tr hb1 hn1
  have HB1 := Lib.hid (below_tr HB0.out hz1)
  have HN1 := Lib.hid hN1
  have JX1 := Lib.hid (J0.out.below hz1)
  have JY1 := Lib.hid (J1.out.below hz1)
  obtain ⟨b0, b1, b2, b3, b4⟩ := J0.out.below hb1
  obtain ⟨d0, d1, d2, d3, d4⟩ := J1.out.below hb1
  clear hW1 hb1 hn1 hz1 hN1
  go_wp2_with fail
  rw [HW1.out]
  clear b0 b1 b2 b3 b4 d0 d1 d2 d3 d4
  refine (HC2.out _).mono ?_
  rintro e a2 ⟨rfl, hb2⟩
  obtain ⟨W2, hW2, hN2, hn2⟩ : ∃ V, a2.alloc (.cells #[.int .u8 0, .int .i64 0, .int .i64 0, .string ⟨#[]⟩] 23) = V ∧ Boxed V a2.heap.size 0 0 0 ⟨#[]⟩ ∧ Below a2.heap.size a2 V := ⟨_, rfl, Boxed.new _ _ _ _ _ _, Below.allocs _ _⟩
  have HW2 := Lib.hid hW2
  have hz2 := below_tr hb2 hn2
  have HB2 := Lib.hid (below_tr HB1.out hz2)
  have HN2 := Lib.hid hN2
  have JX2 := Lib.hid (JX1.out.below hz2)
  have JY2 := Lib.hid (JY1.out.below hz2)
  have Jc12 := Lib.hid (HN1.out.below hz2)
  obtain ⟨b0, b1, b2, b3, b4⟩ := JX1.out.below hb2
  obtain ⟨d0, d1, d2, d3, d4⟩ := JY1.out.below hb2
  clear hW2 hb2 hn2 hz2 hN2
  go_wp2_with fail
  rw [HW2.out]
  clear b0 b1 b2 b3 b4 d0 d1 d2 d3 d4
  have hdr := below_drw W2
  try simp only [List.append_eq, List.cons_append, List.nil_append]
  refine RX.wp_region_plan (fun w w' => Below w.heap.size w w') [.it (.bool false), .it (.agg #[.int .u8 x.k, .int .i64 x.n, .int .i64 x.u, .string x.t]), .it (.agg #[.int .u8 y.k, .int .i64 y.n, .int .i64 y.u, .string y.t]), .it (.bool false), .it (.bool false), .it (.bool false), .it (.bool false), .it (.agg #[.int .u8 y.k, .int .i64 y.n, .int .i64 y.u, .string y.t]), .it (.agg #[.int .u8 x.k, .int .i64 x.n, .int .i64 x.u, .string x.t]), .it (.bool false), .it (.bool false), .it (.bool false), .it (.bool false), .it (.bool false), .it (.bool false), .it (.bool false), .it (.bool false), .it (.bool false), .it (.agg #[.int .u8 0, .int .i64 0, .int .i64 0, .string ⟨#[]⟩]), .it (.agg #[.int .u8 0, .int .i64 0, .int .i64 0, .string ⟨#[]⟩]), .it (.bool false), .it (.bool false), .it (.bool false), .it (.agg #[.int .u8 x.k, .int .i64 x.n, .int .i64 x.u, .string x.t]), .it (.agg #[.int .u8 x.k, .int .i64 x.n, .int .i64 x.u, .string x.t]), .it (.bool true), .it (.agg #[.int .u8 x.k, .int .i64 x.n, .int .i64 x.u, .string x.t]), .it (.bool true), .it (.bool false), .it (.bool false)] (by kernel_rfl) (by kernel_rfl) (fun _ => Below.refl _ _) (fun _ _ _ => below_tr) ?_
  refine RX.seqP_value (fun _ => Below.refl _ _) _ (by first | rfl | simp) (fun w' hw' hctx => by (go_simp); (try first | with_reducible rfl | simp)) ?_
  simp only [Act.put, List.setIfInBounds_toArray, List.set_cons_zero, List.set_cons_succ]
  refine RX.seqP_value (fun _ => Below.refl _ _) _ (by first | rfl | simp) (fun w' hw' hctx => ?_) ?_
  · obtain ⟨c0, c1, c2, c3, c4⟩ := JX2.out.below (below_tr hdr hw')
    go_simp
    try first | with_reducible rfl | simp
  simp only [Act.put, List.setIfInBounds_toArray, List.set_cons_zero, List.set_cons_succ]
  refine RX.seqP_value (fun _ => Below.refl _ _) _ (by first | rfl | simp) (fun w' hw' hctx => ?_) ?_
  · obtain ⟨c0, c1, c2, c3, c4⟩ := JY2.out.below (below_tr hdr hw')
    go_simp
    try first | with_reducible rfl | simp
  simp only [Act.put, List.setIfInBounds_toArray, List.set_cons_zero, List.set_cons_succ]
  refine RX.seqP_call (18) #[.agg #[.int .u8 x.k, .int .i64 x.n, .int .i64 x.u, .string x.t], .agg #[.int .u8 y.k, .int .i64 y.n, .int .i64 y.u, .string y.t]] (.bool false) (by first | rfl | simp) (fun w' hw' hctx => ?_) (fun w' hw' hctx => HM1.out w') ?_
  · go_simp
  simp only [Act.put, List.setIfInBounds_toArray, List.set_cons_zero, List.set_cons_succ]
  refine RX.seqP_value (fun _ => Below.refl _ _) _ (by first | rfl | simp) (fun w' hw' hctx => by (go_simp); (try first | with_reducible rfl | simp)) ?_
  simp only [Act.put, List.setIfInBounds_toArray, List.set_cons_zero, List.set_cons_succ]
  refine RX.seqP_value (fun _ => Below.refl _ _) _ (by first | rfl | simp) (fun w' hw' hctx => by (go_simp); (try first | with_reducible rfl | simp)) ?_
  simp only [Act.put, List.setIfInBounds_toArray, List.set_cons_zero, List.set_cons_succ]
  refine RX.seqP_value (fun _ => Below.refl _ _) _ (by first | rfl | simp) (fun w' hw' hctx => by (go_simp); (try first | with_reducible rfl | simp)) ?_
  simp only [Act.put, List.setIfInBounds_toArray, List.set_cons_zero, List.set_cons_succ]
  refine RX.seqP_value (fun _ => Below.refl _ _) _ (by first | rfl | simp) (fun w' hw' hctx => ?_) ?_
  · obtain ⟨c0, c1, c2, c3, c4⟩ := JY2.out.below (below_tr hdr hw')
    go_simp
    try first | with_reducible rfl | simp
  simp only [Act.put, List.setIfInBounds_toArray, List.set_cons_zero, List.set_cons_succ]
  refine RX.seqP_value (fun _ => Below.refl _ _) _ (by first | rfl | simp) (fun w' hw' hctx => ?_) ?_
  · obtain ⟨c0, c1, c2, c3, c4⟩ := JX2.out.below (below_tr hdr hw')
    go_simp
    try first | with_reducible rfl | simp
  simp only [Act.put, List.setIfInBounds_toArray, List.set_cons_zero, List.set_cons_succ]
  refine RX.seqP_call (18) #[.agg #[.int .u8 y.k, .int .i64 y.n, .int .i64 y.u, .string y.t], .agg #[.int .u8 x.k, .int .i64 x.n, .int .i64 x.u, .string x.t]] (.bool false) (by first | rfl | simp) (fun w' hw' hctx => ?_) (fun w' hw' hctx => HM2.out w') ?_
  · go_simp
  simp only [Act.put, List.setIfInBounds_toArray, List.set_cons_zero, List.set_cons_succ]
  refine RX.seqP_value (fun _ => Below.refl _ _) _ (by first | rfl | simp) (fun w' hw' hctx => by (go_simp); (try first | with_reducible rfl | simp)) ?_
  simp only [Act.put, List.setIfInBounds_toArray, List.set_cons_zero, List.set_cons_succ]
  refine RX.seqP_value (fun _ => Below.refl _ _) _ (by first | rfl | simp) (fun w' hw' hctx => by (go_simp); (try first | with_reducible rfl | simp)) ?_
  simp only [Act.put, List.setIfInBounds_toArray, List.set_cons_zero, List.set_cons_succ]
  refine RX.seqP_value (fun _ => Below.refl _ _) _ (by first | rfl | simp) (fun w' hw' hctx => by (go_simp); (try first | with_reducible rfl | simp)) ?_
  simp only [Act.put, List.setIfInBounds_toArray, List.set_cons_zero, List.set_cons_succ]
  refine RX.seqP_value (fun _ => Below.refl _ _) _ (by first | rfl | simp) (fun w' hw' hctx => by (go_simp); (try first | with_reducible rfl | simp)) ?_
  simp only [Act.put, List.setIfInBounds_toArray, List.set_cons_zero, List.set_cons_succ]
  refine RX.seqP_value (fun _ => Below.refl _ _) _ (by first | rfl | simp) (fun w' hw' hctx => by (go_simp); (try first | with_reducible rfl | simp)) ?_
  simp only [Act.put, List.setIfInBounds_toArray, List.set_cons_zero, List.set_cons_succ]
  refine RX.seqP_value (fun _ => Below.refl _ _) _ (by first | rfl | simp) (fun w' hw' hctx => by (go_simp); (try first | with_reducible rfl | simp)) ?_
  simp only [Act.put, List.setIfInBounds_toArray, List.set_cons_zero, List.set_cons_succ]
  refine RX.seqP_value (fun _ => Below.refl _ _) _ (by first | rfl | simp) (fun w' hw' hctx => by (go_simp); (try first | with_reducible rfl | simp)) ?_
  simp only [Act.put, List.setIfInBounds_toArray, List.set_cons_zero, List.set_cons_succ]
  refine RX.seqP_value (fun _ => Below.refl _ _) _ (by first | rfl | simp) (fun w' hw' hctx => by (go_simp); (try first | with_reducible rfl | simp)) ?_
  simp only [Act.put, List.setIfInBounds_toArray, List.set_cons_zero, List.set_cons_succ]
  refine RX.seqP_value (fun _ => Below.refl _ _) _ (by first | rfl | simp) (fun w' hw' hctx => ?_) ?_
  · obtain ⟨c0, c1, c2, c3, c4⟩ := Jc12.out.below (below_tr hdr hw')
    go_simp
    try first | with_reducible rfl | simp
  simp only [Act.put, List.setIfInBounds_toArray, List.set_cons_zero, List.set_cons_succ]
  refine RX.seqP_value (fun _ => Below.refl _ _) _ (by first | rfl | simp) (fun w' hw' hctx => ?_) ?_
  · obtain ⟨c0, c1, c2, c3, c4⟩ := HN2.out.below (below_tr hdr hw')
    go_simp
    try first | with_reducible rfl | simp
  simp only [Act.put, List.setIfInBounds_toArray, List.set_cons_zero, List.set_cons_succ]
  refine RX.seqP_value (fun _ => Below.refl _ _) _ (by first | rfl | simp) (fun w' hw' hctx => by (go_simp); (try first | with_reducible rfl | simp)) ?_
  simp only [Act.put, List.setIfInBounds_toArray, List.set_cons_zero, List.set_cons_succ]
  refine RX.seqP_value (fun _ => Below.refl _ _) _ (by first | rfl | simp) (fun w' hw' hctx => by (go_simp); (try first | with_reducible rfl | simp)) ?_
  simp only [Act.put, List.setIfInBounds_toArray, List.set_cons_zero, List.set_cons_succ]
  refine RX.seqP_value (fun _ => Below.refl _ _) _ (by first | rfl | simp) (fun w' hw' hctx => by (go_simp); (try first | with_reducible rfl | simp)) ?_
  simp only [Act.put, List.setIfInBounds_toArray, List.set_cons_zero, List.set_cons_succ]
  refine RX.seqP_value (fun _ => Below.refl _ _) _ (by first | rfl | simp) (fun w' hw' hctx => ?_) ?_
  · obtain ⟨c0, c1, c2, c3, c4⟩ := JX2.out.below (below_tr hdr hw')
    go_simp
    try first | with_reducible rfl | simp
  simp only [Act.put, List.setIfInBounds_toArray, List.set_cons_zero, List.set_cons_succ]
  refine RX.seqP_value (fun _ => Below.refl _ _) _ (by first | rfl | simp) (fun w' hw' hctx => ?_) ?_
  · obtain ⟨c0, c1, c2, c3, c4⟩ := JX2.out.below (below_tr hdr hw')
    go_simp
    try first | with_reducible rfl | simp
  simp only [Act.put, List.setIfInBounds_toArray, List.set_cons_zero, List.set_cons_succ]
  refine RX.seqP_call (18) #[.agg #[.int .u8 x.k, .int .i64 x.n, .int .i64 x.u, .string x.t], .agg #[.int .u8 x.k, .int .i64 x.n, .int .i64 x.u, .string x.t]] (.bool true) (by first | rfl | simp) (fun w' hw' hctx => ?_) (fun w' hw' hctx => HM3.out w') ?_
  · go_simp
  simp only [Act.put, List.setIfInBounds_toArray, List.set_cons_zero, List.set_cons_succ]
  refine RX.seqP_value (fun _ => Below.refl _ _) _ (by first | rfl | simp) (fun w' hw' hctx => ?_) ?_
  · obtain ⟨c0, c1, c2, c3, c4⟩ := JX2.out.below (below_tr hdr hw')
    go_simp
    try first | with_reducible rfl | simp
  simp only [Act.put, List.setIfInBounds_toArray, List.set_cons_zero, List.set_cons_succ]
  refine RX.seqP_call (14) #[.agg #[.int .u8 x.k, .int .i64 x.n, .int .i64 x.u, .string x.t]] (.bool true) (by first | rfl | simp) (fun w' hw' hctx => ?_) (fun w' hw' hctx => HK1.out w') ?_
  · go_simp
  simp only [Act.put, List.setIfInBounds_toArray, List.set_cons_zero, List.set_cons_succ]
  refine RX.seqP_value (fun _ => Below.refl _ _) _ (by first | rfl | simp) (fun w' hw' hctx => by (go_simp); (try first | with_reducible rfl | simp)) ?_
  simp only [Act.put, List.setIfInBounds_toArray, List.set_cons_zero, List.set_cons_succ]
  refine RX.seqP_value (fun _ => Below.refl _ _) _ (by first | rfl | simp) (fun w' hw' hctx => by (go_simp); (try first | with_reducible rfl | simp)) ?_
  simp only [Act.put, List.setIfInBounds_toArray, List.set_cons_zero, List.set_cons_succ]
  refine RX.seqP_nil (fun v1 hR hctx _ => ?_)
  have hv1 := below_tr hdr hR
  clear hctx hR
  have HV1 := Lib.hid (below_tr HB2.out hv1)
  have KX := Lib.hid (JX2.out.below hv1)
  have KY := Lib.hid (JY2.out.below hv1)
  have Kc1 := Lib.hid (Jc12.out.below hv1)
  have Kc2 := Lib.hid (HN2.out.below hv1)
  clear hv1 hdr
  go_wp2_with fail
  have hdr := below_drw v1
  try simp only [List.append_eq, List.cons_append, List.nil_append]
  refine RX.wp_region_plan (fun w w' => Below w.heap.size w w') [.it (.agg #[.int .u8 0, .int .i64 0, .int .i64 0, .string ⟨#[]⟩]), .it (.int .i64 n), .it (.bool false), .it (.agg #[.int .u8 x.k, .int .i64 x.n, .int .i64 x.u, .string x.t]), .it (.int .i64 n), .it (.bool true), .it (.bool true), .it (.agg #[.int .u8 y.k, .int .i64 y.n, .int .i64 y.u, .string y.t]), .it (.int .i64 n), .it (.bool false), .it (.bool false), .it (.bool false)] (by kernel_rfl) (by kernel_rfl) (fun _ => Below.refl _ _) (fun _ _ _ => below_tr) ?_
  refine RX.seqP_value (fun _ => Below.refl _ _) _ (by first | rfl | simp) (fun w' hw' hctx => ?_) ?_
  · obtain ⟨c0, c1, c2, c3, c4⟩ := Kc1.out.below (below_tr hdr hw')
    go_simp
    try first | with_reducible rfl | simp
  simp only [Act.put, List.setIfInBounds_toArray, List.set_cons_zero, List.set_cons_succ]
  refine RX.seqP_value (fun _ => Below.refl _ _) _ (by first | rfl | simp) (fun w' hw' hctx => by (go_simp); (try first | with_reducible rfl | simp)) ?_
  simp only [Act.put, List.setIfInBounds_toArray, List.set_cons_zero, List.set_cons_succ]
  refine RX.seqP_call (16) #[.agg #[.int .u8 0, .int .i64 0, .int .i64 0, .string ⟨#[]⟩], .int .i64 n] (.bool false) (by first | rfl | simp) (fun w' hw' hctx => ?_) (fun w' hw' hctx => HHC.out w') ?_
  · go_simp
  simp only [Act.put, List.setIfInBounds_toArray, List.set_cons_zero, List.set_cons_succ]
  refine RX.seqP_value (fun _ => Below.refl _ _) _ (by first | rfl | simp) (fun w' hw' hctx => ?_) ?_
  · obtain ⟨c0, c1, c2, c3, c4⟩ := KX.out.below (below_tr hdr hw')
    go_simp
    try first | with_reducible rfl | simp
  simp only [Act.put, List.setIfInBounds_toArray, List.set_cons_zero, List.set_cons_succ]
  refine RX.seqP_value (fun _ => Below.refl _ _) _ (by first | rfl | simp) (fun w' hw' hctx => by (go_simp); (try first | with_reducible rfl | simp)) ?_
  simp only [Act.put, List.setIfInBounds_toArray, List.set_cons_zero, List.set_cons_succ]
  refine RX.seqP_call (16) #[.agg #[.int .u8 x.k, .int .i64 x.n, .int .i64 x.u, .string x.t], .int .i64 n] (.bool true) (by first | rfl | simp) (fun w' hw' hctx => ?_) (fun w' hw' hctx => HHX.out w') ?_
  · go_simp
  simp only [Act.put, List.setIfInBounds_toArray, List.set_cons_zero, List.set_cons_succ]
  refine RX.seqP_value (fun _ => Below.refl _ _) _ (by first | rfl | simp) (fun w' hw' hctx => by (go_simp); (try first | with_reducible rfl | simp)) ?_
  simp only [Act.put, List.setIfInBounds_toArray, List.set_cons_zero, List.set_cons_succ]
  refine RX.seqP_value (fun _ => Below.refl _ _) _ (by first | rfl | simp) (fun w' hw' hctx => ?_) ?_
  · obtain ⟨c0, c1, c2, c3, c4⟩ := KY.out.below (below_tr hdr hw')
    go_simp
    try first | with_reducible rfl | simp
  simp only [Act.put, List.setIfInBounds_toArray, List.set_cons_zero, List.set_cons_succ]
  refine RX.seqP_value (fun _ => Below.refl _ _) _ (by first | rfl | simp) (fun w' hw' hctx => by (go_simp); (try first | with_reducible rfl | simp)) ?_
  simp only [Act.put, List.setIfInBounds_toArray, List.set_cons_zero, List.set_cons_succ]
  refine RX.seqP_call (16) #[.agg #[.int .u8 y.k, .int .i64 y.n, .int .i64 y.u, .string y.t], .int .i64 n] (.bool false) (by first | rfl | simp) (fun w' hw' hctx => ?_) (fun w' hw' hctx => HHY.out w') ?_
  · go_simp
  simp only [Act.put, List.setIfInBounds_toArray, List.set_cons_zero, List.set_cons_succ]
  refine RX.seqP_value (fun _ => Below.refl _ _) _ (by first | rfl | simp) (fun w' hw' hctx => by (go_simp); (try first | with_reducible rfl | simp)) ?_
  simp only [Act.put, List.setIfInBounds_toArray, List.set_cons_zero, List.set_cons_succ]
  refine RX.seqP_value (fun _ => Below.refl _ _) _ (by first | rfl | simp) (fun w' hw' hctx => by (go_simp); (try first | with_reducible rfl | simp)) ?_
  simp only [Act.put, List.setIfInBounds_toArray, List.set_cons_zero, List.set_cons_succ]
  refine RX.seqP_nil (fun v2 hR hctx _ => ?_)
  have hv2 := below_tr hdr hR
  clear hctx hR
  have HV2 := Lib.hid (below_tr HV1.out hv2)
  have MX := Lib.hid (KX.out.below hv2)
  have MY := Lib.hid (KY.out.below hv2)
  have Mc1 := Lib.hid (Kc1.out.below hv2)
  have Mc2 := Lib.hid (Kc2.out.below hv2)
  clear hv2 hdr
  obtain ⟨b0, b1, b2, b3, b4⟩ := MX.out
  obtain ⟨d0, d1, d2, d3, d4⟩ := MY.out
  obtain ⟨m0, m1, m2, m3, m4⟩ := Mc1.out
  go_wp2_with fail
  refine (HK1.out _).mono ?_
  rintro e v3 ⟨rfl, hv3⟩
  have hw3 := hv3
  clear b0 b1 b2 b3 b4 d0 d1 d2 d3 d4 m0 m1 m2 m3 m4
  obtain ⟨b0, b1, b2, b3, b4⟩ := MX.out.below hw3
  obtain ⟨d0, d1, d2, d3, d4⟩ := MY.out.below hw3
  obtain ⟨m0, m1, m2, m3, m4⟩ := Mc1.out.below hw3
  go_wp2_with fail
  refine (HK2.out _).mono ?_
  rintro e v4 ⟨rfl, hv4⟩
  have hw4 := below_tr hw3 hv4
  clear b0 b1 b2 b3 b4 d0 d1 d2 d3 d4 m0 m1 m2 m3 m4
  obtain ⟨b0, b1, b2, b3, b4⟩ := MX.out.below hw4
  obtain ⟨d0, d1, d2, d3, d4⟩ := MY.out.below hw4
  obtain ⟨m0, m1, m2, m3, m4⟩ := Mc1.out.below hw4
  go_wp2_with fail
  go_ret
  exact ⟨rfl, below_tr HV2.out hw4⟩

set_option maxRecDepth 100000 in
set_option maxHeartbeats 4000000 in
theorem both_3t1 (x y : Val) (n : Int) (hs : x.t.size ≤ 1000) (ht : y.t.size ≤ 1000) (hx : okS x = true) (hy : okS y = true) (hm0 : meetS x y = false) (hp : hasS x n = true) (hq : hasS y n = false) (ho1 : y.n < x.u) (ho : y.u ≤ x.n) (w : World) :
    Calls Try.prog 6 #[.agg #[.int .u8 x.k, .int .i64 x.n, .int .i64 x.u, .string x.t], .agg #[.int .u8 y.k, .int .i64 y.n, .int .i64 y.u, .string y.t], .int .i64 n] w fun e w' => e = .returned (.bool true) ∧ Below w.heap.size w w' := by
  have hm : meetS x y = false := hm0
  have hc1 : ∀ w, Calls Try.prog 12 #[.agg #[.int .u8 x.k, .int .i64 x.n, .int .i64 x.u, .string x.t], .agg #[.int .u8 y.k, .int .i64 y.n, .int .i64 y.u, .string y.t]] w fun e w' => e = .returned (.tuple #[.agg #[.int .u8 0, .int .i64 0, .int .i64 0, .string ⟨#[]⟩], .bool false]) ∧ Below w.heap.size w w' := fun w => by
    have h := com_is x y w
    rw [comS_no hm, hm] at h
    exact h
  have hc2 : ∀ w, Calls Try.prog 12 #[.agg #[.int .u8 y.k, .int .i64 y.n, .int .i64 y.u, .string y.t], .agg #[.int .u8 x.k, .int .i64 x.n, .int .i64 x.u, .string x.t]] w fun e w' => e = .returned (.tuple #[.agg #[.int .u8 0, .int .i64 0, .int .i64 0, .string ⟨#[]⟩], .bool false]) ∧ Below w.heap.size w w' := fun w => by
    have h := com_is y x w
    rw [← comS_comm, ← meetS_comm, comS_no hm, hm] at h
    exact h
  have hm1 := fun w => meets_is x y false hm w
  have hm2 := fun w => meets_is y x false (by rw [meetS_comm]; exact hm) w
  have hm3 := fun w => meets_is x x true (by rw [meetS_self]; exact hx) w
  have hk1 := fun w => may_is x true hx w
  have hk2 := fun w => may_is y true hy w
  have hhc := fun w => has_is Val.zero n false (by rw [hasS, okS_zero]; rfl) w
  have hhx := fun w => has_is x n true hp w
  have hhy := fun w => has_is y n false hq w
  have HC1 := Lib.hid hc1
  have HC2 := Lib.hid hc2
  have HM1 := Lib.hid hm1
  have HM2 := Lib.hid hm2
  have HM3 := Lib.hid hm3
  have HK1 := Lib.hid hk1
  have HK2 := Lib.hid hk2
  have HHC := Lib.hid hhc
  have HHX := Lib.hid hhx
  have HHY := Lib.hid hhy
  clear hc1 hc2 hm1 hm2 hm3 hk1 hk2 hhc hhx hhy
  have hnq : ∀ w, (Go.binOp .neq 23 (.agg #[.int .u8 0, .int .i64 0, .int .i64 0, .string ⟨#[]⟩]) (.agg #[.int .u8 0, .int .i64 0, .int .i64 0, .string ⟨#[]⟩])).run Try.prog w = .ok (.bool false) w := neq_self ⟨0, 0, 0, ⟨#[]⟩⟩
  obtain ⟨W, g, hg, hW, B0, B1, hb0⟩ := boxYY w x y
  have HB := Lib.hid hb0
  have H0 := Lib.hid B0
  have H1 := Lib.hid B1
  obtain ⟨b0, b1, b2, b3, b4⟩ := B0
  obtain ⟨d0, d1, d2, d3, d4⟩ := B1
  clear hb0
  have h' : ¬ (1000 : Int) < (x.t.size : Int) := by omega
  have k' : ¬ (1000 : Int) < (y.t.size : Int) := by omega
  clear hs ht hx hy hm0 hp hm hq
  go_enter Try.func6, Try.ntmps6
  go_wp2_with fail
  refine (awake_is _).mono ?_
  rintro e a0 ⟨rfl, hb0⟩
  have J0 := Lib.hid (H0.out.below hb0)
  have J1 := Lib.hid (H1.out.below hb0)
  have HB0 := Lib.hid (below_tr HB.out hb0)
  clear b0 b1 b2 b3 b4 d0 d1 d2 d3 d4 hb0
  obtain ⟨b0, b1, b2, b3, b4⟩ := J0.out
  obtain ⟨d0, d1, d2, d3, d4⟩ := J1.out
  go_wp2_with fail
  clear b0 b1 b2 b3 b4 d0 d1 d2 d3 d4
  refine (HC1.out _).mono ?_
  rintro e a1 ⟨rfl, hb1⟩
  obtain ⟨W1, hW1, hN1, hn1⟩ : ∃ V, a1.alloc (.cells #[.int .u8 0, .int .i64 0, .int .i64 0, .string ⟨#[]⟩] 23) = V ∧ Boxed V a1.heap.size 0 0 0 ⟨#[]⟩ ∧ Below a1.heap.size a1 V := ⟨_, rfl, Boxed.new _ _ _ _ _ _, Below.allocs _ _⟩
  have HW1 := Lib.hid hW1
  have hz1 := below_tr hb1 hn1
  have HB1 := Lib.hid (below_tr HB0.out hz1)
  have HN1 := Lib.hid hN1
  have JX1 := Lib.hid (J0.out.below hz1)
  have JY1 := Lib.hid (J1.out.below hz1)
  obtain ⟨b0, b1, b2, b3, b4⟩ := J0.out.below hb1
  obtain ⟨d0, d1, d2, d3, d4⟩ := J1.out.below hb1
  clear hW1 hb1 hn1 hz1 hN1
  go_wp2_with fail
  rw [HW1.out]
  clear b0 b1 b2 b3 b4 d0 d1 d2 d3 d4
  refine (HC2.out _).mono ?_
  rintro e a2 ⟨rfl, hb2⟩
  obtain ⟨W2, hW2, hN2, hn2⟩ : ∃ V, a2.alloc (.cells #[.int .u8 0, .int .i64 0, .int .i64 0, .string ⟨#[]⟩] 23) = V ∧ Boxed V a2.heap.size 0 0 0 ⟨#[]⟩ ∧ Below a2.heap.size a2 V := ⟨_, rfl, Boxed.new _ _ _ _ _ _, Below.allocs _ _⟩
  have HW2 := Lib.hid hW2
  have hz2 := below_tr hb2 hn2
  have HB2 := Lib.hid (below_tr HB1.out hz2)
  have HN2 := Lib.hid hN2
  have JX2 := Lib.hid (JX1.out.below hz2)
  have JY2 := Lib.hid (JY1.out.below hz2)
  have Jc12 := Lib.hid (HN1.out.below hz2)
  obtain ⟨b0, b1, b2, b3, b4⟩ := JX1.out.below hb2
  obtain ⟨d0, d1, d2, d3, d4⟩ := JY1.out.below hb2
  clear hW2 hb2 hn2 hz2 hN2
  go_wp2_with fail
  rw [HW2.out]
  clear b0 b1 b2 b3 b4 d0 d1 d2 d3 d4
  have hdr := below_drw W2
  try simp only [List.append_eq, List.cons_append, List.nil_append]
  refine RX.wp_region_plan (fun w w' => Below w.heap.size w w') [.it (.bool false), .it (.agg #[.int .u8 x.k, .int .i64 x.n, .int .i64 x.u, .string x.t]), .it (.agg #[.int .u8 y.k, .int .i64 y.n, .int .i64 y.u, .string y.t]), .it (.bool false), .it (.bool false), .it (.bool false), .it (.bool false), .it (.agg #[.int .u8 y.k, .int .i64 y.n, .int .i64 y.u, .string y.t]), .it (.agg #[.int .u8 x.k, .int .i64 x.n, .int .i64 x.u, .string x.t]), .it (.bool false), .it (.bool false), .it (.bool false), .it (.bool false), .it (.bool false), .it (.bool false), .it (.bool false), .it (.bool false), .it (.bool false), .it (.agg #[.int .u8 0, .int .i64 0, .int .i64 0, .string ⟨#[]⟩]), .it (.agg #[.int .u8 0, .int .i64 0, .int .i64 0, .string ⟨#[]⟩]), .it (.bool false), .it (.bool false), .it (.bool false), .it (.agg #[.int .u8 x.k, .int .i64 x.n, .int .i64 x.u, .string x.t]), .it (.agg #[.int .u8 x.k, .int .i64 x.n, .int .i64 x.u, .string x.t]), .it (.bool true), .it (.agg #[.int .u8 x.k, .int .i64 x.n, .int .i64 x.u, .string x.t]), .it (.bool true), .it (.bool false), .it (.bool false)] (by kernel_rfl) (by kernel_rfl) (fun _ => Below.refl _ _) (fun _ _ _ => below_tr) ?_
  refine RX.seqP_value (fun _ => Below.refl _ _) _ (by first | rfl | simp) (fun w' hw' hctx => by (go_simp); (try first | with_reducible rfl | simp)) ?_
  simp only [Act.put, List.setIfInBounds_toArray, List.set_cons_zero, List.set_cons_succ]
  refine RX.seqP_value (fun _ => Below.refl _ _) _ (by first | rfl | simp) (fun w' hw' hctx => ?_) ?_
  · obtain ⟨c0, c1, c2, c3, c4⟩ := JX2.out.below (below_tr hdr hw')
    go_simp
    try first | with_reducible rfl | simp
  simp only [Act.put, List.setIfInBounds_toArray, List.set_cons_zero, List.set_cons_succ]
  refine RX.seqP_value (fun _ => Below.refl _ _) _ (by first | rfl | simp) (fun w' hw' hctx => ?_) ?_
  · obtain ⟨c0, c1, c2, c3, c4⟩ := JY2.out.below (below_tr hdr hw')
    go_simp
    try first | with_reducible rfl | simp
  simp only [Act.put, List.setIfInBounds_toArray, List.set_cons_zero, List.set_cons_succ]
  refine RX.seqP_call (18) #[.agg #[.int .u8 x.k, .int .i64 x.n, .int .i64 x.u, .string x.t], .agg #[.int .u8 y.k, .int .i64 y.n, .int .i64 y.u, .string y.t]] (.bool false) (by first | rfl | simp) (fun w' hw' hctx => ?_) (fun w' hw' hctx => HM1.out w') ?_
  · go_simp
  simp only [Act.put, List.setIfInBounds_toArray, List.set_cons_zero, List.set_cons_succ]
  refine RX.seqP_value (fun _ => Below.refl _ _) _ (by first | rfl | simp) (fun w' hw' hctx => by (go_simp); (try first | with_reducible rfl | simp)) ?_
  simp only [Act.put, List.setIfInBounds_toArray, List.set_cons_zero, List.set_cons_succ]
  refine RX.seqP_value (fun _ => Below.refl _ _) _ (by first | rfl | simp) (fun w' hw' hctx => by (go_simp); (try first | with_reducible rfl | simp)) ?_
  simp only [Act.put, List.setIfInBounds_toArray, List.set_cons_zero, List.set_cons_succ]
  refine RX.seqP_value (fun _ => Below.refl _ _) _ (by first | rfl | simp) (fun w' hw' hctx => by (go_simp); (try first | with_reducible rfl | simp)) ?_
  simp only [Act.put, List.setIfInBounds_toArray, List.set_cons_zero, List.set_cons_succ]
  refine RX.seqP_value (fun _ => Below.refl _ _) _ (by first | rfl | simp) (fun w' hw' hctx => ?_) ?_
  · obtain ⟨c0, c1, c2, c3, c4⟩ := JY2.out.below (below_tr hdr hw')
    go_simp
    try first | with_reducible rfl | simp
  simp only [Act.put, List.setIfInBounds_toArray, List.set_cons_zero, List.set_cons_succ]
  refine RX.seqP_value (fun _ => Below.refl _ _) _ (by first | rfl | simp) (fun w' hw' hctx => ?_) ?_
  · obtain ⟨c0, c1, c2, c3, c4⟩ := JX2.out.below (below_tr hdr hw')
    go_simp
    try first | with_reducible rfl | simp
  simp only [Act.put, List.setIfInBounds_toArray, List.set_cons_zero, List.set_cons_succ]
  refine RX.seqP_call (18) #[.agg #[.int .u8 y.k, .int .i64 y.n, .int .i64 y.u, .string y.t], .agg #[.int .u8 x.k, .int .i64 x.n, .int .i64 x.u, .string x.t]] (.bool false) (by first | rfl | simp) (fun w' hw' hctx => ?_) (fun w' hw' hctx => HM2.out w') ?_
  · go_simp
  simp only [Act.put, List.setIfInBounds_toArray, List.set_cons_zero, List.set_cons_succ]
  refine RX.seqP_value (fun _ => Below.refl _ _) _ (by first | rfl | simp) (fun w' hw' hctx => by (go_simp); (try first | with_reducible rfl | simp)) ?_
  simp only [Act.put, List.setIfInBounds_toArray, List.set_cons_zero, List.set_cons_succ]
  refine RX.seqP_value (fun _ => Below.refl _ _) _ (by first | rfl | simp) (fun w' hw' hctx => by (go_simp); (try first | with_reducible rfl | simp)) ?_
  simp only [Act.put, List.setIfInBounds_toArray, List.set_cons_zero, List.set_cons_succ]
  refine RX.seqP_value (fun _ => Below.refl _ _) _ (by first | rfl | simp) (fun w' hw' hctx => by (go_simp); (try first | with_reducible rfl | simp)) ?_
  simp only [Act.put, List.setIfInBounds_toArray, List.set_cons_zero, List.set_cons_succ]
  refine RX.seqP_value (fun _ => Below.refl _ _) _ (by first | rfl | simp) (fun w' hw' hctx => by (go_simp); (try first | with_reducible rfl | simp)) ?_
  simp only [Act.put, List.setIfInBounds_toArray, List.set_cons_zero, List.set_cons_succ]
  refine RX.seqP_value (fun _ => Below.refl _ _) _ (by first | rfl | simp) (fun w' hw' hctx => by (go_simp); (try first | with_reducible rfl | simp)) ?_
  simp only [Act.put, List.setIfInBounds_toArray, List.set_cons_zero, List.set_cons_succ]
  refine RX.seqP_value (fun _ => Below.refl _ _) _ (by first | rfl | simp) (fun w' hw' hctx => by (go_simp); (try first | with_reducible rfl | simp)) ?_
  simp only [Act.put, List.setIfInBounds_toArray, List.set_cons_zero, List.set_cons_succ]
  refine RX.seqP_value (fun _ => Below.refl _ _) _ (by first | rfl | simp) (fun w' hw' hctx => by (go_simp); (try first | with_reducible rfl | simp)) ?_
  simp only [Act.put, List.setIfInBounds_toArray, List.set_cons_zero, List.set_cons_succ]
  refine RX.seqP_value (fun _ => Below.refl _ _) _ (by first | rfl | simp) (fun w' hw' hctx => by (go_simp); (try first | with_reducible rfl | simp)) ?_
  simp only [Act.put, List.setIfInBounds_toArray, List.set_cons_zero, List.set_cons_succ]
  refine RX.seqP_value (fun _ => Below.refl _ _) _ (by first | rfl | simp) (fun w' hw' hctx => ?_) ?_
  · obtain ⟨c0, c1, c2, c3, c4⟩ := Jc12.out.below (below_tr hdr hw')
    go_simp
    try first | with_reducible rfl | simp
  simp only [Act.put, List.setIfInBounds_toArray, List.set_cons_zero, List.set_cons_succ]
  refine RX.seqP_value (fun _ => Below.refl _ _) _ (by first | rfl | simp) (fun w' hw' hctx => ?_) ?_
  · obtain ⟨c0, c1, c2, c3, c4⟩ := HN2.out.below (below_tr hdr hw')
    go_simp
    try first | with_reducible rfl | simp
  simp only [Act.put, List.setIfInBounds_toArray, List.set_cons_zero, List.set_cons_succ]
  refine RX.seqP_value (fun _ => Below.refl _ _) _ (by first | rfl | simp) (fun w' hw' hctx => by (go_simp); (try first | with_reducible rfl | simp)) ?_
  simp only [Act.put, List.setIfInBounds_toArray, List.set_cons_zero, List.set_cons_succ]
  refine RX.seqP_value (fun _ => Below.refl _ _) _ (by first | rfl | simp) (fun w' hw' hctx => by (go_simp); (try first | with_reducible rfl | simp)) ?_
  simp only [Act.put, List.setIfInBounds_toArray, List.set_cons_zero, List.set_cons_succ]
  refine RX.seqP_value (fun _ => Below.refl _ _) _ (by first | rfl | simp) (fun w' hw' hctx => by (go_simp); (try first | with_reducible rfl | simp)) ?_
  simp only [Act.put, List.setIfInBounds_toArray, List.set_cons_zero, List.set_cons_succ]
  refine RX.seqP_value (fun _ => Below.refl _ _) _ (by first | rfl | simp) (fun w' hw' hctx => ?_) ?_
  · obtain ⟨c0, c1, c2, c3, c4⟩ := JX2.out.below (below_tr hdr hw')
    go_simp
    try first | with_reducible rfl | simp
  simp only [Act.put, List.setIfInBounds_toArray, List.set_cons_zero, List.set_cons_succ]
  refine RX.seqP_value (fun _ => Below.refl _ _) _ (by first | rfl | simp) (fun w' hw' hctx => ?_) ?_
  · obtain ⟨c0, c1, c2, c3, c4⟩ := JX2.out.below (below_tr hdr hw')
    go_simp
    try first | with_reducible rfl | simp
  simp only [Act.put, List.setIfInBounds_toArray, List.set_cons_zero, List.set_cons_succ]
  refine RX.seqP_call (18) #[.agg #[.int .u8 x.k, .int .i64 x.n, .int .i64 x.u, .string x.t], .agg #[.int .u8 x.k, .int .i64 x.n, .int .i64 x.u, .string x.t]] (.bool true) (by first | rfl | simp) (fun w' hw' hctx => ?_) (fun w' hw' hctx => HM3.out w') ?_
  · go_simp
  simp only [Act.put, List.setIfInBounds_toArray, List.set_cons_zero, List.set_cons_succ]
  refine RX.seqP_value (fun _ => Below.refl _ _) _ (by first | rfl | simp) (fun w' hw' hctx => ?_) ?_
  · obtain ⟨c0, c1, c2, c3, c4⟩ := JX2.out.below (below_tr hdr hw')
    go_simp
    try first | with_reducible rfl | simp
  simp only [Act.put, List.setIfInBounds_toArray, List.set_cons_zero, List.set_cons_succ]
  refine RX.seqP_call (14) #[.agg #[.int .u8 x.k, .int .i64 x.n, .int .i64 x.u, .string x.t]] (.bool true) (by first | rfl | simp) (fun w' hw' hctx => ?_) (fun w' hw' hctx => HK1.out w') ?_
  · go_simp
  simp only [Act.put, List.setIfInBounds_toArray, List.set_cons_zero, List.set_cons_succ]
  refine RX.seqP_value (fun _ => Below.refl _ _) _ (by first | rfl | simp) (fun w' hw' hctx => by (go_simp); (try first | with_reducible rfl | simp)) ?_
  simp only [Act.put, List.setIfInBounds_toArray, List.set_cons_zero, List.set_cons_succ]
  refine RX.seqP_value (fun _ => Below.refl _ _) _ (by first | rfl | simp) (fun w' hw' hctx => by (go_simp); (try first | with_reducible rfl | simp)) ?_
  simp only [Act.put, List.setIfInBounds_toArray, List.set_cons_zero, List.set_cons_succ]
  refine RX.seqP_nil (fun v1 hR hctx _ => ?_)
  have hv1 := below_tr hdr hR
  clear hctx hR
  have HV1 := Lib.hid (below_tr HB2.out hv1)
  have KX := Lib.hid (JX2.out.below hv1)
  have KY := Lib.hid (JY2.out.below hv1)
  have Kc1 := Lib.hid (Jc12.out.below hv1)
  have Kc2 := Lib.hid (HN2.out.below hv1)
  clear hv1 hdr
  go_wp2_with fail
  have hdr := below_drw v1
  try simp only [List.append_eq, List.cons_append, List.nil_append]
  refine RX.wp_region_plan (fun w w' => Below w.heap.size w w') [.it (.agg #[.int .u8 0, .int .i64 0, .int .i64 0, .string ⟨#[]⟩]), .it (.int .i64 n), .it (.bool false), .it (.agg #[.int .u8 x.k, .int .i64 x.n, .int .i64 x.u, .string x.t]), .it (.int .i64 n), .it (.bool true), .it (.bool true), .it (.agg #[.int .u8 y.k, .int .i64 y.n, .int .i64 y.u, .string y.t]), .it (.int .i64 n), .it (.bool false), .it (.bool false), .it (.bool false)] (by kernel_rfl) (by kernel_rfl) (fun _ => Below.refl _ _) (fun _ _ _ => below_tr) ?_
  refine RX.seqP_value (fun _ => Below.refl _ _) _ (by first | rfl | simp) (fun w' hw' hctx => ?_) ?_
  · obtain ⟨c0, c1, c2, c3, c4⟩ := Kc1.out.below (below_tr hdr hw')
    go_simp
    try first | with_reducible rfl | simp
  simp only [Act.put, List.setIfInBounds_toArray, List.set_cons_zero, List.set_cons_succ]
  refine RX.seqP_value (fun _ => Below.refl _ _) _ (by first | rfl | simp) (fun w' hw' hctx => by (go_simp); (try first | with_reducible rfl | simp)) ?_
  simp only [Act.put, List.setIfInBounds_toArray, List.set_cons_zero, List.set_cons_succ]
  refine RX.seqP_call (16) #[.agg #[.int .u8 0, .int .i64 0, .int .i64 0, .string ⟨#[]⟩], .int .i64 n] (.bool false) (by first | rfl | simp) (fun w' hw' hctx => ?_) (fun w' hw' hctx => HHC.out w') ?_
  · go_simp
  simp only [Act.put, List.setIfInBounds_toArray, List.set_cons_zero, List.set_cons_succ]
  refine RX.seqP_value (fun _ => Below.refl _ _) _ (by first | rfl | simp) (fun w' hw' hctx => ?_) ?_
  · obtain ⟨c0, c1, c2, c3, c4⟩ := KX.out.below (below_tr hdr hw')
    go_simp
    try first | with_reducible rfl | simp
  simp only [Act.put, List.setIfInBounds_toArray, List.set_cons_zero, List.set_cons_succ]
  refine RX.seqP_value (fun _ => Below.refl _ _) _ (by first | rfl | simp) (fun w' hw' hctx => by (go_simp); (try first | with_reducible rfl | simp)) ?_
  simp only [Act.put, List.setIfInBounds_toArray, List.set_cons_zero, List.set_cons_succ]
  refine RX.seqP_call (16) #[.agg #[.int .u8 x.k, .int .i64 x.n, .int .i64 x.u, .string x.t], .int .i64 n] (.bool true) (by first | rfl | simp) (fun w' hw' hctx => ?_) (fun w' hw' hctx => HHX.out w') ?_
  · go_simp
  simp only [Act.put, List.setIfInBounds_toArray, List.set_cons_zero, List.set_cons_succ]
  refine RX.seqP_value (fun _ => Below.refl _ _) _ (by first | rfl | simp) (fun w' hw' hctx => by (go_simp); (try first | with_reducible rfl | simp)) ?_
  simp only [Act.put, List.setIfInBounds_toArray, List.set_cons_zero, List.set_cons_succ]
  refine RX.seqP_value (fun _ => Below.refl _ _) _ (by first | rfl | simp) (fun w' hw' hctx => ?_) ?_
  · obtain ⟨c0, c1, c2, c3, c4⟩ := KY.out.below (below_tr hdr hw')
    go_simp
    try first | with_reducible rfl | simp
  simp only [Act.put, List.setIfInBounds_toArray, List.set_cons_zero, List.set_cons_succ]
  refine RX.seqP_value (fun _ => Below.refl _ _) _ (by first | rfl | simp) (fun w' hw' hctx => by (go_simp); (try first | with_reducible rfl | simp)) ?_
  simp only [Act.put, List.setIfInBounds_toArray, List.set_cons_zero, List.set_cons_succ]
  refine RX.seqP_call (16) #[.agg #[.int .u8 y.k, .int .i64 y.n, .int .i64 y.u, .string y.t], .int .i64 n] (.bool false) (by first | rfl | simp) (fun w' hw' hctx => ?_) (fun w' hw' hctx => HHY.out w') ?_
  · go_simp
  simp only [Act.put, List.setIfInBounds_toArray, List.set_cons_zero, List.set_cons_succ]
  refine RX.seqP_value (fun _ => Below.refl _ _) _ (by first | rfl | simp) (fun w' hw' hctx => by (go_simp); (try first | with_reducible rfl | simp)) ?_
  simp only [Act.put, List.setIfInBounds_toArray, List.set_cons_zero, List.set_cons_succ]
  refine RX.seqP_value (fun _ => Below.refl _ _) _ (by first | rfl | simp) (fun w' hw' hctx => by (go_simp); (try first | with_reducible rfl | simp)) ?_
  simp only [Act.put, List.setIfInBounds_toArray, List.set_cons_zero, List.set_cons_succ]
  refine RX.seqP_nil (fun v2 hR hctx _ => ?_)
  have hv2 := below_tr hdr hR
  clear hctx hR
  have HV2 := Lib.hid (below_tr HV1.out hv2)
  have MX := Lib.hid (KX.out.below hv2)
  have MY := Lib.hid (KY.out.below hv2)
  have Mc1 := Lib.hid (Kc1.out.below hv2)
  have Mc2 := Lib.hid (Kc2.out.below hv2)
  clear hv2 hdr
  obtain ⟨b0, b1, b2, b3, b4⟩ := MX.out
  obtain ⟨d0, d1, d2, d3, d4⟩ := MY.out
  obtain ⟨m0, m1, m2, m3, m4⟩ := Mc1.out
  go_wp2_with fail
  refine (HK1.out _).mono ?_
  rintro e v3 ⟨rfl, hv3⟩
  have hw3 := hv3
  clear b0 b1 b2 b3 b4 d0 d1 d2 d3 d4 m0 m1 m2 m3 m4
  obtain ⟨b0, b1, b2, b3, b4⟩ := MX.out.below hw3
  obtain ⟨d0, d1, d2, d3, d4⟩ := MY.out.below hw3
  obtain ⟨m0, m1, m2, m3, m4⟩ := Mc1.out.below hw3
  go_wp2_with fail
  refine (HK2.out _).mono ?_
  rintro e v4 ⟨rfl, hv4⟩
  have hw4 := below_tr hw3 hv4
  clear b0 b1 b2 b3 b4 d0 d1 d2 d3 d4 m0 m1 m2 m3 m4
  obtain ⟨b0, b1, b2, b3, b4⟩ := MX.out.below hw4
  obtain ⟨d0, d1, d2, d3, d4⟩ := MY.out.below hw4
  obtain ⟨m0, m1, m2, m3, m4⟩ := Mc1.out.below hw4
  go_wp2_with fail
  go_ret
  exact ⟨rfl, below_tr HV2.out hw4⟩

set_option maxRecDepth 100000 in
set_option maxHeartbeats 4000000 in
theorem both_4t (x y : Val) (n : Int) (hs : x.t.size ≤ 1000) (ht : y.t.size ≤ 1000) (a b : Int) (hcm : comS x y = spanV a b) (hx : okS x = true) (hy : okS y = true) (hm0 : meetS x y = true) (hab : okS (spanV a b) = true) (hxa0 : hasS x a = true) (hya0 : hasS y a = true) (hxb0 : hasS x (b - 1) = true) (hyb0 : hasS y (b - 1) = true) (hib : I64 (b - 1)) (hp : hasS x n = true) (q : Bool) (hq : hasS y n = q) (w : World) :
    Calls Try.prog 6 #[.agg #[.int .u8 x.k, .int .i64 x.n, .int .i64 x.u, .string x.t], .agg #[.int .u8 y.k, .int .i64 y.n, .int .i64 y.u, .string y.t], .int .i64 n] w fun e w' => e = .returned (.bool true) ∧ Below w.heap.size w w' := by
  have hc1 : ∀ w, Calls Try.prog 12 #[.agg #[.int .u8 x.k, .int .i64 x.n, .int .i64 x.u, .string x.t], .agg #[.int .u8 y.k, .int .i64 y.n, .int .i64 y.u, .string y.t]] w fun e w' => e = .returned (.tuple #[.agg #[.int .u8 4, .int .i64 a, .int .i64 b, .string ⟨#[]⟩], .bool true]) ∧ Below w.heap.size w w' := fun w => by
    have h := com_is x y w
    rw [hcm, hm0] at h
    exact h
  have hc2 : ∀ w, Calls Try.prog 12 #[.agg #[.int .u8 y.k, .int .i64 y.n, .int .i64 y.u, .string y.t], .agg #[.int .u8 x.k, .int .i64 x.n, .int .i64 x.u, .string x.t]] w fun e w' => e = .returned (.tuple #[.agg #[.int .u8 4, .int .i64 a, .int .i64 b, .string ⟨#[]⟩], .bool true]) ∧ Below w.heap.size w w' := fun w => by
    have h := com_is y x w
    rw [← comS_comm, ← meetS_comm, hcm, hm0] at h
    exact h
  have hm1 := fun w => meets_is x y true hm0 w
  have hm2 := fun w => meets_is y x true (by rw [meetS_comm]; exact hm0) w
  have hm3 := fun w => meets_is x x true (by rw [meetS_self]; exact hx) w
  have hk1 := fun w => may_is x true hx w
  have hk2 := fun w => may_is y true hy w
  have hhc := fun w => has_is (spanV a b) n q (by rw [← hcm, hasS_com, hp, hq]; rfl) w
  have hhx := fun w => has_is x n true hp w
  have hhy := fun w => has_is y n q hq w
  have hkc := fun w => may_is (spanV a b) true hab w
  have hxa := fun w => has_is x a true hxa0 w
  have hya := fun w => has_is y a true hya0 w
  have hxb := fun w => has_is x (b - 1) true hxb0 w
  have hyb := fun w => has_is y (b - 1) true hyb0 w
  have hwr : wrap64 (b - 1) = b - 1 := by unfold I64 at hib; unfold wrap64; omega
  have HC1 := Lib.hid hc1
  have HC2 := Lib.hid hc2
  have HM1 := Lib.hid hm1
  have HM2 := Lib.hid hm2
  have HM3 := Lib.hid hm3
  have HK1 := Lib.hid hk1
  have HK2 := Lib.hid hk2
  have HHC := Lib.hid hhc
  have HHX := Lib.hid hhx
  have HHY := Lib.hid hhy
  have HKC := Lib.hid hkc
  have HXA := Lib.hid hxa
  have HYA := Lib.hid hya
  have HXB := Lib.hid hxb
  have HYB := Lib.hid hyb
  clear hc1 hc2 hm1 hm2 hm3 hk1 hk2 hhc hhx hhy hkc hxa hya hxb hyb
  have hnq : ∀ w, (Go.binOp .neq 23 (.agg #[.int .u8 4, .int .i64 a, .int .i64 b, .string ⟨#[]⟩]) (.agg #[.int .u8 4, .int .i64 a, .int .i64 b, .string ⟨#[]⟩])).run Try.prog w = .ok (.bool false) w := neq_self ⟨4, a, b, ⟨#[]⟩⟩
  obtain ⟨W, g, hg, hW, B0, B1, hb0⟩ := boxYY w x y
  have HB := Lib.hid hb0
  have H0 := Lib.hid B0
  have H1 := Lib.hid B1
  obtain ⟨b0, b1, b2, b3, b4⟩ := B0
  obtain ⟨d0, d1, d2, d3, d4⟩ := B1
  clear hb0
  have h' : ¬ (1000 : Int) < (x.t.size : Int) := by omega
  have k' : ¬ (1000 : Int) < (y.t.size : Int) := by omega
  clear hs ht hcm hx hy hm0 hab hxa0 hya0 hxb0 hyb0 hib hp hq
  go_enter Try.func6, Try.ntmps6
  go_wp2_with fail
  refine (awake_is _).mono ?_
  rintro e a0 ⟨rfl, hb0⟩
  have J0 := Lib.hid (H0.out.below hb0)
  have J1 := Lib.hid (H1.out.below hb0)
  have HB0 := Lib.hid (below_tr HB.out hb0)
  clear b0 b1 b2 b3 b4 d0 d1 d2 d3 d4 hb0
  obtain ⟨b0, b1, b2, b3, b4⟩ := J0.out
  obtain ⟨d0, d1, d2, d3, d4⟩ := J1.out
  go_wp2_with fail
  clear b0 b1 b2 b3 b4 d0 d1 d2 d3 d4
  refine (HC1.out _).mono ?_
  rintro e a1 ⟨rfl, hb1⟩
  obtain ⟨W1, hW1, hN1, hn1⟩ : ∃ V, a1.alloc (.cells #[.int .u8 4, .int .i64 a, .int .i64 b, .string ⟨#[]⟩] 23) = V ∧ Boxed V a1.heap.size 4 a b ⟨#[]⟩ ∧ Below a1.heap.size a1 V := ⟨_, rfl, Boxed.new _ _ _ _ _ _, Below.allocs _ _⟩
  have HW1 := Lib.hid hW1
  have hz1 := below_tr hb1 hn1
  have HB1 := Lib.hid (below_tr HB0.out hz1)
  have HN1 := Lib.hid hN1
  have JX1 := Lib.hid (J0.out.below hz1)
  have JY1 := Lib.hid (J1.out.below hz1)
  obtain ⟨b0, b1, b2, b3, b4⟩ := J0.out.below hb1
  obtain ⟨d0, d1, d2, d3, d4⟩ := J1.out.below hb1
  clear hW1 hb1 hn1 hz1 hN1
  go_wp2_with fail
  rw [HW1.out]
  clear b0 b1 b2 b3 b4 d0 d1 d2 d3 d4
  refine (HC2.out _).mono ?_
  rintro e a2 ⟨rfl, hb2⟩
  obtain ⟨W2, hW2, hN2, hn2⟩ : ∃ V, a2.alloc (.cells #[.int .u8 4, .int .i64 a, .int .i64 b, .string ⟨#[]⟩] 23) = V ∧ Boxed V a2.heap.size 4 a b ⟨#[]⟩ ∧ Below a2.heap.size a2 V := ⟨_, rfl, Boxed.new _ _ _ _ _ _, Below.allocs _ _⟩
  have HW2 := Lib.hid hW2
  have hz2 := below_tr hb2 hn2
  have HB2 := Lib.hid (below_tr HB1.out hz2)
  have HN2 := Lib.hid hN2
  have JX2 := Lib.hid (JX1.out.below hz2)
  have JY2 := Lib.hid (JY1.out.below hz2)
  have Jc12 := Lib.hid (HN1.out.below hz2)
  obtain ⟨b0, b1, b2, b3, b4⟩ := JX1.out.below hb2
  obtain ⟨d0, d1, d2, d3, d4⟩ := JY1.out.below hb2
  clear hW2 hb2 hn2 hz2 hN2
  go_wp2_with fail
  rw [HW2.out]
  clear b0 b1 b2 b3 b4 d0 d1 d2 d3 d4
  have hdr := below_drw W2
  try simp only [List.append_eq, List.cons_append, List.nil_append]
  refine RX.wp_region_plan (fun w w' => Below w.heap.size w w') [.it (.bool true), .it (.agg #[.int .u8 x.k, .int .i64 x.n, .int .i64 x.u, .string x.t]), .it (.agg #[.int .u8 y.k, .int .i64 y.n, .int .i64 y.u, .string y.t]), .it (.bool true), .it (.bool false), .it (.bool false), .it (.bool true), .it (.agg #[.int .u8 y.k, .int .i64 y.n, .int .i64 y.u, .string y.t]), .it (.agg #[.int .u8 x.k, .int .i64 x.n, .int .i64 x.u, .string x.t]), .it (.bool true), .it (.bool false), .it (.bool false), .it (.bool false), .it (.bool true), .it (.bool true), .it (.bool false), .it (.bool false), .it (.bool false), .it (.agg #[.int .u8 4, .int .i64 a, .int .i64 b, .string ⟨#[]⟩]), .it (.agg #[.int .u8 4, .int .i64 a, .int .i64 b, .string ⟨#[]⟩]), .it (.bool false), .it (.bool false), .it (.bool false), .it (.agg #[.int .u8 x.k, .int .i64 x.n, .int .i64 x.u, .string x.t]), .it (.agg #[.int .u8 x.k, .int .i64 x.n, .int .i64 x.u, .string x.t]), .it (.bool true), .it (.agg #[.int .u8 x.k, .int .i64 x.n, .int .i64 x.u, .string x.t]), .it (.bool true), .it (.bool false), .it (.bool false)] (by kernel_rfl) (by kernel_rfl) (fun _ => Below.refl _ _) (fun _ _ _ => below_tr) ?_
  refine RX.seqP_value (fun _ => Below.refl _ _) _ (by first | rfl | simp) (fun w' hw' hctx => by (go_simp); (try first | with_reducible rfl | simp)) ?_
  simp only [Act.put, List.setIfInBounds_toArray, List.set_cons_zero, List.set_cons_succ]
  refine RX.seqP_value (fun _ => Below.refl _ _) _ (by first | rfl | simp) (fun w' hw' hctx => ?_) ?_
  · obtain ⟨c0, c1, c2, c3, c4⟩ := JX2.out.below (below_tr hdr hw')
    go_simp
    try first | with_reducible rfl | simp
  simp only [Act.put, List.setIfInBounds_toArray, List.set_cons_zero, List.set_cons_succ]
  refine RX.seqP_value (fun _ => Below.refl _ _) _ (by first | rfl | simp) (fun w' hw' hctx => ?_) ?_
  · obtain ⟨c0, c1, c2, c3, c4⟩ := JY2.out.below (below_tr hdr hw')
    go_simp
    try first | with_reducible rfl | simp
  simp only [Act.put, List.setIfInBounds_toArray, List.set_cons_zero, List.set_cons_succ]
  refine RX.seqP_call (18) #[.agg #[.int .u8 x.k, .int .i64 x.n, .int .i64 x.u, .string x.t], .agg #[.int .u8 y.k, .int .i64 y.n, .int .i64 y.u, .string y.t]] (.bool true) (by first | rfl | simp) (fun w' hw' hctx => ?_) (fun w' hw' hctx => HM1.out w') ?_
  · go_simp
  simp only [Act.put, List.setIfInBounds_toArray, List.set_cons_zero, List.set_cons_succ]
  refine RX.seqP_value (fun _ => Below.refl _ _) _ (by first | rfl | simp) (fun w' hw' hctx => by (go_simp); (try first | with_reducible rfl | simp)) ?_
  simp only [Act.put, List.setIfInBounds_toArray, List.set_cons_zero, List.set_cons_succ]
  refine RX.seqP_value (fun _ => Below.refl _ _) _ (by first | rfl | simp) (fun w' hw' hctx => by (go_simp); (try first | with_reducible rfl | simp)) ?_
  simp only [Act.put, List.setIfInBounds_toArray, List.set_cons_zero, List.set_cons_succ]
  refine RX.seqP_value (fun _ => Below.refl _ _) _ (by first | rfl | simp) (fun w' hw' hctx => by (go_simp); (try first | with_reducible rfl | simp)) ?_
  simp only [Act.put, List.setIfInBounds_toArray, List.set_cons_zero, List.set_cons_succ]
  refine RX.seqP_value (fun _ => Below.refl _ _) _ (by first | rfl | simp) (fun w' hw' hctx => ?_) ?_
  · obtain ⟨c0, c1, c2, c3, c4⟩ := JY2.out.below (below_tr hdr hw')
    go_simp
    try first | with_reducible rfl | simp
  simp only [Act.put, List.setIfInBounds_toArray, List.set_cons_zero, List.set_cons_succ]
  refine RX.seqP_value (fun _ => Below.refl _ _) _ (by first | rfl | simp) (fun w' hw' hctx => ?_) ?_
  · obtain ⟨c0, c1, c2, c3, c4⟩ := JX2.out.below (below_tr hdr hw')
    go_simp
    try first | with_reducible rfl | simp
  simp only [Act.put, List.setIfInBounds_toArray, List.set_cons_zero, List.set_cons_succ]
  refine RX.seqP_call (18) #[.agg #[.int .u8 y.k, .int .i64 y.n, .int .i64 y.u, .string y.t], .agg #[.int .u8 x.k, .int .i64 x.n, .int .i64 x.u, .string x.t]] (.bool true) (by first | rfl | simp) (fun w' hw' hctx => ?_) (fun w' hw' hctx => HM2.out w') ?_
  · go_simp
  simp only [Act.put, List.setIfInBounds_toArray, List.set_cons_zero, List.set_cons_succ]
  refine RX.seqP_value (fun _ => Below.refl _ _) _ (by first | rfl | simp) (fun w' hw' hctx => by (go_simp); (try first | with_reducible rfl | simp)) ?_
  simp only [Act.put, List.setIfInBounds_toArray, List.set_cons_zero, List.set_cons_succ]
  refine RX.seqP_value (fun _ => Below.refl _ _) _ (by first | rfl | simp) (fun w' hw' hctx => by (go_simp); (try first | with_reducible rfl | simp)) ?_
  simp only [Act.put, List.setIfInBounds_toArray, List.set_cons_zero, List.set_cons_succ]
  refine RX.seqP_value (fun _ => Below.refl _ _) _ (by first | rfl | simp) (fun w' hw' hctx => by (go_simp); (try first | with_reducible rfl | simp)) ?_
  simp only [Act.put, List.setIfInBounds_toArray, List.set_cons_zero, List.set_cons_succ]
  refine RX.seqP_value (fun _ => Below.refl _ _) _ (by first | rfl | simp) (fun w' hw' hctx => by (go_simp); (try first | with_reducible rfl | simp)) ?_
  simp only [Act.put, List.setIfInBounds_toArray, List.set_cons_zero, List.set_cons_succ]
  refine RX.seqP_value (fun _ => Below.refl _ _) _ (by first | rfl | simp) (fun w' hw' hctx => by (go_simp); (try first | with_reducible rfl | simp)) ?_
  simp only [Act.put, List.setIfInBounds_toArray, List.set_cons_zero, List.set_cons_succ]
  refine RX.seqP_value (fun _ => Below.refl _ _) _ (by first | rfl | simp) (fun w' hw' hctx => by (go_simp); (try first | with_reducible rfl | simp)) ?_
  simp only [Act.put, List.setIfInBounds_toArray, List.set_cons_zero, List.set_cons_succ]
  refine RX.seqP_value (fun _ => Below.refl _ _) _ (by first | rfl | simp) (fun w' hw' hctx => by (go_simp); (try first | with_reducible rfl | simp)) ?_
  simp only [Act.put, List.setIfInBounds_toArray, List.set_cons_zero, List.set_cons_succ]
  refine RX.seqP_value (fun _ => Below.refl _ _) _ (by first | rfl | simp) (fun w' hw' hctx => by (go_simp); (try first | with_reducible rfl | simp)) ?_
  simp only [Act.put, List.setIfInBounds_toArray, List.set_cons_zero, List.set_cons_succ]
  refine RX.seqP_value (fun _ => Below.refl _ _) _ (by first | rfl | simp) (fun w' hw' hctx => ?_) ?_
  · obtain ⟨c0, c1, c2, c3, c4⟩ := Jc12.out.below (below_tr hdr hw')
    go_simp
    try first | with_reducible rfl | simp
  simp only [Act.put, List.setIfInBounds_toArray, List.set_cons_zero, List.set_cons_succ]
  refine RX.seqP_value (fun _ => Below.refl _ _) _ (by first | rfl | simp) (fun w' hw' hctx => ?_) ?_
  · obtain ⟨c0, c1, c2, c3, c4⟩ := HN2.out.below (below_tr hdr hw')
    go_simp
    try first | with_reducible rfl | simp
  simp only [Act.put, List.setIfInBounds_toArray, List.set_cons_zero, List.set_cons_succ]
  refine RX.seqP_value (fun _ => Below.refl _ _) _ (by first | rfl | simp) (fun w' hw' hctx => by (go_simp); (try first | with_reducible rfl | simp)) ?_
  simp only [Act.put, List.setIfInBounds_toArray, List.set_cons_zero, List.set_cons_succ]
  refine RX.seqP_value (fun _ => Below.refl _ _) _ (by first | rfl | simp) (fun w' hw' hctx => by (go_simp); (try first | with_reducible rfl | simp)) ?_
  simp only [Act.put, List.setIfInBounds_toArray, List.set_cons_zero, List.set_cons_succ]
  refine RX.seqP_value (fun _ => Below.refl _ _) _ (by first | rfl | simp) (fun w' hw' hctx => by (go_simp); (try first | with_reducible rfl | simp)) ?_
  simp only [Act.put, List.setIfInBounds_toArray, List.set_cons_zero, List.set_cons_succ]
  refine RX.seqP_value (fun _ => Below.refl _ _) _ (by first | rfl | simp) (fun w' hw' hctx => ?_) ?_
  · obtain ⟨c0, c1, c2, c3, c4⟩ := JX2.out.below (below_tr hdr hw')
    go_simp
    try first | with_reducible rfl | simp
  simp only [Act.put, List.setIfInBounds_toArray, List.set_cons_zero, List.set_cons_succ]
  refine RX.seqP_value (fun _ => Below.refl _ _) _ (by first | rfl | simp) (fun w' hw' hctx => ?_) ?_
  · obtain ⟨c0, c1, c2, c3, c4⟩ := JX2.out.below (below_tr hdr hw')
    go_simp
    try first | with_reducible rfl | simp
  simp only [Act.put, List.setIfInBounds_toArray, List.set_cons_zero, List.set_cons_succ]
  refine RX.seqP_call (18) #[.agg #[.int .u8 x.k, .int .i64 x.n, .int .i64 x.u, .string x.t], .agg #[.int .u8 x.k, .int .i64 x.n, .int .i64 x.u, .string x.t]] (.bool true) (by first | rfl | simp) (fun w' hw' hctx => ?_) (fun w' hw' hctx => HM3.out w') ?_
  · go_simp
  simp only [Act.put, List.setIfInBounds_toArray, List.set_cons_zero, List.set_cons_succ]
  refine RX.seqP_value (fun _ => Below.refl _ _) _ (by first | rfl | simp) (fun w' hw' hctx => ?_) ?_
  · obtain ⟨c0, c1, c2, c3, c4⟩ := JX2.out.below (below_tr hdr hw')
    go_simp
    try first | with_reducible rfl | simp
  simp only [Act.put, List.setIfInBounds_toArray, List.set_cons_zero, List.set_cons_succ]
  refine RX.seqP_call (14) #[.agg #[.int .u8 x.k, .int .i64 x.n, .int .i64 x.u, .string x.t]] (.bool true) (by first | rfl | simp) (fun w' hw' hctx => ?_) (fun w' hw' hctx => HK1.out w') ?_
  · go_simp
  simp only [Act.put, List.setIfInBounds_toArray, List.set_cons_zero, List.set_cons_succ]
  refine RX.seqP_value (fun _ => Below.refl _ _) _ (by first | rfl | simp) (fun w' hw' hctx => by (go_simp); (try first | with_reducible rfl | simp)) ?_
  simp only [Act.put, List.setIfInBounds_toArray, List.set_cons_zero, List.set_cons_succ]
  refine RX.seqP_value (fun _ => Below.refl _ _) _ (by first | rfl | simp) (fun w' hw' hctx => by (go_simp); (try first | with_reducible rfl | simp)) ?_
  simp only [Act.put, List.setIfInBounds_toArray, List.set_cons_zero, List.set_cons_succ]
  refine RX.seqP_nil (fun v1 hR hctx _ => ?_)
  have hv1 := below_tr hdr hR
  clear hctx hR
  have HV1 := Lib.hid (below_tr HB2.out hv1)
  have KX := Lib.hid (JX2.out.below hv1)
  have KY := Lib.hid (JY2.out.below hv1)
  have Kc1 := Lib.hid (Jc12.out.below hv1)
  have Kc2 := Lib.hid (HN2.out.below hv1)
  clear hv1 hdr
  go_wp2_with fail
  have hdr := below_drw v1
  try simp only [List.append_eq, List.cons_append, List.nil_append]
  refine RX.wp_region_plan (fun w w' => Below w.heap.size w w') [.it (.agg #[.int .u8 4, .int .i64 a, .int .i64 b, .string ⟨#[]⟩]), .it (.int .i64 n), .it (.bool q), .it (.agg #[.int .u8 x.k, .int .i64 x.n, .int .i64 x.u, .string x.t]), .it (.int .i64 n), .it (.bool true), .it (.bool true), .it (.agg #[.int .u8 y.k, .int .i64 y.n, .int .i64 y.u, .string y.t]), .it (.int .i64 n), .it (.bool q), .it (.bool q), .it (.bool false)] (by kernel_rfl) (by kernel_rfl) (fun _ => Below.refl _ _) (fun _ _ _ => below_tr) ?_
  refine RX.seqP_value (fun _ => Below.refl _ _) _ (by first | rfl | simp) (fun w' hw' hctx => ?_) ?_
  · obtain ⟨c0, c1, c2, c3, c4⟩ := Kc1.out.below (below_tr hdr hw')
    go_simp
    try first | with_reducible rfl | simp
  simp only [Act.put, List.setIfInBounds_toArray, List.set_cons_zero, List.set_cons_succ]
  refine RX.seqP_value (fun _ => Below.refl _ _) _ (by first | rfl | simp) (fun w' hw' hctx => by (go_simp); (try first | with_reducible rfl | simp)) ?_
  simp only [Act.put, List.setIfInBounds_toArray, List.set_cons_zero, List.set_cons_succ]
  refine RX.seqP_call (16) #[.agg #[.int .u8 4, .int .i64 a, .int .i64 b, .string ⟨#[]⟩], .int .i64 n] (.bool q) (by first | rfl | simp) (fun w' hw' hctx => ?_) (fun w' hw' hctx => HHC.out w') ?_
  · go_simp
  simp only [Act.put, List.setIfInBounds_toArray, List.set_cons_zero, List.set_cons_succ]
  refine RX.seqP_value (fun _ => Below.refl _ _) _ (by first | rfl | simp) (fun w' hw' hctx => ?_) ?_
  · obtain ⟨c0, c1, c2, c3, c4⟩ := KX.out.below (below_tr hdr hw')
    go_simp
    try first | with_reducible rfl | simp
  simp only [Act.put, List.setIfInBounds_toArray, List.set_cons_zero, List.set_cons_succ]
  refine RX.seqP_value (fun _ => Below.refl _ _) _ (by first | rfl | simp) (fun w' hw' hctx => by (go_simp); (try first | with_reducible rfl | simp)) ?_
  simp only [Act.put, List.setIfInBounds_toArray, List.set_cons_zero, List.set_cons_succ]
  refine RX.seqP_call (16) #[.agg #[.int .u8 x.k, .int .i64 x.n, .int .i64 x.u, .string x.t], .int .i64 n] (.bool true) (by first | rfl | simp) (fun w' hw' hctx => ?_) (fun w' hw' hctx => HHX.out w') ?_
  · go_simp
  simp only [Act.put, List.setIfInBounds_toArray, List.set_cons_zero, List.set_cons_succ]
  refine RX.seqP_value (fun _ => Below.refl _ _) _ (by first | rfl | simp) (fun w' hw' hctx => by (go_simp); (try first | with_reducible rfl | simp)) ?_
  simp only [Act.put, List.setIfInBounds_toArray, List.set_cons_zero, List.set_cons_succ]
  refine RX.seqP_value (fun _ => Below.refl _ _) _ (by first | rfl | simp) (fun w' hw' hctx => ?_) ?_
  · obtain ⟨c0, c1, c2, c3, c4⟩ := KY.out.below (below_tr hdr hw')
    go_simp
    try first | with_reducible rfl | simp
  simp only [Act.put, List.setIfInBounds_toArray, List.set_cons_zero, List.set_cons_succ]
  refine RX.seqP_value (fun _ => Below.refl _ _) _ (by first | rfl | simp) (fun w' hw' hctx => by (go_simp); (try first | with_reducible rfl | simp)) ?_
  simp only [Act.put, List.setIfInBounds_toArray, List.set_cons_zero, List.set_cons_succ]
  refine RX.seqP_call (16) #[.agg #[.int .u8 y.k, .int .i64 y.n, .int .i64 y.u, .string y.t], .int .i64 n] (.bool q) (by first | rfl | simp) (fun w' hw' hctx => ?_) (fun w' hw' hctx => HHY.out w') ?_
  · go_simp
  simp only [Act.put, List.setIfInBounds_toArray, List.set_cons_zero, List.set_cons_succ]
  refine RX.seqP_value (fun _ => Below.refl _ _) _ (by first | rfl | simp) (fun w' hw' hctx => by (go_simp); (try first | with_reducible rfl | simp)) ?_
  simp only [Act.put, List.setIfInBounds_toArray, List.set_cons_zero, List.set_cons_succ]
  refine RX.seqP_value (fun _ => Below.refl _ _) _ (by first | rfl | simp) (fun w' hw' hctx => by (go_simp); (try first | with_reducible rfl | simp)) ?_
  simp only [Act.put, List.setIfInBounds_toArray, List.set_cons_zero, List.set_cons_succ]
  refine RX.seqP_nil (fun v2 hR hctx _ => ?_)
  have hv2 := below_tr hdr hR
  clear hctx hR
  have HV2 := Lib.hid (below_tr HV1.out hv2)
  have MX := Lib.hid (KX.out.below hv2)
  have MY := Lib.hid (KY.out.below hv2)
  have Mc1 := Lib.hid (Kc1.out.below hv2)
  have Mc2 := Lib.hid (Kc2.out.below hv2)
  clear hv2 hdr
  obtain ⟨b0, b1, b2, b3, b4⟩ := MX.out
  obtain ⟨d0, d1, d2, d3, d4⟩ := MY.out
  obtain ⟨m0, m1, m2, m3, m4⟩ := Mc1.out
  go_wp2_with fail
  refine (HK1.out _).mono ?_
  rintro e v3 ⟨rfl, hv3⟩
  have hw3 := hv3
  clear b0 b1 b2 b3 b4 d0 d1 d2 d3 d4 m0 m1 m2 m3 m4
  obtain ⟨b0, b1, b2, b3, b4⟩ := MX.out.below hw3
  obtain ⟨d0, d1, d2, d3, d4⟩ := MY.out.below hw3
  obtain ⟨m0, m1, m2, m3, m4⟩ := Mc1.out.below hw3
  go_wp2_with fail
  refine (HK2.out _).mono ?_
  rintro e v4 ⟨rfl, hv4⟩
  have hw4 := below_tr hw3 hv4
  clear b0 b1 b2 b3 b4 d0 d1 d2 d3 d4 m0 m1 m2 m3 m4
  obtain ⟨b0, b1, b2, b3, b4⟩ := MX.out.below hw4
  obtain ⟨d0, d1, d2, d3, d4⟩ := MY.out.below hw4
  obtain ⟨m0, m1, m2, m3, m4⟩ := Mc1.out.below hw4
  go_wp2_with fail
  refine (HKC.out _).mono ?_
  rintro e v5 ⟨rfl, hv5⟩
  have hw5 := below_tr hw4 hv5
  clear b0 b1 b2 b3 b4 d0 d1 d2 d3 d4 m0 m1 m2 m3 m4
  obtain ⟨b0, b1, b2, b3, b4⟩ := MX.out.below hw5
  obtain ⟨d0, d1, d2, d3, d4⟩ := MY.out.below hw5
  obtain ⟨m0, m1, m2, m3, m4⟩ := Mc1.out.below hw5
  go_wp2_with fail
  refine (HXA.out _).mono ?_
  rintro e v6 ⟨rfl, hv6⟩
  have hw6 := below_tr hw5 hv6
  clear b0 b1 b2 b3 b4 d0 d1 d2 d3 d4 m0 m1 m2 m3 m4
  obtain ⟨b0, b1, b2, b3, b4⟩ := MX.out.below hw6
  obtain ⟨d0, d1, d2, d3, d4⟩ := MY.out.below hw6
  obtain ⟨m0, m1, m2, m3, m4⟩ := Mc1.out.below hw6
  go_wp2_with fail
  refine (HYA.out _).mono ?_
  rintro e v7 ⟨rfl, hv7⟩
  have hw7 := below_tr hw6 hv7
  clear b0 b1 b2 b3 b4 d0 d1 d2 d3 d4 m0 m1 m2 m3 m4
  obtain ⟨b0, b1, b2, b3, b4⟩ := MX.out.below hw7
  obtain ⟨d0, d1, d2, d3, d4⟩ := MY.out.below hw7
  obtain ⟨m0, m1, m2, m3, m4⟩ := Mc1.out.below hw7
  go_wp2_with fail
  refine (HXB.out _).mono ?_
  rintro e v8 ⟨rfl, hv8⟩
  have hw8 := below_tr hw7 hv8
  clear b0 b1 b2 b3 b4 d0 d1 d2 d3 d4 m0 m1 m2 m3 m4
  obtain ⟨b0, b1, b2, b3, b4⟩ := MX.out.below hw8
  obtain ⟨d0, d1, d2, d3, d4⟩ := MY.out.below hw8
  obtain ⟨m0, m1, m2, m3, m4⟩ := Mc1.out.below hw8
  go_wp2_with fail
  refine (HYB.out _).mono ?_
  rintro e v9 ⟨rfl, hv9⟩
  have hw9 := below_tr hw8 hv9
  clear b0 b1 b2 b3 b4 d0 d1 d2 d3 d4 m0 m1 m2 m3 m4
  obtain ⟨b0, b1, b2, b3, b4⟩ := MX.out.below hw9
  obtain ⟨d0, d1, d2, d3, d4⟩ := MY.out.below hw9
  obtain ⟨m0, m1, m2, m3, m4⟩ := Mc1.out.below hw9
  go_wp2_with fail
  go_ret
  exact ⟨rfl, below_tr HV2.out hw9⟩

set_option maxRecDepth 100000 in
set_option maxHeartbeats 4000000 in
theorem both_2f (x y : Val) (n : Int) (hs : x.t.size ≤ 1000) (ht : y.t.size ≤ 1000) (hx : okS x = true) (hy : okS y = false) (hp : hasS x n = false) (w : World) :
    Calls Try.prog 6 #[.agg #[.int .u8 x.k, .int .i64 x.n, .int .i64 x.u, .string x.t], .agg #[.int .u8 y.k, .int .i64 y.n, .int .i64 y.u, .string y.t], .int .i64 n] w fun e w' => e = .returned (.bool true) ∧ Below w.heap.size w w' := by
  have hm : meetS x y = false := by simp [meetS, hy]
  have hc1 : ∀ w, Calls Try.prog 12 #[.agg #[.int .u8 x.k, .int .i64 x.n, .int .i64 x.u, .string x.t], .agg #[.int .u8 y.k, .int .i64 y.n, .int .i64 y.u, .string y.t]] w fun e w' => e = .returned (.tuple #[.agg #[.int .u8 0, .int .i64 0, .int .i64 0, .string ⟨#[]⟩], .bool false]) ∧ Below w.heap.size w w' := fun w => by
    have h := com_is x y w
    rw [comS_no hm, hm] at h
    exact h
  have hc2 : ∀ w, Calls Try.prog 12 #[.agg #[.int .u8 y.k, .int .i64 y.n, .int .i64 y.u, .string y.t], .agg #[.int .u8 x.k, .int .i64 x.n, .int .i64 x.u, .string x.t]] w fun e w' => e = .returned (.tuple #[.agg #[.int .u8 0, .int .i64 0, .int .i64 0, .string ⟨#[]⟩], .bool false]) ∧ Below w.heap.size w w' := fun w => by
    have h := com_is y x w
    rw [← comS_comm, ← meetS_comm, comS_no hm, hm] at h
    exact h
  have hm1 := fun w => meets_is x y false hm w
  have hm2 := fun w => meets_is y x false (by rw [meetS_comm]; exact hm) w
  have hm3 := fun w => meets_is x x true (by rw [meetS_self]; exact hx) w
  have hk1 := fun w => may_is x true hx w
  have hk2 := fun w => may_is y false hy w
  have hhc := fun w => has_is Val.zero n false (by rw [hasS, okS_zero]; rfl) w
  have hhx := fun w => has_is x n false hp w
  have hhy := fun w => has_is y n false (by simp [hasS, hy]) w
  have HC1 := Lib.hid hc1
  have HC2 := Lib.hid hc2
  have HM1 := Lib.hid hm1
  have HM2 := Lib.hid hm2
  have HM3 := Lib.hid hm3
  have HK1 := Lib.hid hk1
  have HK2 := Lib.hid hk2
  have HHC := Lib.hid hhc
  have HHX := Lib.hid hhx
  have HHY := Lib.hid hhy
  clear hc1 hc2 hm1 hm2 hm3 hk1 hk2 hhc hhx hhy
  have hnq : ∀ w, (Go.binOp .neq 23 (.agg #[.int .u8 0, .int .i64 0, .int .i64 0, .string ⟨#[]⟩]) (.agg #[.int .u8 0, .int .i64 0, .int .i64 0, .string ⟨#[]⟩])).run Try.prog w = .ok (.bool false) w := neq_self ⟨0, 0, 0, ⟨#[]⟩⟩
  obtain ⟨W, g, hg, hW, B0, B1, hb0⟩ := boxYY w x y
  have HB := Lib.hid hb0
  have H0 := Lib.hid B0
  have H1 := Lib.hid B1
  obtain ⟨b0, b1, b2, b3, b4⟩ := B0
  obtain ⟨d0, d1, d2, d3, d4⟩ := B1
  clear hb0
  have h' : ¬ (1000 : Int) < (x.t.size : Int) := by omega
  have k' : ¬ (1000 : Int) < (y.t.size : Int) := by omega
  clear hs ht hx hy hp
  go_enter Try.func6, Try.ntmps6
  go_wp2_with fail
  refine (awake_is _).mono ?_
  rintro e a0 ⟨rfl, hb0⟩
  have J0 := Lib.hid (H0.out.below hb0)
  have J1 := Lib.hid (H1.out.below hb0)
  have HB0 := Lib.hid (below_tr HB.out hb0)
  clear b0 b1 b2 b3 b4 d0 d1 d2 d3 d4 hb0
  obtain ⟨b0, b1, b2, b3, b4⟩ := J0.out
  obtain ⟨d0, d1, d2, d3, d4⟩ := J1.out
  go_wp2_with fail
  clear b0 b1 b2 b3 b4 d0 d1 d2 d3 d4
  refine (HC1.out _).mono ?_
  rintro e a1 ⟨rfl, hb1⟩
  obtain ⟨W1, hW1, hN1, hn1⟩ : ∃ V, a1.alloc (.cells #[.int .u8 0, .int .i64 0, .int .i64 0, .string ⟨#[]⟩] 23) = V ∧ Boxed V a1.heap.size 0 0 0 ⟨#[]⟩ ∧ Below a1.heap.size a1 V := ⟨_, rfl, Boxed.new _ _ _ _ _ _, Below.allocs _ _⟩
  have HW1 := Lib.hid hW1
  have hz1 := below_tr hb1 hn1
  have HB1 := Lib.hid (below_tr HB0.out hz1)
  have HN1 := Lib.hid hN1
  have JX1 := Lib.hid (J0.out.below hz1)
  have JY1 := Lib.hid (J1.out.below hz1)
  obtain ⟨b0, b1, b2, b3, b4⟩ := J0.out.below hb1
  obtain ⟨d0, d1, d2, d3, d4⟩ := J1.out.below hb1
  clear hW1 hb1 hn1 hz1 hN1
  go_wp2_with fail
  rw [HW1.out]
  clear b0 b1 b2 b3 b4 d0 d1 d2 d3 d4
  refine (HC2.out _).mono ?_
  rintro e a2 ⟨rfl, hb2⟩
  obtain ⟨W2, hW2, hN2, hn2⟩ : ∃ V, a2.alloc (.cells #[.int .u8 0, .int .i64 0, .int .i64 0, .string ⟨#[]⟩] 23) = V ∧ Boxed V a2.heap.size 0 0 0 ⟨#[]⟩ ∧ Below a2.heap.size a2 V := ⟨_, rfl, Boxed.new _ _ _ _ _ _, Below.allocs _ _⟩
  have HW2 := Lib.hid hW2
  have hz2 := below_tr hb2 hn2
  have HB2 := Lib.hid (below_tr HB1.out hz2)
  have HN2 := Lib.hid hN2
  have JX2 := Lib.hid (JX1.out.below hz2)
  have JY2 := Lib.hid (JY1.out.below hz2)
  have Jc12 := Lib.hid (HN1.out.below hz2)
  obtain ⟨b0, b1, b2, b3, b4⟩ := JX1.out.below hb2
  obtain ⟨d0, d1, d2, d3, d4⟩ := JY1.out.below hb2
  clear hW2 hb2 hn2 hz2 hN2
  go_wp2_with fail
  rw [HW2.out]
  clear b0 b1 b2 b3 b4 d0 d1 d2 d3 d4
  have hdr := below_drw W2
  try simp only [List.append_eq, List.cons_append, List.nil_append]
  refine RX.wp_region_plan (fun w w' => Below w.heap.size w w') [.it (.bool false), .it (.agg #[.int .u8 x.k, .int .i64 x.n, .int .i64 x.u, .string x.t]), .it (.agg #[.int .u8 y.k, .int .i64 y.n, .int .i64 y.u, .string y.t]), .it (.bool false), .it (.bool false), .it (.bool false), .it (.bool false), .it (.agg #[.int .u8 y.k, .int .i64 y.n, .int .i64 y.u, .string y.t]), .it (.agg #[.int .u8 x.k, .int .i64 x.n, .int .i64 x.u, .string x.t]), .it (.bool false), .it (.bool false), .it (.bool false), .it (.bool false), .it (.bool false), .it (.bool false), .it (.bool false), .it (.bool false), .it (.bool false), .it (.agg #[.int .u8 0, .int .i64 0, .int .i64 0, .string ⟨#[]⟩]), .it (.agg #[.int .u8 0, .int .i64 0, .int .i64 0, .string ⟨#[]⟩]), .it (.bool false), .it (.bool false), .it (.bool false), .it (.agg #[.int .u8 x.k, .int .i64 x.n, .int .i64 x.u, .string x.t]), .it (.agg #[.int .u8 x.k, .int .i64 x.n, .int .i64 x.u, .string x.t]), .it (.bool true), .it (.agg #[.int .u8 x.k, .int .i64 x.n, .int .i64 x.u, .string x.t]), .it (.bool true), .it (.bool false), .it (.bool false)] (by kernel_rfl) (by kernel_rfl) (fun _ => Below.refl _ _) (fun _ _ _ => below_tr) ?_
  refine RX.seqP_value (fun _ => Below.refl _ _) _ (by first | rfl | simp) (fun w' hw' hctx => by (go_simp); (try first | with_reducible rfl | simp)) ?_
  simp only [Act.put, List.setIfInBounds_toArray, List.set_cons_zero, List.set_cons_succ]
  refine RX.seqP_value (fun _ => Below.refl _ _) _ (by first | rfl | simp) (fun w' hw' hctx => ?_) ?_
  · obtain ⟨c0, c1, c2, c3, c4⟩ := JX2.out.below (below_tr hdr hw')
    go_simp
    try first | with_reducible rfl | simp
  simp only [Act.put, List.setIfInBounds_toArray, List.set_cons_zero, List.set_cons_succ]
  refine RX.seqP_value (fun _ => Below.refl _ _) _ (by first | rfl | simp) (fun w' hw' hctx => ?_) ?_
  · obtain ⟨c0, c1, c2, c3, c4⟩ := JY2.out.below (below_tr hdr hw')
    go_simp
    try first | with_reducible rfl | simp
  simp only [Act.put, List.setIfInBounds_toArray, List.set_cons_zero, List.set_cons_succ]
  refine RX.seqP_call (18) #[.agg #[.int .u8 x.k, .int .i64 x.n, .int .i64 x.u, .string x.t], .agg #[.int .u8 y.k, .int .i64 y.n, .int .i64 y.u, .string y.t]] (.bool false) (by first | rfl | simp) (fun w' hw' hctx => ?_) (fun w' hw' hctx => HM1.out w') ?_
  · go_simp
  simp only [Act.put, List.setIfInBounds_toArray, List.set_cons_zero, List.set_cons_succ]
  refine RX.seqP_value (fun _ => Below.refl _ _) _ (by first | rfl | simp) (fun w' hw' hctx => by (go_simp); (try first | with_reducible rfl | simp)) ?_
  simp only [Act.put, List.setIfInBounds_toArray, List.set_cons_zero, List.set_cons_succ]
  refine RX.seqP_value (fun _ => Below.refl _ _) _ (by first | rfl | simp) (fun w' hw' hctx => by (go_simp); (try first | with_reducible rfl | simp)) ?_
  simp only [Act.put, List.setIfInBounds_toArray, List.set_cons_zero, List.set_cons_succ]
  refine RX.seqP_value (fun _ => Below.refl _ _) _ (by first | rfl | simp) (fun w' hw' hctx => by (go_simp); (try first | with_reducible rfl | simp)) ?_
  simp only [Act.put, List.setIfInBounds_toArray, List.set_cons_zero, List.set_cons_succ]
  refine RX.seqP_value (fun _ => Below.refl _ _) _ (by first | rfl | simp) (fun w' hw' hctx => ?_) ?_
  · obtain ⟨c0, c1, c2, c3, c4⟩ := JY2.out.below (below_tr hdr hw')
    go_simp
    try first | with_reducible rfl | simp
  simp only [Act.put, List.setIfInBounds_toArray, List.set_cons_zero, List.set_cons_succ]
  refine RX.seqP_value (fun _ => Below.refl _ _) _ (by first | rfl | simp) (fun w' hw' hctx => ?_) ?_
  · obtain ⟨c0, c1, c2, c3, c4⟩ := JX2.out.below (below_tr hdr hw')
    go_simp
    try first | with_reducible rfl | simp
  simp only [Act.put, List.setIfInBounds_toArray, List.set_cons_zero, List.set_cons_succ]
  refine RX.seqP_call (18) #[.agg #[.int .u8 y.k, .int .i64 y.n, .int .i64 y.u, .string y.t], .agg #[.int .u8 x.k, .int .i64 x.n, .int .i64 x.u, .string x.t]] (.bool false) (by first | rfl | simp) (fun w' hw' hctx => ?_) (fun w' hw' hctx => HM2.out w') ?_
  · go_simp
  simp only [Act.put, List.setIfInBounds_toArray, List.set_cons_zero, List.set_cons_succ]
  refine RX.seqP_value (fun _ => Below.refl _ _) _ (by first | rfl | simp) (fun w' hw' hctx => by (go_simp); (try first | with_reducible rfl | simp)) ?_
  simp only [Act.put, List.setIfInBounds_toArray, List.set_cons_zero, List.set_cons_succ]
  refine RX.seqP_value (fun _ => Below.refl _ _) _ (by first | rfl | simp) (fun w' hw' hctx => by (go_simp); (try first | with_reducible rfl | simp)) ?_
  simp only [Act.put, List.setIfInBounds_toArray, List.set_cons_zero, List.set_cons_succ]
  refine RX.seqP_value (fun _ => Below.refl _ _) _ (by first | rfl | simp) (fun w' hw' hctx => by (go_simp); (try first | with_reducible rfl | simp)) ?_
  simp only [Act.put, List.setIfInBounds_toArray, List.set_cons_zero, List.set_cons_succ]
  refine RX.seqP_value (fun _ => Below.refl _ _) _ (by first | rfl | simp) (fun w' hw' hctx => by (go_simp); (try first | with_reducible rfl | simp)) ?_
  simp only [Act.put, List.setIfInBounds_toArray, List.set_cons_zero, List.set_cons_succ]
  refine RX.seqP_value (fun _ => Below.refl _ _) _ (by first | rfl | simp) (fun w' hw' hctx => by (go_simp); (try first | with_reducible rfl | simp)) ?_
  simp only [Act.put, List.setIfInBounds_toArray, List.set_cons_zero, List.set_cons_succ]
  refine RX.seqP_value (fun _ => Below.refl _ _) _ (by first | rfl | simp) (fun w' hw' hctx => by (go_simp); (try first | with_reducible rfl | simp)) ?_
  simp only [Act.put, List.setIfInBounds_toArray, List.set_cons_zero, List.set_cons_succ]
  refine RX.seqP_value (fun _ => Below.refl _ _) _ (by first | rfl | simp) (fun w' hw' hctx => by (go_simp); (try first | with_reducible rfl | simp)) ?_
  simp only [Act.put, List.setIfInBounds_toArray, List.set_cons_zero, List.set_cons_succ]
  refine RX.seqP_value (fun _ => Below.refl _ _) _ (by first | rfl | simp) (fun w' hw' hctx => by (go_simp); (try first | with_reducible rfl | simp)) ?_
  simp only [Act.put, List.setIfInBounds_toArray, List.set_cons_zero, List.set_cons_succ]
  refine RX.seqP_value (fun _ => Below.refl _ _) _ (by first | rfl | simp) (fun w' hw' hctx => ?_) ?_
  · obtain ⟨c0, c1, c2, c3, c4⟩ := Jc12.out.below (below_tr hdr hw')
    go_simp
    try first | with_reducible rfl | simp
  simp only [Act.put, List.setIfInBounds_toArray, List.set_cons_zero, List.set_cons_succ]
  refine RX.seqP_value (fun _ => Below.refl _ _) _ (by first | rfl | simp) (fun w' hw' hctx => ?_) ?_
  · obtain ⟨c0, c1, c2, c3, c4⟩ := HN2.out.below (below_tr hdr hw')
    go_simp
    try first | with_reducible rfl | simp
  simp only [Act.put, List.setIfInBounds_toArray, List.set_cons_zero, List.set_cons_succ]
  refine RX.seqP_value (fun _ => Below.refl _ _) _ (by first | rfl | simp) (fun w' hw' hctx => by (go_simp); (try first | with_reducible rfl | simp)) ?_
  simp only [Act.put, List.setIfInBounds_toArray, List.set_cons_zero, List.set_cons_succ]
  refine RX.seqP_value (fun _ => Below.refl _ _) _ (by first | rfl | simp) (fun w' hw' hctx => by (go_simp); (try first | with_reducible rfl | simp)) ?_
  simp only [Act.put, List.setIfInBounds_toArray, List.set_cons_zero, List.set_cons_succ]
  refine RX.seqP_value (fun _ => Below.refl _ _) _ (by first | rfl | simp) (fun w' hw' hctx => by (go_simp); (try first | with_reducible rfl | simp)) ?_
  simp only [Act.put, List.setIfInBounds_toArray, List.set_cons_zero, List.set_cons_succ]
  refine RX.seqP_value (fun _ => Below.refl _ _) _ (by first | rfl | simp) (fun w' hw' hctx => ?_) ?_
  · obtain ⟨c0, c1, c2, c3, c4⟩ := JX2.out.below (below_tr hdr hw')
    go_simp
    try first | with_reducible rfl | simp
  simp only [Act.put, List.setIfInBounds_toArray, List.set_cons_zero, List.set_cons_succ]
  refine RX.seqP_value (fun _ => Below.refl _ _) _ (by first | rfl | simp) (fun w' hw' hctx => ?_) ?_
  · obtain ⟨c0, c1, c2, c3, c4⟩ := JX2.out.below (below_tr hdr hw')
    go_simp
    try first | with_reducible rfl | simp
  simp only [Act.put, List.setIfInBounds_toArray, List.set_cons_zero, List.set_cons_succ]
  refine RX.seqP_call (18) #[.agg #[.int .u8 x.k, .int .i64 x.n, .int .i64 x.u, .string x.t], .agg #[.int .u8 x.k, .int .i64 x.n, .int .i64 x.u, .string x.t]] (.bool true) (by first | rfl | simp) (fun w' hw' hctx => ?_) (fun w' hw' hctx => HM3.out w') ?_
  · go_simp
  simp only [Act.put, List.setIfInBounds_toArray, List.set_cons_zero, List.set_cons_succ]
  refine RX.seqP_value (fun _ => Below.refl _ _) _ (by first | rfl | simp) (fun w' hw' hctx => ?_) ?_
  · obtain ⟨c0, c1, c2, c3, c4⟩ := JX2.out.below (below_tr hdr hw')
    go_simp
    try first | with_reducible rfl | simp
  simp only [Act.put, List.setIfInBounds_toArray, List.set_cons_zero, List.set_cons_succ]
  refine RX.seqP_call (14) #[.agg #[.int .u8 x.k, .int .i64 x.n, .int .i64 x.u, .string x.t]] (.bool true) (by first | rfl | simp) (fun w' hw' hctx => ?_) (fun w' hw' hctx => HK1.out w') ?_
  · go_simp
  simp only [Act.put, List.setIfInBounds_toArray, List.set_cons_zero, List.set_cons_succ]
  refine RX.seqP_value (fun _ => Below.refl _ _) _ (by first | rfl | simp) (fun w' hw' hctx => by (go_simp); (try first | with_reducible rfl | simp)) ?_
  simp only [Act.put, List.setIfInBounds_toArray, List.set_cons_zero, List.set_cons_succ]
  refine RX.seqP_value (fun _ => Below.refl _ _) _ (by first | rfl | simp) (fun w' hw' hctx => by (go_simp); (try first | with_reducible rfl | simp)) ?_
  simp only [Act.put, List.setIfInBounds_toArray, List.set_cons_zero, List.set_cons_succ]
  refine RX.seqP_nil (fun v1 hR hctx _ => ?_)
  have hv1 := below_tr hdr hR
  clear hctx hR
  have HV1 := Lib.hid (below_tr HB2.out hv1)
  have KX := Lib.hid (JX2.out.below hv1)
  have KY := Lib.hid (JY2.out.below hv1)
  have Kc1 := Lib.hid (Jc12.out.below hv1)
  have Kc2 := Lib.hid (HN2.out.below hv1)
  clear hv1 hdr
  go_wp2_with fail
  have hdr := below_drw v1
  try simp only [List.append_eq, List.cons_append, List.nil_append]
  refine RX.wp_region_plan (fun w w' => Below w.heap.size w w') [.it (.agg #[.int .u8 0, .int .i64 0, .int .i64 0, .string ⟨#[]⟩]), .it (.int .i64 n), .it (.bool false), .it (.agg #[.int .u8 x.k, .int .i64 x.n, .int .i64 x.u, .string x.t]), .it (.int .i64 n), .it (.bool false), .it (.bool false), .it undef, .it undef, .it undef, .it (.bool false), .it (.bool false)] (by kernel_rfl) (by kernel_rfl) (fun _ => Below.refl _ _) (fun _ _ _ => below_tr) ?_
  refine RX.seqP_value (fun _ => Below.refl _ _) _ (by first | rfl | simp) (fun w' hw' hctx => ?_) ?_
  · obtain ⟨c0, c1, c2, c3, c4⟩ := Kc1.out.below (below_tr hdr hw')
    go_simp
    try first | with_reducible rfl | simp
  simp only [Act.put, List.setIfInBounds_toArray, List.set_cons_zero, List.set_cons_succ]
  refine RX.seqP_value (fun _ => Below.refl _ _) _ (by first | rfl | simp) (fun w' hw' hctx => by (go_simp); (try first | with_reducible rfl | simp)) ?_
  simp only [Act.put, List.setIfInBounds_toArray, List.set_cons_zero, List.set_cons_succ]
  refine RX.seqP_call (16) #[.agg #[.int .u8 0, .int .i64 0, .int .i64 0, .string ⟨#[]⟩], .int .i64 n] (.bool false) (by first | rfl | simp) (fun w' hw' hctx => ?_) (fun w' hw' hctx => HHC.out w') ?_
  · go_simp
  simp only [Act.put, List.setIfInBounds_toArray, List.set_cons_zero, List.set_cons_succ]
  refine RX.seqP_value (fun _ => Below.refl _ _) _ (by first | rfl | simp) (fun w' hw' hctx => ?_) ?_
  · obtain ⟨c0, c1, c2, c3, c4⟩ := KX.out.below (below_tr hdr hw')
    go_simp
    try first | with_reducible rfl | simp
  simp only [Act.put, List.setIfInBounds_toArray, List.set_cons_zero, List.set_cons_succ]
  refine RX.seqP_value (fun _ => Below.refl _ _) _ (by first | rfl | simp) (fun w' hw' hctx => by (go_simp); (try first | with_reducible rfl | simp)) ?_
  simp only [Act.put, List.setIfInBounds_toArray, List.set_cons_zero, List.set_cons_succ]
  refine RX.seqP_call (16) #[.agg #[.int .u8 x.k, .int .i64 x.n, .int .i64 x.u, .string x.t], .int .i64 n] (.bool false) (by first | rfl | simp) (fun w' hw' hctx => ?_) (fun w' hw' hctx => HHX.out w') ?_
  · go_simp
  simp only [Act.put, List.setIfInBounds_toArray, List.set_cons_zero, List.set_cons_succ]
  refine RX.seqP_value (fun _ => Below.refl _ _) _ (by first | rfl | simp) (fun w' hw' hctx => by (go_simp); (try first | with_reducible rfl | simp)) ?_
  simp only [Act.put, List.setIfInBounds_toArray, List.set_cons_zero, List.set_cons_succ]
  refine RX.seqP_skip (by first | rfl | simp) ?_
  simp only [Act.put, List.setIfInBounds_toArray, List.set_cons_zero, List.set_cons_succ]
  refine RX.seqP_skip (by first | rfl | simp) ?_
  simp only [Act.put, List.setIfInBounds_toArray, List.set_cons_zero, List.set_cons_succ]
  refine RX.seqP_skip (by first | rfl | simp) ?_
  simp only [Act.put, List.setIfInBounds_toArray, List.set_cons_zero, List.set_cons_succ]
  refine RX.seqP_value (fun _ => Below.refl _ _) _ (by first | rfl | simp) (fun w' hw' hctx => by (go_simp); (try first | with_reducible rfl | simp)) ?_
  simp only [Act.put, List.setIfInBounds_toArray, List.set_cons_zero, List.set_cons_succ]
  refine RX.seqP_value (fun _ => Below.refl _ _) _ (by first | rfl | simp) (fun w' hw' hctx => by (go_simp); (try first | with_reducible rfl | simp)) ?_
  simp only [Act.put, List.setIfInBounds_toArray, List.set_cons_zero, List.set_cons_succ]
  refine RX.seqP_nil (fun v2 hR hctx _ => ?_)
  have hv2 := below_tr hdr hR
  clear hctx hR
  have HV2 := Lib.hid (below_tr HV1.out hv2)
  have MX := Lib.hid (KX.out.below hv2)
  have MY := Lib.hid (KY.out.below hv2)
  have Mc1 := Lib.hid (Kc1.out.below hv2)
  have Mc2 := Lib.hid (Kc2.out.below hv2)
  clear hv2 hdr
  obtain ⟨b0, b1, b2, b3, b4⟩ := MX.out
  obtain ⟨d0, d1, d2, d3, d4⟩ := MY.out
  obtain ⟨m0, m1, m2, m3, m4⟩ := Mc1.out
  go_wp2_with fail
  refine (HK1.out _).mono ?_
  rintro e v3 ⟨rfl, hv3⟩
  have hw3 := hv3
  clear b0 b1 b2 b3 b4 d0 d1 d2 d3 d4 m0 m1 m2 m3 m4
  obtain ⟨b0, b1, b2, b3, b4⟩ := MX.out.below hw3
  obtain ⟨d0, d1, d2, d3, d4⟩ := MY.out.below hw3
  obtain ⟨m0, m1, m2, m3, m4⟩ := Mc1.out.below hw3
  go_wp2_with fail
  refine (HK2.out _).mono ?_
  rintro e v4 ⟨rfl, hv4⟩
  have hw4 := below_tr hw3 hv4
  clear b0 b1 b2 b3 b4 d0 d1 d2 d3 d4 m0 m1 m2 m3 m4
  obtain ⟨b0, b1, b2, b3, b4⟩ := MX.out.below hw4
  obtain ⟨d0, d1, d2, d3, d4⟩ := MY.out.below hw4
  obtain ⟨m0, m1, m2, m3, m4⟩ := Mc1.out.below hw4
  go_wp2_with fail
  go_ret
  exact ⟨rfl, below_tr HV2.out hw4⟩

set_option maxRecDepth 100000 in
set_option maxHeartbeats 4000000 in
theorem both_3f0 (x y : Val) (n : Int) (hs : x.t.size ≤ 1000) (ht : y.t.size ≤ 1000) (hx : okS x = true) (hy : okS y = true) (hm0 : meetS x y = false) (hp : hasS x n = false) (ho : x.u ≤ y.n) (w : World) :
    Calls Try.prog 6 #[.agg #[.int .u8 x.k, .int .i64 x.n, .int .i64 x.u, .string x.t], .agg #[.int .u8 y.k, .int .i64 y.n, .int .i64 y.u, .string y.t], .int .i64 n] w fun e w' => e = .returned (.bool true) ∧ Below w.heap.size w w' := by
  have hm : meetS x y = false := hm0
  have hc1 : ∀ w, Calls Try.prog 12 #[.agg #[.int .u8 x.k, .int .i64 x.n, .int .i64 x.u, .string x.t], .agg #[.int .u8 y.k, .int .i64 y.n, .int .i64 y.u, .string y.t]] w fun e w' => e = .returned (.tuple #[.agg #[.int .u8 0, .int .i64 0, .int .i64 0, .string ⟨#[]⟩], .bool false]) ∧ Below w.heap.size w w' := fun w => by
    have h := com_is x y w
    rw [comS_no hm, hm] at h
    exact h
  have hc2 : ∀ w, Calls Try.prog 12 #[.agg #[.int .u8 y.k, .int .i64 y.n, .int .i64 y.u, .string y.t], .agg #[.int .u8 x.k, .int .i64 x.n, .int .i64 x.u, .string x.t]] w fun e w' => e = .returned (.tuple #[.agg #[.int .u8 0, .int .i64 0, .int .i64 0, .string ⟨#[]⟩], .bool false]) ∧ Below w.heap.size w w' := fun w => by
    have h := com_is y x w
    rw [← comS_comm, ← meetS_comm, comS_no hm, hm] at h
    exact h
  have hm1 := fun w => meets_is x y false hm w
  have hm2 := fun w => meets_is y x false (by rw [meetS_comm]; exact hm) w
  have hm3 := fun w => meets_is x x true (by rw [meetS_self]; exact hx) w
  have hk1 := fun w => may_is x true hx w
  have hk2 := fun w => may_is y true hy w
  have hhc := fun w => has_is Val.zero n false (by rw [hasS, okS_zero]; rfl) w
  have hhx := fun w => has_is x n false hp w
  have hhy := fun w => has_is y n _ rfl w
  have HC1 := Lib.hid hc1
  have HC2 := Lib.hid hc2
  have HM1 := Lib.hid hm1
  have HM2 := Lib.hid hm2
  have HM3 := Lib.hid hm3
  have HK1 := Lib.hid hk1
  have HK2 := Lib.hid hk2
  have HHC := Lib.hid hhc
  have HHX := Lib.hid hhx
  have HHY := Lib.hid hhy
  clear hc1 hc2 hm1 hm2 hm3 hk1 hk2 hhc hhx hhy
  have hnq : ∀ w, (Go.binOp .neq 23 (.agg #[.int .u8 0, .int .i64 0, .int .i64 0, .string ⟨#[]⟩]) (.agg #[.int .u8 0, .int .i64 0, .int .i64 0, .string ⟨#[]⟩])).run Try.prog w = .ok (.bool false) w := neq_self ⟨0, 0, 0, ⟨#[]⟩⟩
  obtain ⟨W, g, hg, hW, B0, B1, hb0⟩ := boxYY w x y
  have HB := Lib.hid hb0
  have H0 := Lib.hid B0
  have H1 := Lib.hid B1
  obtain ⟨b0, b1, b2, b3, b4⟩ := B0
  obtain ⟨d0, d1, d2, d3, d4⟩ := B1
  clear hb0
  have h' : ¬ (1000 : Int) < (x.t.size : Int) := by omega
  have k' : ¬ (1000 : Int) < (y.t.size : Int) := by omega
  clear hs ht hx hy hm0 hp hm
  go_enter Try.func6, Try.ntmps6
  go_wp2_with fail
  refine (awake_is _).mono ?_
  rintro e a0 ⟨rfl, hb0⟩
  have J0 := Lib.hid (H0.out.below hb0)
  have J1 := Lib.hid (H1.out.below hb0)
  have HB0 := Lib.hid (below_tr HB.out hb0)
  clear b0 b1 b2 b3 b4 d0 d1 d2 d3 d4 hb0
  obtain ⟨b0, b1, b2, b3, b4⟩ := J0.out
  obtain ⟨d0, d1, d2, d3, d4⟩ := J1.out
  go_wp2_with fail
  clear b0 b1 b2 b3 b4 d0 d1 d2 d3 d4
  refine (HC1.out _).mono ?_
  rintro e a1 ⟨rfl, hb1⟩
  obtain ⟨W1, hW1, hN1, hn1⟩ : ∃ V, a1.alloc (.cells #[.int .u8 0, .int .i64 0, .int .i64 0, .string ⟨#[]⟩] 23) = V ∧ Boxed V a1.heap.size 0 0 0 ⟨#[]⟩ ∧ Below a1.heap.size a1 V := ⟨_, rfl, Boxed.new _ _ _ _ _ _, Below.allocs _ _⟩
  have HW1 := Lib.hid hW1
  have hz1 := below_tr hb1 hn1
  have HB1 := Lib.hid (below_tr HB0.out hz1)
  have HN1 := Lib.hid hN1
  have JX1 := Lib.hid (J0.out.below hz1)
  have JY1 := Lib.hid (J1.out.below hz1)
  obtain ⟨b0, b1, b2, b3, b4⟩ := J0.out.below hb1
  obtain ⟨d0, d1, d2, d3, d4⟩ := J1.out.below hb1
  clear hW1 hb1 hn1 hz1 hN1
  go_wp2_with fail
  rw [HW1.out]
  clear b0 b1 b2 b3 b4 d0 d1 d2 d3 d4
  refine (HC2.out _).mono ?_
  rintro e a2 ⟨rfl, hb2⟩
  obtain ⟨W2, hW2, hN2, hn2⟩ : ∃ V, a2.alloc (.cells #[.int .u8 0, .int .i64 0, .int .i64 0, .string ⟨#[]⟩] 23) = V ∧ Boxed V a2.heap.size 0 0 0 ⟨#[]⟩ ∧ Below a2.heap.size a2 V := ⟨_, rfl, Boxed.new _ _ _ _ _ _, Below.allocs _ _⟩
  have HW2 := Lib.hid hW2
  have hz2 := below_tr hb2 hn2
  have HB2 := Lib.hid (below_tr HB1.out hz2)
  have HN2 := Lib.hid hN2
  have JX2 := Lib.hid (JX1.out.below hz2)
  have JY2 := Lib.hid (JY1.out.below hz2)
  have Jc12 := Lib.hid (HN1.out.below hz2)
  obtain ⟨b0, b1, b2, b3, b4⟩ := JX1.out.below hb2
  obtain ⟨d0, d1, d2, d3, d4⟩ := JY1.out.below hb2
  clear hW2 hb2 hn2 hz2 hN2
  go_wp2_with fail
  rw [HW2.out]
  clear b0 b1 b2 b3 b4 d0 d1 d2 d3 d4
  have hdr := below_drw W2
  try simp only [List.append_eq, List.cons_append, List.nil_append]
  refine RX.wp_region_plan (fun w w' => Below w.heap.size w w') [.it (.bool false), .it (.agg #[.int .u8 x.k, .int .i64 x.n, .int .i64 x.u, .string x.t]), .it (.agg #[.int .u8 y.k, .int .i64 y.n, .int .i64 y.u, .string y.t]), .it (.bool false), .it (.bool false), .it (.bool false), .it (.bool false), .it (.agg #[.int .u8 y.k, .int .i64 y.n, .int .i64 y.u, .string y.t]), .it (.agg #[.int .u8 x.k, .int .i64 x.n, .int .i64 x.u, .string x.t]), .it (.bool false), .it (.bool false), .it (.bool false), .it (.bool false), .it (.bool false), .it (.bool false), .it (.bool false), .it (.bool false), .it (.bool false), .it (.agg #[.int .u8 0, .int .i64 0, .int .i64 0, .string ⟨#[]⟩]), .it (.agg #[.int .u8 0, .int .i64 0, .int .i64 0, .string ⟨#[]⟩]), .it (.bool false), .it (.bool false), .it (.bool false), .it (.agg #[.int .u8 x.k, .int .i64 x.n, .int .i64 x.u, .string x.t]), .it (.agg #[.int .u8 x.k, .int .i64 x.n, .int .i64 x.u, .string x.t]), .it (.bool true), .it (.agg #[.int .u8 x.k, .int .i64 x.n, .int .i64 x.u, .string x.t]), .it (.bool true), .it (.bool false), .it (.bool false)] (by kernel_rfl) (by kernel_rfl) (fun _ => Below.refl _ _) (fun _ _ _ => below_tr) ?_
  refine RX.seqP_value (fun _ => Below.refl _ _) _ (by first | rfl | simp) (fun w' hw' hctx => by (go_simp); (try first | with_reducible rfl | simp)) ?_
  simp only [Act.put, List.setIfInBounds_toArray, List.set_cons_zero, List.set_cons_succ]
  refine RX.seqP_value (fun _ => Below.refl _ _) _ (by first | rfl | simp) (fun w' hw' hctx => ?_) ?_
  · obtain ⟨c0, c1, c2, c3, c4⟩ := JX2.out.below (below_tr hdr hw')
    go_simp
    try first | with_reducible rfl | simp
  simp only [Act.put, List.setIfInBounds_toArray, List.set_cons_zero, List.set_cons_succ]
  refine RX.seqP_value (fun _ => Below.refl _ _) _ (by first | rfl | simp) (fun w' hw' hctx => ?_) ?_
  · obtain ⟨c0, c1, c2, c3, c4⟩ := JY2.out.below (below_tr hdr hw')
    go_simp
    try first | with_reducible rfl | simp
  simp only [Act.put, List.setIfInBounds_toArray, List.set_cons_zero, List.set_cons_succ]
  refine RX.seqP_call (18) #[.agg #[.int .u8 x.k, .int .i64 x.n, .int .i64 x.u, .string x.t], .agg #[.int .u8 y.k, .int .i64 y.n, .int .i64 y.u, .string y.t]] (.bool false) (by first | rfl | simp) (fun w' hw' hctx => ?_) (fun w' hw' hctx => HM1.out w') ?_
  · go_simp
  simp only [Act.put, List.setIfInBounds_toArray, List.set_cons_zero, List.set_cons_succ]
  refine RX.seqP_value (fun _ => Below.refl _ _) _ (by first | rfl | simp) (fun w' hw' hctx => by (go_simp); (try first | with_reducible rfl | simp)) ?_
  simp only [Act.put, List.setIfInBounds_toArray, List.set_cons_zero, List.set_cons_succ]
  refine RX.seqP_value (fun _ => Below.refl _ _) _ (by first | rfl | simp) (fun w' hw' hctx => by (go_simp); (try first | with_reducible rfl | simp)) ?_
  simp only [Act.put, List.setIfInBounds_toArray, List.set_cons_zero, List.set_cons_succ]
  refine RX.seqP_value (fun _ => Below.refl _ _) _ (by first | rfl | simp) (fun w' hw' hctx => by (go_simp); (try first | with_reducible rfl | simp)) ?_
  simp only [Act.put, List.setIfInBounds_toArray, List.set_cons_zero, List.set_cons_succ]
  refine RX.seqP_value (fun _ => Below.refl _ _) _ (by first | rfl | simp) (fun w' hw' hctx => ?_) ?_
  · obtain ⟨c0, c1, c2, c3, c4⟩ := JY2.out.below (below_tr hdr hw')
    go_simp
    try first | with_reducible rfl | simp
  simp only [Act.put, List.setIfInBounds_toArray, List.set_cons_zero, List.set_cons_succ]
  refine RX.seqP_value (fun _ => Below.refl _ _) _ (by first | rfl | simp) (fun w' hw' hctx => ?_) ?_
  · obtain ⟨c0, c1, c2, c3, c4⟩ := JX2.out.below (below_tr hdr hw')
    go_simp
    try first | with_reducible rfl | simp
  simp only [Act.put, List.setIfInBounds_toArray, List.set_cons_zero, List.set_cons_succ]
  refine RX.seqP_call (18) #[.agg #[.int .u8 y.k, .int .i64 y.n, .int .i64 y.u, .string y.t], .agg #[.int .u8 x.k, .int .i64 x.n, .int .i64 x.u, .string x.t]] (.bool false) (by first | rfl | simp) (fun w' hw' hctx => ?_) (fun w' hw' hctx => HM2.out w') ?_
  · go_simp
  simp only [Act.put, List.setIfInBounds_toArray, List.set_cons_zero, List.set_cons_succ]
  refine RX.seqP_value (fun _ => Below.refl _ _) _ (by first | rfl | simp) (fun w' hw' hctx => by (go_simp); (try first | with_reducible rfl | simp)) ?_
  simp only [Act.put, List.setIfInBounds_toArray, List.set_cons_zero, List.set_cons_succ]
  refine RX.seqP_value (fun _ => Below.refl _ _) _ (by first | rfl | simp) (fun w' hw' hctx => by (go_simp); (try first | with_reducible rfl | simp)) ?_
  simp only [Act.put, List.setIfInBounds_toArray, List.set_cons_zero, List.set_cons_succ]
  refine RX.seqP_value (fun _ => Below.refl _ _) _ (by first | rfl | simp) (fun w' hw' hctx => by (go_simp); (try first | with_reducible rfl | simp)) ?_
  simp only [Act.put, List.setIfInBounds_toArray, List.set_cons_zero, List.set_cons_succ]
  refine RX.seqP_value (fun _ => Below.refl _ _) _ (by first | rfl | simp) (fun w' hw' hctx => by (go_simp); (try first | with_reducible rfl | simp)) ?_
  simp only [Act.put, List.setIfInBounds_toArray, List.set_cons_zero, List.set_cons_succ]
  refine RX.seqP_value (fun _ => Below.refl _ _) _ (by first | rfl | simp) (fun w' hw' hctx => by (go_simp); (try first | with_reducible rfl | simp)) ?_
  simp only [Act.put, List.setIfInBounds_toArray, List.set_cons_zero, List.set_cons_succ]
  refine RX.seqP_value (fun _ => Below.refl _ _) _ (by first | rfl | simp) (fun w' hw' hctx => by (go_simp); (try first | with_reducible rfl | simp)) ?_
  simp only [Act.put, List.setIfInBounds_toArray, List.set_cons_zero, List.set_cons_succ]
  refine RX.seqP_value (fun _ => Below.refl _ _) _ (by first | rfl | simp) (fun w' hw' hctx => by (go_simp); (try first | with_reducible rfl | simp)) ?_
  simp only [Act.put, List.setIfInBounds_toArray, List.set_cons_zero, List.set_cons_succ]
  refine RX.seqP_value (fun _ => Below.refl _ _) _ (by first | rfl | simp) (fun w' hw' hctx => by (go_simp); (try first | with_reducible rfl | simp)) ?_
  simp only [Act.put, List.setIfInBounds_toArray, List.set_cons_zero, List.set_cons_succ]
  refine RX.seqP_value (fun _ => Below.refl _ _) _ (by first | rfl | simp) (fun w' hw' hctx => ?_) ?_
  · obtain ⟨c0, c1, c2, c3, c4⟩ := Jc12.out.below (below_tr hdr hw')
    go_simp
    try first | with_reducible rfl | simp
  simp only [Act.put, List.setIfInBounds_toArray, List.set_cons_zero, List.set_cons_succ]
  refine RX.seqP_value (fun _ => Below.refl _ _) _ (by first | rfl | simp) (fun w' hw' hctx => ?_) ?_
  · obtain ⟨c0, c1, c2, c3, c4⟩ := HN2.out.below (below_tr hdr hw')
    go_simp
    try first | with_reducible rfl | simp
  simp only [Act.put, List.setIfInBounds_toArray, List.set_cons_zero, List.set_cons_succ]
  refine RX.seqP_value (fun _ => Below.refl _ _) _ (by first | rfl | simp) (fun w' hw' hctx => by (go_simp); (try first | with_reducible rfl | simp)) ?_
  simp only [Act.put, List.setIfInBounds_toArray, List.set_cons_zero, List.set_cons_succ]
  refine RX.seqP_value (fun _ => Below.refl _ _) _ (by first | rfl | simp) (fun w' hw' hctx => by (go_simp); (try first | with_reducible rfl | simp)) ?_
  simp only [Act.put, List.setIfInBounds_toArray, List.set_cons_zero, List.set_cons_succ]
  refine RX.seqP_value (fun _ => Below.refl _ _) _ (by first | rfl | simp) (fun w' hw' hctx => by (go_simp); (try first | with_reducible rfl | simp)) ?_
  simp only [Act.put, List.setIfInBounds_toArray, List.set_cons_zero, List.set_cons_succ]
  refine RX.seqP_value (fun _ => Below.refl _ _) _ (by first | rfl | simp) (fun w' hw' hctx => ?_) ?_
  · obtain ⟨c0, c1, c2, c3, c4⟩ := JX2.out.below (below_tr hdr hw')
    go_simp
    try first | with_reducible rfl | simp
  simp only [Act.put, List.setIfInBounds_toArray, List.set_cons_zero, List.set_cons_succ]
  refine RX.seqP_value (fun _ => Below.refl _ _) _ (by first | rfl | simp) (fun w' hw' hctx => ?_) ?_
  · obtain ⟨c0, c1, c2, c3, c4⟩ := JX2.out.below (below_tr hdr hw')
    go_simp
    try first | with_reducible rfl | simp
  simp only [Act.put, List.setIfInBounds_toArray, List.set_cons_zero, List.set_cons_succ]
  refine RX.seqP_call (18) #[.agg #[.int .u8 x.k, .int .i64 x.n, .int .i64 x.u, .string x.t], .agg #[.int .u8 x.k, .int .i64 x.n, .int .i64 x.u, .string x.t]] (.bool true) (by first | rfl | simp) (fun w' hw' hctx => ?_) (fun w' hw' hctx => HM3.out w') ?_
  · go_simp
  simp only [Act.put, List.setIfInBounds_toArray, List.set_cons_zero, List.set_cons_succ]
  refine RX.seqP_value (fun _ => Below.refl _ _) _ (by first | rfl | simp) (fun w' hw' hctx => ?_) ?_
  · obtain ⟨c0, c1, c2, c3, c4⟩ := JX2.out.below (below_tr hdr hw')
    go_simp
    try first | with_reducible rfl | simp
  simp only [Act.put, List.setIfInBounds_toArray, List.set_cons_zero, List.set_cons_succ]
  refine RX.seqP_call (14) #[.agg #[.int .u8 x.k, .int .i64 x.n, .int .i64 x.u, .string x.t]] (.bool true) (by first | rfl | simp) (fun w' hw' hctx => ?_) (fun w' hw' hctx => HK1.out w') ?_
  · go_simp
  simp only [Act.put, List.setIfInBounds_toArray, List.set_cons_zero, List.set_cons_succ]
  refine RX.seqP_value (fun _ => Below.refl _ _) _ (by first | rfl | simp) (fun w' hw' hctx => by (go_simp); (try first | with_reducible rfl | simp)) ?_
  simp only [Act.put, List.setIfInBounds_toArray, List.set_cons_zero, List.set_cons_succ]
  refine RX.seqP_value (fun _ => Below.refl _ _) _ (by first | rfl | simp) (fun w' hw' hctx => by (go_simp); (try first | with_reducible rfl | simp)) ?_
  simp only [Act.put, List.setIfInBounds_toArray, List.set_cons_zero, List.set_cons_succ]
  refine RX.seqP_nil (fun v1 hR hctx _ => ?_)
  have hv1 := below_tr hdr hR
  clear hctx hR
  have HV1 := Lib.hid (below_tr HB2.out hv1)
  have KX := Lib.hid (JX2.out.below hv1)
  have KY := Lib.hid (JY2.out.below hv1)
  have Kc1 := Lib.hid (Jc12.out.below hv1)
  have Kc2 := Lib.hid (HN2.out.below hv1)
  clear hv1 hdr
  go_wp2_with fail
  have hdr := below_drw v1
  try simp only [List.append_eq, List.cons_append, List.nil_append]
  refine RX.wp_region_plan (fun w w' => Below w.heap.size w w') [.it (.agg #[.int .u8 0, .int .i64 0, .int .i64 0, .string ⟨#[]⟩]), .it (.int .i64 n), .it (.bool false), .it (.agg #[.int .u8 x.k, .int .i64 x.n, .int .i64 x.u, .string x.t]), .it (.int .i64 n), .it (.bool false), .it (.bool false), .it undef, .it undef, .it undef, .it (.bool false), .it (.bool false)] (by kernel_rfl) (by kernel_rfl) (fun _ => Below.refl _ _) (fun _ _ _ => below_tr) ?_
  refine RX.seqP_value (fun _ => Below.refl _ _) _ (by first | rfl | simp) (fun w' hw' hctx => ?_) ?_
  · obtain ⟨c0, c1, c2, c3, c4⟩ := Kc1.out.below (below_tr hdr hw')
    go_simp
    try first | with_reducible rfl | simp
  simp only [Act.put, List.setIfInBounds_toArray, List.set_cons_zero, List.set_cons_succ]
  refine RX.seqP_value (fun _ => Below.refl _ _) _ (by first | rfl | simp) (fun w' hw' hctx => by (go_simp); (try first | with_reducible rfl | simp)) ?_
  simp only [Act.put, List.setIfInBounds_toArray, List.set_cons_zero, List.set_cons_succ]
  refine RX.seqP_call (16) #[.agg #[.int .u8 0, .int .i64 0, .int .i64 0, .string ⟨#[]⟩], .int .i64 n] (.bool false) (by first | rfl | simp) (fun w' hw' hctx => ?_) (fun w' hw' hctx => HHC.out w') ?_
  · go_simp
  simp only [Act.put, List.setIfInBounds_toArray, List.set_cons_zero, List.set_cons_succ]
  refine RX.seqP_value (fun _ => Below.refl _ _) _ (by first | rfl | simp) (fun w' hw' hctx => ?_) ?_
  · obtain ⟨c0, c1, c2, c3, c4⟩ := KX.out.below (below_tr hdr hw')
    go_simp
    try first | with_reducible rfl | simp
  simp only [Act.put, List.setIfInBounds_toArray, List.set_cons_zero, List.set_cons_succ]
  refine RX.seqP_value (fun _ => Below.refl _ _) _ (by first | rfl | simp) (fun w' hw' hctx => by (go_simp); (try first | with_reducible rfl | simp)) ?_
  simp only [Act.put, List.setIfInBounds_toArray, List.set_cons_zero, List.set_cons_succ]
  refine RX.seqP_call (16) #[.agg #[.int .u8 x.k, .int .i64 x.n, .int .i64 x.u, .string x.t], .int .i64 n] (.bool false) (by first | rfl | simp) (fun w' hw' hctx => ?_) (fun w' hw' hctx => HHX.out w') ?_
  · go_simp
  simp only [Act.put, List.setIfInBounds_toArray, List.set_cons_zero, List.set_cons_succ]
  refine RX.seqP_value (fun _ => Below.refl _ _) _ (by first | rfl | simp) (fun w' hw' hctx => by (go_simp); (try first | with_reducible rfl | simp)) ?_
  simp only [Act.put, List.setIfInBounds_toArray, List.set_cons_zero, List.set_cons_succ]
  refine RX.seqP_skip (by first | rfl | simp) ?_
  simp only [Act.put, List.setIfInBounds_toArray, List.set_cons_zero, List.set_cons_succ]
  refine RX.seqP_skip (by first | rfl | simp) ?_
  simp only [Act.put, List.setIfInBounds_toArray, List.set_cons_zero, List.set_cons_succ]
  refine RX.seqP_skip (by first | rfl | simp) ?_
  simp only [Act.put, List.setIfInBounds_toArray, List.set_cons_zero, List.set_cons_succ]
  refine RX.seqP_value (fun _ => Below.refl _ _) _ (by first | rfl | simp) (fun w' hw' hctx => by (go_simp); (try first | with_reducible rfl | simp)) ?_
  simp only [Act.put, List.setIfInBounds_toArray, List.set_cons_zero, List.set_cons_succ]
  refine RX.seqP_value (fun _ => Below.refl _ _) _ (by first | rfl | simp) (fun w' hw' hctx => by (go_simp); (try first | with_reducible rfl | simp)) ?_
  simp only [Act.put, List.setIfInBounds_toArray, List.set_cons_zero, List.set_cons_succ]
  refine RX.seqP_nil (fun v2 hR hctx _ => ?_)
  have hv2 := below_tr hdr hR
  clear hctx hR
  have HV2 := Lib.hid (below_tr HV1.out hv2)
  have MX := Lib.hid (KX.out.below hv2)
  have MY := Lib.hid (KY.out.below hv2)
  have Mc1 := Lib.hid (Kc1.out.below hv2)
  have Mc2 := Lib.hid (Kc2.out.below hv2)
  clear hv2 hdr
  obtain ⟨b0, b1, b2, b3, b4⟩ := MX.out
  obtain ⟨d0, d1, d2, d3, d4⟩ := MY.out
  obtain ⟨m0, m1, m2, m3, m4⟩ := Mc1.out
  go_wp2_with fail
  refine (HK1.out _).mono ?_
  rintro e v3 ⟨rfl, hv3⟩
  have hw3 := hv3
  clear b0 b1 b2 b3 b4 d0 d1 d2 d3 d4 m0 m1 m2 m3 m4
  obtain ⟨b0, b1, b2, b3, b4⟩ := MX.out.below hw3
  obtain ⟨d0, d1, d2, d3, d4⟩ := MY.out.below hw3
  obtain ⟨m0, m1, m2, m3, m4⟩ := Mc1.out.below hw3
  go_wp2_with fail
  refine (HK2.out _).mono ?_
  rintro e v4 ⟨rfl, hv4⟩
  have hw4 := below_tr hw3 hv4
  clear b0 b1 b2 b3 b4 d0 d1 d2 d3 d4 m0 m1 m2 m3 m4
  obtain ⟨b0, b1, b2, b3, b4⟩ := MX.out.below hw4
  obtain ⟨d0, d1, d2, d3, d4⟩ := MY.out.below hw4
  obtain ⟨m0, m1, m2, m3, m4⟩ := Mc1.out.below hw4
  go_wp2_with fail
  go_ret
  exact ⟨rfl, below_tr HV2.out hw4⟩

set_option maxRecDepth 100000 in
set_option maxHeartbeats 4000000 in
theorem both_3f1 (x y : Val) (n : Int) (hs : x.t.size ≤ 1000) (ht : y.t.size ≤ 1000) (hx : okS x = true) (hy : okS y = true) (hm0 : meetS x y = false) (hp : hasS x n = false) (ho1 : y.n < x.u) (ho : y.u ≤ x.n) (w : World) :
    Calls Try.prog 6 #[.agg #[.int .u8 x.k, .int .i64 x.n, .int .i64 x.u, .string x.t], .agg #[.int .u8 y.k, .int .i64 y.n, .int .i64 y.u, .string y.t], .int .i64 n] w fun e w' => e = .returned (.bool true) ∧ Below w.heap.size w w' := by
  have hm : meetS x y = false := hm0
  have hc1 : ∀ w, Calls Try.prog 12 #[.agg #[.int .u8 x.k, .int .i64 x.n, .int .i64 x.u, .string x.t], .agg #[.int .u8 y.k, .int .i64 y.n, .int .i64 y.u, .string y.t]] w fun e w' => e = .returned (.tuple #[.agg #[.int .u8 0, .int .i64 0, .int .i64 0, .string ⟨#[]⟩], .bool false]) ∧ Below w.heap.size w w' := fun w => by
    have h := com_is x y w
    rw [comS_no hm, hm] at h
    exact h
  have hc2 : ∀ w, Calls Try.prog 12 #[.agg #[.int .u8 y.k, .int .i64 y.n, .int .i64 y.u, .string y.t], .agg #[.int .u8 x.k, .int .i64 x.n, .int .i64 x.u, .string x.t]] w fun e w' => e = .returned (.tuple #[.agg #[.int .u8 0, .int .i64 0, .int .i64 0, .string ⟨#[]⟩], .bool false]) ∧ Below w.heap.size w w' := fun w => by
    have h := com_is y x w
    rw [← comS_comm, ← meetS_comm, comS_no hm, hm] at h
    exact h
  have hm1 := fun w => meets_is x y false hm w
  have hm2 := fun w => meets_is y x false (by rw [meetS_comm]; exact hm) w
  have hm3 := fun w => meets_is x x true (by rw [meetS_self]; exact hx) w
  have hk1 := fun w => may_is x true hx w
  have hk2 := fun w => may_is y true hy w
  have hhc := fun w => has_is Val.zero n false (by rw [hasS, okS_zero]; rfl) w
  have hhx := fun w => has_is x n false hp w
  have hhy := fun w => has_is y n _ rfl w
  have HC1 := Lib.hid hc1
  have HC2 := Lib.hid hc2
  have HM1 := Lib.hid hm1
  have HM2 := Lib.hid hm2
  have HM3 := Lib.hid hm3
  have HK1 := Lib.hid hk1
  have HK2 := Lib.hid hk2
  have HHC := Lib.hid hhc
  have HHX := Lib.hid hhx
  have HHY := Lib.hid hhy
  clear hc1 hc2 hm1 hm2 hm3 hk1 hk2 hhc hhx hhy
  have hnq : ∀ w, (Go.binOp .neq 23 (.agg #[.int .u8 0, .int .i64 0, .int .i64 0, .string ⟨#[]⟩]) (.agg #[.int .u8 0, .int .i64 0, .int .i64 0, .string ⟨#[]⟩])).run Try.prog w = .ok (.bool false) w := neq_self ⟨0, 0, 0, ⟨#[]⟩⟩
  obtain ⟨W, g, hg, hW, B0, B1, hb0⟩ := boxYY w x y
  have HB := Lib.hid hb0
  have H0 := Lib.hid B0
  have H1 := Lib.hid B1
  obtain ⟨b0, b1, b2, b3, b4⟩ := B0
  obtain ⟨d0, d1, d2, d3, d4⟩ := B1
  clear hb0
  have h' : ¬ (1000 : Int) < (x.t.size : Int) := by omega
  have k' : ¬ (1000 : Int) < (y.t.size : Int) := by omega
  clear hs ht hx hy hm0 hp hm
  go_enter Try.func6, Try.ntmps6
  go_wp2_with fail
  refine (awake_is _).mono ?_
  rintro e a0 ⟨rfl, hb0⟩
  have J0 := Lib.hid (H0.out.below hb0)
  have J1 := Lib.hid (H1.out.below hb0)
  have HB0 := Lib.hid (below_tr HB.out hb0)
  clear b0 b1 b2 b3 b4 d0 d1 d2 d3 d4 hb0
  obtain ⟨b0, b1, b2, b3, b4⟩ := J0.out
  obtain ⟨d0, d1, d2, d3, d4⟩ := J1.out
  go_wp2_with fail
  clear b0 b1 b2 b3 b4 d0 d1 d2 d3 d4
  refine (HC1.out _).mono ?_
  rintro e a1 ⟨rfl, hb1⟩
  obtain ⟨W1, hW1, hN1, hn1⟩ : ∃ V, a1.alloc (.cells #[.int .u8 0, .int .i64 0, .int .i64 0, .string ⟨#[]⟩] 23) = V ∧ Boxed V a1.heap.size 0 0 0 ⟨#[]⟩ ∧ Below a1.heap.size a1 V := ⟨_, rfl, Boxed.new _ _ _ _ _ _, Below.allocs _ _⟩
  have HW1 := Lib.hid hW1
  have hz1 := below_tr hb1 hn1
  have HB1 := Lib.hid (below_tr HB0.out hz1)
  have HN1 := Lib.hid hN1
  have JX1 := Lib.hid (J0.out.below hz1)
  have JY1 := Lib.hid (J1.out.below hz1)
  obtain ⟨b0, b1, b2, b3, b4⟩ := J0.out.below hb1
  obtain ⟨d0, d1, d2, d3, d4⟩ := J1.out.below hb1
  clear hW1 hb1 hn1 hz1 hN1
  go_wp2_with fail
  rw [HW1.out]
  clear b0 b1 b2 b3 b4 d0 d1 d2 d3 d4
  refine (HC2.out _).mono ?_
  rintro e a2 ⟨rfl, hb2⟩
  obtain ⟨W2, hW2, hN2, hn2⟩ : ∃ V, a2.alloc (.cells #[.int .u8 0, .int .i64 0, .int .i64 0, .string ⟨#[]⟩] 23) = V ∧ Boxed V a2.heap.size 0 0 0 ⟨#[]⟩ ∧ Below a2.heap.size a2 V := ⟨_, rfl, Boxed.new _ _ _ _ _ _, Below.allocs _ _⟩
  have HW2 := Lib.hid hW2
  have hz2 := below_tr hb2 hn2
  have HB2 := Lib.hid (below_tr HB1.out hz2)
  have HN2 := Lib.hid hN2
  have JX2 := Lib.hid (JX1.out.below hz2)
  have JY2 := Lib.hid (JY1.out.below hz2)
  have Jc12 := Lib.hid (HN1.out.below hz2)
  obtain ⟨b0, b1, b2, b3, b4⟩ := JX1.out.below hb2
  obtain ⟨d0, d1, d2, d3, d4⟩ := JY1.out.below hb2
  clear hW2 hb2 hn2 hz2 hN2
  go_wp2_with fail
  rw [HW2.out]
  clear b0 b1 b2 b3 b4 d0 d1 d2 d3 d4
  have hdr := below_drw W2
  try simp only [List.append_eq, List.cons_append, List.nil_append]
  refine RX.wp_region_plan (fun w w' => Below w.heap.size w w') [.it (.bool false), .it (.agg #[.int .u8 x.k, .int .i64 x.n, .int .i64 x.u, .string x.t]), .it (.agg #[.int .u8 y.k, .int .i64 y.n, .int .i64 y.u, .string y.t]), .it (.bool false), .it (.bool false), .it (.bool false), .it (.bool false), .it (.agg #[.int .u8 y.k, .int .i64 y.n, .int .i64 y.u, .string y.t]), .it (.agg #[.int .u8 x.k, .int .i64 x.n, .int .i64 x.u, .string x.t]), .it (.bool false), .it (.bool false), .it (.bool false), .it (.bool false), .it (.bool false), .it (.bool false), .it (.bool false), .it (.bool false), .it (.bool false), .it (.agg #[.int .u8 0, .int .i64 0, .int .i64 0, .string ⟨#[]⟩]), .it (.agg #[.int .u8 0, .int .i64 0, .int .i64 0, .string ⟨#[]⟩]), .it (.bool false), .it (.bool false), .it (.bool false), .it (.agg #[.int .u8 x.k, .int .i64 x.n, .int .i64 x.u, .string x.t]), .it (.agg #[.int .u8 x.k, .int .i64 x.n, .int .i64 x.u, .string x.t]), .it (.bool true), .it (.agg #[.int .u8 x.k, .int .i64 x.n, .int .i64 x.u, .string x.t]), .it (.bool true), .it (.bool false), .it (.bool false)] (by kernel_rfl) (by kernel_rfl) (fun _ => Below.refl _ _) (fun _ _ _ => below_tr) ?_
  refine RX.seqP_value (fun _ => Below.refl _ _) _ (by first | rfl | simp) (fun w' hw' hctx => by (go_simp); (try first | with_reducible rfl | simp)) ?_
  simp only [Act.put, List.setIfInBounds_toArray, List.set_cons_zero, List.set_cons_succ]
  refine RX.seqP_value (fun _ => Below.refl _ _) _ (by first | rfl | simp) (fun w' hw' hctx => ?_) ?_
  · obtain ⟨c0, c1, c2, c3, c4⟩ := JX2.out.below (below_tr hdr hw')
    go_simp
    try first | with_reducible rfl | simp
  simp only [Act.put, List.setIfInBounds_toArray, List.set_cons_zero, List.set_cons_succ]
  refine RX.seqP_value (fun _ => Below.refl _ _) _ (by first | rfl | simp) (fun w' hw' hctx => ?_) ?_
  · obtain ⟨c0, c1, c2, c3, c4⟩ := JY2.out.below (below_tr hdr hw')
    go_simp
    try first | with_reducible rfl | simp
  simp only [Act.put, List.setIfInBounds_toArray, List.set_cons_zero, List.set_cons_succ]
  refine RX.seqP_call (18) #[.agg #[.int .u8 x.k, .int .i64 x.n, .int .i64 x.u, .string x.t], .agg #[.int .u8 y.k, .int .i64 y.n, .int .i64 y.u, .string y.t]] (.bool false) (by first | rfl | simp) (fun w' hw' hctx => ?_) (fun w' hw' hctx => HM1.out w') ?_
  · go_simp
  simp only [Act.put, List.setIfInBounds_toArray, List.set_cons_zero, List.set_cons_succ]
  refine RX.seqP_value (fun _ => Below.refl _ _) _ (by first | rfl | simp) (fun w' hw' hctx => by (go_simp); (try first | with_reducible rfl | simp)) ?_
  simp only [Act.put, List.setIfInBounds_toArray, List.set_cons_zero, List.set_cons_succ]
  refine RX.seqP_value (fun _ => Below.refl _ _) _ (by first | rfl | simp) (fun w' hw' hctx => by (go_simp); (try first | with_reducible rfl | simp)) ?_
  simp only [Act.put, List.setIfInBounds_toArray, List.set_cons_zero, List.set_cons_succ]
  refine RX.seqP_value (fun _ => Below.refl _ _) _ (by first | rfl | simp) (fun w' hw' hctx => by (go_simp); (try first | with_reducible rfl | simp)) ?_
  simp only [Act.put, List.setIfInBounds_toArray, List.set_cons_zero, List.set_cons_succ]
  refine RX.seqP_value (fun _ => Below.refl _ _) _ (by first | rfl | simp) (fun w' hw' hctx => ?_) ?_
  · obtain ⟨c0, c1, c2, c3, c4⟩ := JY2.out.below (below_tr hdr hw')
    go_simp
    try first | with_reducible rfl | simp
  simp only [Act.put, List.setIfInBounds_toArray, List.set_cons_zero, List.set_cons_succ]
  refine RX.seqP_value (fun _ => Below.refl _ _) _ (by first | rfl | simp) (fun w' hw' hctx => ?_) ?_
  · obtain ⟨c0, c1, c2, c3, c4⟩ := JX2.out.below (below_tr hdr hw')
    go_simp
    try first | with_reducible rfl | simp
  simp only [Act.put, List.setIfInBounds_toArray, List.set_cons_zero, List.set_cons_succ]
  refine RX.seqP_call (18) #[.agg #[.int .u8 y.k, .int .i64 y.n, .int .i64 y.u, .string y.t], .agg #[.int .u8 x.k, .int .i64 x.n, .int .i64 x.u, .string x.t]] (.bool false) (by first | rfl | simp) (fun w' hw' hctx => ?_) (fun w' hw' hctx => HM2.out w') ?_
  · go_simp
  simp only [Act.put, List.setIfInBounds_toArray, List.set_cons_zero, List.set_cons_succ]
  refine RX.seqP_value (fun _ => Below.refl _ _) _ (by first | rfl | simp) (fun w' hw' hctx => by (go_simp); (try first | with_reducible rfl | simp)) ?_
  simp only [Act.put, List.setIfInBounds_toArray, List.set_cons_zero, List.set_cons_succ]
  refine RX.seqP_value (fun _ => Below.refl _ _) _ (by first | rfl | simp) (fun w' hw' hctx => by (go_simp); (try first | with_reducible rfl | simp)) ?_
  simp only [Act.put, List.setIfInBounds_toArray, List.set_cons_zero, List.set_cons_succ]
  refine RX.seqP_value (fun _ => Below.refl _ _) _ (by first | rfl | simp) (fun w' hw' hctx => by (go_simp); (try first | with_reducible rfl | simp)) ?_
  simp only [Act.put, List.setIfInBounds_toArray, List.set_cons_zero, List.set_cons_succ]
  refine RX.seqP_value (fun _ => Below.refl _ _) _ (by first | rfl | simp) (fun w' hw' hctx => by (go_simp); (try first | with_reducible rfl | simp)) ?_
  simp only [Act.put, List.setIfInBounds_toArray, List.set_cons_zero, List.set_cons_succ]
  refine RX.seqP_value (fun _ => Below.refl _ _) _ (by first | rfl | simp) (fun w' hw' hctx => by (go_simp); (try first | with_reducible rfl | simp)) ?_
  simp only [Act.put, List.setIfInBounds_toArray, List.set_cons_zero, List.set_cons_succ]
  refine RX.seqP_value (fun _ => Below.refl _ _) _ (by first | rfl | simp) (fun w' hw' hctx => by (go_simp); (try first | with_reducible rfl | simp)) ?_
  simp only [Act.put, List.setIfInBounds_toArray, List.set_cons_zero, List.set_cons_succ]
  refine RX.seqP_value (fun _ => Below.refl _ _) _ (by first | rfl | simp) (fun w' hw' hctx => by (go_simp); (try first | with_reducible rfl | simp)) ?_
  simp only [Act.put, List.setIfInBounds_toArray, List.set_cons_zero, List.set_cons_succ]
  refine RX.seqP_value (fun _ => Below.refl _ _) _ (by first | rfl | simp) (fun w' hw' hctx => by (go_simp); (try first | with_reducible rfl | simp)) ?_
  simp only [Act.put, List.setIfInBounds_toArray, List.set_cons_zero, List.set_cons_succ]
  refine RX.seqP_value (fun _ => Below.refl _ _) _ (by first | rfl | simp) (fun w' hw' hctx => ?_) ?_
  · obtain ⟨c0, c1, c2, c3, c4⟩ := Jc12.out.below (below_tr hdr hw')
    go_simp
    try first | with_reducible rfl | simp
  simp only [Act.put, List.setIfInBounds_toArray, List.set_cons_zero, List.set_cons_succ]
  refine RX.seqP_value (fun _ => Below.refl _ _) _ (by first | rfl | simp) (fun w' hw' hctx => ?_) ?_
  · obtain ⟨c0, c1, c2, c3, c4⟩ := HN2.out.below (below_tr hdr hw')
    go_simp
    try first | with_reducible rfl | simp
  simp only [Act.put, List.setIfInBounds_toArray, List.set_cons_zero, List.set_cons_succ]
  refine RX.seqP_value (fun _ => Below.refl _ _) _ (by first | rfl | simp) (fun w' hw' hctx => by (go_simp); (try first | with_reducible rfl | simp)) ?_
  simp only [Act.put, List.setIfInBounds_toArray, List.set_cons_zero, List.set_cons_succ]
  refine RX.seqP_value (fun _ => Below.refl _ _) _ (by first | rfl | simp) (fun w' hw' hctx => by (go_simp); (try first | with_reducible rfl | simp)) ?_
  simp only [Act.put, List.setIfInBounds_toArray, List.set_cons_zero, List.set_cons_succ]
  refine RX.seqP_value (fun _ => Below.refl _ _) _ (by first | rfl | simp) (fun w' hw' hctx => by (go_simp); (try first | with_reducible rfl | simp)) ?_
  simp only [Act.put, List.setIfInBounds_toArray, List.set_cons_zero, List.set_cons_succ]
  refine RX.seqP_value (fun _ => Below.refl _ _) _ (by first | rfl | simp) (fun w' hw' hctx => ?_) ?_
  · obtain ⟨c0, c1, c2, c3, c4⟩ := JX2.out.below (below_tr hdr hw')
    go_simp
    try first | with_reducible rfl | simp
  simp only [Act.put, List.setIfInBounds_toArray, List.set_cons_zero, List.set_cons_succ]
  refine RX.seqP_value (fun _ => Below.refl _ _) _ (by first | rfl | simp) (fun w' hw' hctx => ?_) ?_
  · obtain ⟨c0, c1, c2, c3, c4⟩ := JX2.out.below (below_tr hdr hw')
    go_simp
    try first | with_reducible rfl | simp
  simp only [Act.put, List.setIfInBounds_toArray, List.set_cons_zero, List.set_cons_succ]
  refine RX.seqP_call (18) #[.agg #[.int .u8 x.k, .int .i64 x.n, .int .i64 x.u, .string x.t], .agg #[.int .u8 x.k, .int .i64 x.n, .int .i64 x.u, .string x.t]] (.bool true) (by first | rfl | simp) (fun w' hw' hctx => ?_) (fun w' hw' hctx => HM3.out w') ?_
  · go_simp
  simp only [Act.put, List.setIfInBounds_toArray, List.set_cons_zero, List.set_cons_succ]
  refine RX.seqP_value (fun _ => Below.refl _ _) _ (by first | rfl | simp) (fun w' hw' hctx => ?_) ?_
  · obtain ⟨c0, c1, c2, c3, c4⟩ := JX2.out.below (below_tr hdr hw')
    go_simp
    try first | with_reducible rfl | simp
  simp only [Act.put, List.setIfInBounds_toArray, List.set_cons_zero, List.set_cons_succ]
  refine RX.seqP_call (14) #[.agg #[.int .u8 x.k, .int .i64 x.n, .int .i64 x.u, .string x.t]] (.bool true) (by first | rfl | simp) (fun w' hw' hctx => ?_) (fun w' hw' hctx => HK1.out w') ?_
  · go_simp
  simp only [Act.put, List.setIfInBounds_toArray, List.set_cons_zero, List.set_cons_succ]
  refine RX.seqP_value (fun _ => Below.refl _ _) _ (by first | rfl | simp) (fun w' hw' hctx => by (go_simp); (try first | with_reducible rfl | simp)) ?_
  simp only [Act.put, List.setIfInBounds_toArray, List.set_cons_zero, List.set_cons_succ]
  refine RX.seqP_value (fun _ => Below.refl _ _) _ (by first | rfl | simp) (fun w' hw' hctx => by (go_simp); (try first | with_reducible rfl | simp)) ?_
  simp only [Act.put, List.setIfInBounds_toArray, List.set_cons_zero, List.set_cons_succ]
  refine RX.seqP_nil (fun v1 hR hctx _ => ?_)
  have hv1 := below_tr hdr hR
  clear hctx hR
  have HV1 := Lib.hid (below_tr HB2.out hv1)
  have KX := Lib.hid (JX2.out.below hv1)
  have KY := Lib.hid (JY2.out.below hv1)
  have Kc1 := Lib.hid (Jc12.out.below hv1)
  have Kc2 := Lib.hid (HN2.out.below hv1)
  clear hv1 hdr
  go_wp2_with fail
  have hdr := below_drw v1
  try simp only [List.append_eq, List.cons_append, List.nil_append]
  refine RX.wp_region_plan (fun w w' => Below w.heap.size w w') [.it (.agg #[.int .u8 0, .int .i64 0, .int .i64 0, .string ⟨#[]⟩]), .it (.int .i64 n), .it (.bool false), .it (.agg #[.int .u8 x.k, .int .i64 x.n, .int .i64 x.u, .string x.t]), .it (.int .i64 n), .it (.bool false), .it (.bool false), .it undef, .it undef, .it undef, .it (.bool false), .it (.bool false)] (by kernel_rfl) (by kernel_rfl) (fun _ => Below.refl _ _) (fun _ _ _ => below_tr) ?_
  refine RX.seqP_value (fun _ => Below.refl _ _) _ (by first | rfl | simp) (fun w' hw' hctx => ?_) ?_
  · obtain ⟨c0, c1, c2, c3, c4⟩ := Kc1.out.below (below_tr hdr hw')
    go_simp
    try first | with_reducible rfl | simp
  simp only [Act.put, List.setIfInBounds_toArray, List.set_cons_zero, List.set_cons_succ]
  refine RX.seqP_value (fun _ => Below.refl _ _) _ (by first | rfl | simp) (fun w' hw' hctx => by (go_simp); (try first | with_reducible rfl | simp)) ?_
  simp only [Act.put, List.setIfInBounds_toArray, List.set_cons_zero, List.set_cons_succ]
  refine RX.seqP_call (16) #[.agg #[.int .u8 0, .int .i64 0, .int .i64 0, .string ⟨#[]⟩], .int .i64 n] (.bool false) (by first | rfl | simp) (fun w' hw' hctx => ?_) (fun w' hw' hctx => HHC.out w') ?_
  · go_simp
  simp only [Act.put, List.setIfInBounds_toArray, List.set_cons_zero, List.set_cons_succ]
  refine RX.seqP_value (fun _ => Below.refl _ _) _ (by first | rfl | simp) (fun w' hw' hctx => ?_) ?_
  · obtain ⟨c0, c1, c2, c3, c4⟩ := KX.out.below (below_tr hdr hw')
    go_simp
    try first | with_reducible rfl | simp
  simp only [Act.put, List.setIfInBounds_toArray, List.set_cons_zero, List.set_cons_succ]
  refine RX.seqP_value (fun _ => Below.refl _ _) _ (by first | rfl | simp) (fun w' hw' hctx => by (go_simp); (try first | with_reducible rfl | simp)) ?_
  simp only [Act.put, List.setIfInBounds_toArray, List.set_cons_zero, List.set_cons_succ]
  refine RX.seqP_call (16) #[.agg #[.int .u8 x.k, .int .i64 x.n, .int .i64 x.u, .string x.t], .int .i64 n] (.bool false) (by first | rfl | simp) (fun w' hw' hctx => ?_) (fun w' hw' hctx => HHX.out w') ?_
  · go_simp
  simp only [Act.put, List.setIfInBounds_toArray, List.set_cons_zero, List.set_cons_succ]
  refine RX.seqP_value (fun _ => Below.refl _ _) _ (by first | rfl | simp) (fun w' hw' hctx => by (go_simp); (try first | with_reducible rfl | simp)) ?_
  simp only [Act.put, List.setIfInBounds_toArray, List.set_cons_zero, List.set_cons_succ]
  refine RX.seqP_skip (by first | rfl | simp) ?_
  simp only [Act.put, List.setIfInBounds_toArray, List.set_cons_zero, List.set_cons_succ]
  refine RX.seqP_skip (by first | rfl | simp) ?_
  simp only [Act.put, List.setIfInBounds_toArray, List.set_cons_zero, List.set_cons_succ]
  refine RX.seqP_skip (by first | rfl | simp) ?_
  simp only [Act.put, List.setIfInBounds_toArray, List.set_cons_zero, List.set_cons_succ]
  refine RX.seqP_value (fun _ => Below.refl _ _) _ (by first | rfl | simp) (fun w' hw' hctx => by (go_simp); (try first | with_reducible rfl | simp)) ?_
  simp only [Act.put, List.setIfInBounds_toArray, List.set_cons_zero, List.set_cons_succ]
  refine RX.seqP_value (fun _ => Below.refl _ _) _ (by first | rfl | simp) (fun w' hw' hctx => by (go_simp); (try first | with_reducible rfl | simp)) ?_
  simp only [Act.put, List.setIfInBounds_toArray, List.set_cons_zero, List.set_cons_succ]
  refine RX.seqP_nil (fun v2 hR hctx _ => ?_)
  have hv2 := below_tr hdr hR
  clear hctx hR
  have HV2 := Lib.hid (below_tr HV1.out hv2)
  have MX := Lib.hid (KX.out.below hv2)
  have MY := Lib.hid (KY.out.below hv2)
  have Mc1 := Lib.hid (Kc1.out.below hv2)
  have Mc2 := Lib.hid (Kc2.out.below hv2)
  clear hv2 hdr
  obtain ⟨b0, b1, b2, b3, b4⟩ := MX.out
  obtain ⟨d0, d1, d2, d3, d4⟩ := MY.out
  obtain ⟨m0, m1, m2, m3, m4⟩ := Mc1.out
  go_wp2_with fail
  refine (HK1.out _).mono ?_
  rintro e v3 ⟨rfl, hv3⟩
  have hw3 := hv3
  clear b0 b1 b2 b3 b4 d0 d1 d2 d3 d4 m0 m1 m2 m3 m4
  obtain ⟨b0, b1, b2, b3, b4⟩ := MX.out.below hw3
  obtain ⟨d0, d1, d2, d3, d4⟩ := MY.out.below hw3
  obtain ⟨m0, m1, m2, m3, m4⟩ := Mc1.out.below hw3
  go_wp2_with fail
  refine (HK2.out _).mono ?_
  rintro e v4 ⟨rfl, hv4⟩
  have hw4 := below_tr hw3 hv4
  clear b0 b1 b2 b3 b4 d0 d1 d2 d3 d4 m0 m1 m2 m3 m4
  obtain ⟨b0, b1, b2, b3, b4⟩ := MX.out.below hw4
  obtain ⟨d0, d1, d2, d3, d4⟩ := MY.out.below hw4
  obtain ⟨m0, m1, m2, m3, m4⟩ := Mc1.out.below hw4
  go_wp2_with fail
  go_ret
  exact ⟨rfl, below_tr HV2.out hw4⟩

set_option maxRecDepth 100000 in
set_option maxHeartbeats 4000000 in
theorem both_4f (x y : Val) (n : Int) (hs : x.t.size ≤ 1000) (ht : y.t.size ≤ 1000) (a b : Int) (hcm : comS x y = spanV a b) (hx : okS x = true) (hy : okS y = true) (hm0 : meetS x y = true) (hab : okS (spanV a b) = true) (hxa0 : hasS x a = true) (hya0 : hasS y a = true) (hxb0 : hasS x (b - 1) = true) (hyb0 : hasS y (b - 1) = true) (hib : I64 (b - 1)) (hp : hasS x n = false) (w : World) :
    Calls Try.prog 6 #[.agg #[.int .u8 x.k, .int .i64 x.n, .int .i64 x.u, .string x.t], .agg #[.int .u8 y.k, .int .i64 y.n, .int .i64 y.u, .string y.t], .int .i64 n] w fun e w' => e = .returned (.bool true) ∧ Below w.heap.size w w' := by
  have hc1 : ∀ w, Calls Try.prog 12 #[.agg #[.int .u8 x.k, .int .i64 x.n, .int .i64 x.u, .string x.t], .agg #[.int .u8 y.k, .int .i64 y.n, .int .i64 y.u, .string y.t]] w fun e w' => e = .returned (.tuple #[.agg #[.int .u8 4, .int .i64 a, .int .i64 b, .string ⟨#[]⟩], .bool true]) ∧ Below w.heap.size w w' := fun w => by
    have h := com_is x y w
    rw [hcm, hm0] at h
    exact h
  have hc2 : ∀ w, Calls Try.prog 12 #[.agg #[.int .u8 y.k, .int .i64 y.n, .int .i64 y.u, .string y.t], .agg #[.int .u8 x.k, .int .i64 x.n, .int .i64 x.u, .string x.t]] w fun e w' => e = .returned (.tuple #[.agg #[.int .u8 4, .int .i64 a, .int .i64 b, .string ⟨#[]⟩], .bool true]) ∧ Below w.heap.size w w' := fun w => by
    have h := com_is y x w
    rw [← comS_comm, ← meetS_comm, hcm, hm0] at h
    exact h
  have hm1 := fun w => meets_is x y true hm0 w
  have hm2 := fun w => meets_is y x true (by rw [meetS_comm]; exact hm0) w
  have hm3 := fun w => meets_is x x true (by rw [meetS_self]; exact hx) w
  have hk1 := fun w => may_is x true hx w
  have hk2 := fun w => may_is y true hy w
  have hhc := fun w => has_is (spanV a b) n false (by rw [← hcm, hasS_com, hp]; rfl) w
  have hhx := fun w => has_is x n false hp w
  have hhy := fun w => has_is y n _ rfl w
  have hkc := fun w => may_is (spanV a b) true hab w
  have hxa := fun w => has_is x a true hxa0 w
  have hya := fun w => has_is y a true hya0 w
  have hxb := fun w => has_is x (b - 1) true hxb0 w
  have hyb := fun w => has_is y (b - 1) true hyb0 w
  have hwr : wrap64 (b - 1) = b - 1 := by unfold I64 at hib; unfold wrap64; omega
  have HC1 := Lib.hid hc1
  have HC2 := Lib.hid hc2
  have HM1 := Lib.hid hm1
  have HM2 := Lib.hid hm2
  have HM3 := Lib.hid hm3
  have HK1 := Lib.hid hk1
  have HK2 := Lib.hid hk2
  have HHC := Lib.hid hhc
  have HHX := Lib.hid hhx
  have HHY := Lib.hid hhy
  have HKC := Lib.hid hkc
  have HXA := Lib.hid hxa
  have HYA := Lib.hid hya
  have HXB := Lib.hid hxb
  have HYB := Lib.hid hyb
  clear hc1 hc2 hm1 hm2 hm3 hk1 hk2 hhc hhx hhy hkc hxa hya hxb hyb
  have hnq : ∀ w, (Go.binOp .neq 23 (.agg #[.int .u8 4, .int .i64 a, .int .i64 b, .string ⟨#[]⟩]) (.agg #[.int .u8 4, .int .i64 a, .int .i64 b, .string ⟨#[]⟩])).run Try.prog w = .ok (.bool false) w := neq_self ⟨4, a, b, ⟨#[]⟩⟩
  obtain ⟨W, g, hg, hW, B0, B1, hb0⟩ := boxYY w x y
  have HB := Lib.hid hb0
  have H0 := Lib.hid B0
  have H1 := Lib.hid B1
  obtain ⟨b0, b1, b2, b3, b4⟩ := B0
  obtain ⟨d0, d1, d2, d3, d4⟩ := B1
  clear hb0
  have h' : ¬ (1000 : Int) < (x.t.size : Int) := by omega
  have k' : ¬ (1000 : Int) < (y.t.size : Int) := by omega
  clear hs ht hcm hx hy hm0 hab hxa0 hya0 hxb0 hyb0 hib hp
  go_enter Try.func6, Try.ntmps6
  go_wp2_with fail
  refine (awake_is _).mono ?_
  rintro e a0 ⟨rfl, hb0⟩
  have J0 := Lib.hid (H0.out.below hb0)
  have J1 := Lib.hid (H1.out.below hb0)
  have HB0 := Lib.hid (below_tr HB.out hb0)
  clear b0 b1 b2 b3 b4 d0 d1 d2 d3 d4 hb0
  obtain ⟨b0, b1, b2, b3, b4⟩ := J0.out
  obtain ⟨d0, d1, d2, d3, d4⟩ := J1.out
  go_wp2_with fail
  clear b0 b1 b2 b3 b4 d0 d1 d2 d3 d4
  refine (HC1.out _).mono ?_
  rintro e a1 ⟨rfl, hb1⟩
  obtain ⟨W1, hW1, hN1, hn1⟩ : ∃ V, a1.alloc (.cells #[.int .u8 4, .int .i64 a, .int .i64 b, .string ⟨#[]⟩] 23) = V ∧ Boxed V a1.heap.size 4 a b ⟨#[]⟩ ∧ Below a1.heap.size a1 V := ⟨_, rfl, Boxed.new _ _ _ _ _ _, Below.allocs _ _⟩
  have HW1 := Lib.hid hW1
  have hz1 := below_tr hb1 hn1
  have HB1 := Lib.hid (below_tr HB0.out hz1)
  have HN1 := Lib.hid hN1
  have JX1 := Lib.hid (J0.out.below hz1)
  have JY1 := Lib.hid (J1.out.below hz1)
  obtain ⟨b0, b1, b2, b3, b4⟩ := J0.out.below hb1
  obtain ⟨d0, d1, d2, d3, d4⟩ := J1.out.below hb1
  clear hW1 hb1 hn1 hz1 hN1
  go_wp2_with fail
  rw [HW1.out]
  clear b0 b1 b2 b3 b4 d0 d1 d2 d3 d4
  refine (HC2.out _).mono ?_
  rintro e a2 ⟨rfl, hb2⟩
  obtain ⟨W2, hW2, hN2, hn2⟩ : ∃ V, a2.alloc (.cells #[.int .u8 4, .int .i64 a, .int .i64 b, .string ⟨#[]⟩] 23) = V ∧ Boxed V a2.heap.size 4 a b ⟨#[]⟩ ∧ Below a2.heap.size a2 V := ⟨_, rfl, Boxed.new _ _ _ _ _ _, Below.allocs _ _⟩
  have HW2 := Lib.hid hW2
  have hz2 := below_tr hb2 hn2
  have HB2 := Lib.hid (below_tr HB1.out hz2)
  have HN2 := Lib.hid hN2
  have JX2 := Lib.hid (JX1.out.below hz2)
  have JY2 := Lib.hid (JY1.out.below hz2)
  have Jc12 := Lib.hid (HN1.out.below hz2)
  obtain ⟨b0, b1, b2, b3, b4⟩ := JX1.out.below hb2
  obtain ⟨d0, d1, d2, d3, d4⟩ := JY1.out.below hb2
  clear hW2 hb2 hn2 hz2 hN2
  go_wp2_with fail
  rw [HW2.out]
  clear b0 b1 b2 b3 b4 d0 d1 d2 d3 d4
  have hdr := below_drw W2
  try simp only [List.append_eq, List.cons_append, List.nil_append]
  refine RX.wp_region_plan (fun w w' => Below w.heap.size w w') [.it (.bool true), .it (.agg #[.int .u8 x.k, .int .i64 x.n, .int .i64 x.u, .string x.t]), .it (.agg #[.int .u8 y.k, .int .i64 y.n, .int .i64 y.u, .string y.t]), .it (.bool true), .it (.bool false), .it (.bool false), .it (.bool true), .it (.agg #[.int .u8 y.k, .int .i64 y.n, .int .i64 y.u, .string y.t]), .it (.agg #[.int .u8 x.k, .int .i64 x.n, .int .i64 x.u, .string x.t]), .it (.bool true), .it (.bool false), .it (.bool false), .it (.bool false), .it (.bool true), .it (.bool true), .it (.bool false), .it (.bool false), .it (.bool false), .it (.agg #[.int .u8 4, .int .i64 a, .int .i64 b, .string ⟨#[]⟩]), .it (.agg #[.int .u8 4, .int .i64 a, .int .i64 b, .string ⟨#[]⟩]), .it (.bool false), .it (.bool false), .it (.bool false), .it (.agg #[.int .u8 x.k, .int .i64 x.n, .int .i64 x.u, .string x.t]), .it (.agg #[.int .u8 x.k, .int .i64 x.n, .int .i64 x.u, .string x.t]), .it (.bool true), .it (.agg #[.int .u8 x.k, .int .i64 x.n, .int .i64 x.u, .string x.t]), .it (.bool true), .it (.bool false), .it (.bool false)] (by kernel_rfl) (by kernel_rfl) (fun _ => Below.refl _ _) (fun _ _ _ => below_tr) ?_
  refine RX.seqP_value (fun _ => Below.refl _ _) _ (by first | rfl | simp) (fun w' hw' hctx => by (go_simp); (try first | with_reducible rfl | simp)) ?_
  simp only [Act.put, List.setIfInBounds_toArray, List.set_cons_zero, List.set_cons_succ]
  refine RX.seqP_value (fun _ => Below.refl _ _) _ (by first | rfl | simp) (fun w' hw' hctx => ?_) ?_
  · obtain ⟨c0, c1, c2, c3, c4⟩ := JX2.out.below (below_tr hdr hw')
    go_simp
    try first | with_reducible rfl | simp
  simp only [Act.put, List.setIfInBounds_toArray, List.set_cons_zero, List.set_cons_succ]
  refine RX.seqP_value (fun _ => Below.refl _ _) _ (by first | rfl | simp) (fun w' hw' hctx => ?_) ?_
  · obtain ⟨c0, c1, c2, c3, c4⟩ := JY2.out.below (below_tr hdr hw')
    go_simp
    try first | with_reducible rfl | simp
  simp only [Act.put, List.setIfInBounds_toArray, List.set_cons_zero, List.set_cons_succ]
  refine RX.seqP_call (18) #[.agg #[.int .u8 x.k, .int .i64 x.n, .int .i64 x.u, .string x.t], .agg #[.int .u8 y.k, .int .i64 y.n, .int .i64 y.u, .string y.t]] (.bool true) (by first | rfl | simp) (fun w' hw' hctx => ?_) (fun w' hw' hctx => HM1.out w') ?_
  · go_simp
  simp only [Act.put, List.setIfInBounds_toArray, List.set_cons_zero, List.set_cons_succ]
  refine RX.seqP_value (fun _ => Below.refl _ _) _ (by first | rfl | simp) (fun w' hw' hctx => by (go_simp); (try first | with_reducible rfl | simp)) ?_
  simp only [Act.put, List.setIfInBounds_toArray, List.set_cons_zero, List.set_cons_succ]
  refine RX.seqP_value (fun _ => Below.refl _ _) _ (by first | rfl | simp) (fun w' hw' hctx => by (go_simp); (try first | with_reducible rfl | simp)) ?_
  simp only [Act.put, List.setIfInBounds_toArray, List.set_cons_zero, List.set_cons_succ]
  refine RX.seqP_value (fun _ => Below.refl _ _) _ (by first | rfl | simp) (fun w' hw' hctx => by (go_simp); (try first | with_reducible rfl | simp)) ?_
  simp only [Act.put, List.setIfInBounds_toArray, List.set_cons_zero, List.set_cons_succ]
  refine RX.seqP_value (fun _ => Below.refl _ _) _ (by first | rfl | simp) (fun w' hw' hctx => ?_) ?_
  · obtain ⟨c0, c1, c2, c3, c4⟩ := JY2.out.below (below_tr hdr hw')
    go_simp
    try first | with_reducible rfl | simp
  simp only [Act.put, List.setIfInBounds_toArray, List.set_cons_zero, List.set_cons_succ]
  refine RX.seqP_value (fun _ => Below.refl _ _) _ (by first | rfl | simp) (fun w' hw' hctx => ?_) ?_
  · obtain ⟨c0, c1, c2, c3, c4⟩ := JX2.out.below (below_tr hdr hw')
    go_simp
    try first | with_reducible rfl | simp
  simp only [Act.put, List.setIfInBounds_toArray, List.set_cons_zero, List.set_cons_succ]
  refine RX.seqP_call (18) #[.agg #[.int .u8 y.k, .int .i64 y.n, .int .i64 y.u, .string y.t], .agg #[.int .u8 x.k, .int .i64 x.n, .int .i64 x.u, .string x.t]] (.bool true) (by first | rfl | simp) (fun w' hw' hctx => ?_) (fun w' hw' hctx => HM2.out w') ?_
  · go_simp
  simp only [Act.put, List.setIfInBounds_toArray, List.set_cons_zero, List.set_cons_succ]
  refine RX.seqP_value (fun _ => Below.refl _ _) _ (by first | rfl | simp) (fun w' hw' hctx => by (go_simp); (try first | with_reducible rfl | simp)) ?_
  simp only [Act.put, List.setIfInBounds_toArray, List.set_cons_zero, List.set_cons_succ]
  refine RX.seqP_value (fun _ => Below.refl _ _) _ (by first | rfl | simp) (fun w' hw' hctx => by (go_simp); (try first | with_reducible rfl | simp)) ?_
  simp only [Act.put, List.setIfInBounds_toArray, List.set_cons_zero, List.set_cons_succ]
  refine RX.seqP_value (fun _ => Below.refl _ _) _ (by first | rfl | simp) (fun w' hw' hctx => by (go_simp); (try first | with_reducible rfl | simp)) ?_
  simp only [Act.put, List.setIfInBounds_toArray, List.set_cons_zero, List.set_cons_succ]
  refine RX.seqP_value (fun _ => Below.refl _ _) _ (by first | rfl | simp) (fun w' hw' hctx => by (go_simp); (try first | with_reducible rfl | simp)) ?_
  simp only [Act.put, List.setIfInBounds_toArray, List.set_cons_zero, List.set_cons_succ]
  refine RX.seqP_value (fun _ => Below.refl _ _) _ (by first | rfl | simp) (fun w' hw' hctx => by (go_simp); (try first | with_reducible rfl | simp)) ?_
  simp only [Act.put, List.setIfInBounds_toArray, List.set_cons_zero, List.set_cons_succ]
  refine RX.seqP_value (fun _ => Below.refl _ _) _ (by first | rfl | simp) (fun w' hw' hctx => by (go_simp); (try first | with_reducible rfl | simp)) ?_
  simp only [Act.put, List.setIfInBounds_toArray, List.set_cons_zero, List.set_cons_succ]
  refine RX.seqP_value (fun _ => Below.refl _ _) _ (by first | rfl | simp) (fun w' hw' hctx => by (go_simp); (try first | with_reducible rfl | simp)) ?_
  simp only [Act.put, List.setIfInBounds_toArray, List.set_cons_zero, List.set_cons_succ]
  refine RX.seqP_value (fun _ => Below.refl _ _) _ (by first | rfl | simp) (fun w' hw' hctx => by (go_simp); (try first | with_reducible rfl | simp)) ?_
  simp only [Act.put, List.setIfInBounds_toArray, List.set_cons_zero, List.set_cons_succ]
  refine RX.seqP_value (fun _ => Below.refl _ _) _ (by first | rfl | simp) (fun w' hw' hctx => ?_) ?_
  · obtain ⟨c0, c1, c2, c3, c4⟩ := Jc12.out.below (below_tr hdr hw')
    go_simp
    try first | with_reducible rfl | simp
  simp only [Act.put, List.setIfInBounds_toArray, List.set_cons_zero, List.set_cons_succ]
  refine RX.seqP_value (fun _ => Below.refl _ _) _ (by first | rfl | simp) (fun w' hw' hctx => ?_) ?_
  · obtain ⟨c0, c1, c2, c3, c4⟩ := HN2.out.below (below_tr hdr hw')
    go_simp
    try first | with_reducible rfl | simp
  simp only [Act.put, List.setIfInBounds_toArray, List.set_cons_zero, List.set_cons_succ]
  refine RX.seqP_value (fun _ => Below.refl _ _) _ (by first | rfl | simp) (fun w' hw' hctx => by (go_simp); (try first | with_reducible rfl | simp)) ?_
  simp only [Act.put, List.setIfInBounds_toArray, List.set_cons_zero, List.set_cons_succ]
  refine RX.seqP_value (fun _ => Below.refl _ _) _ (by first | rfl | simp) (fun w' hw' hctx => by (go_simp); (try first | with_reducible rfl | simp)) ?_
  simp only [Act.put, List.setIfInBounds_toArray, List.set_cons_zero, List.set_cons_succ]
  refine RX.seqP_value (fun _ => Below.refl _ _) _ (by first | rfl | simp) (fun w' hw' hctx => by (go_simp); (try first | with_reducible rfl | simp)) ?_
  simp only [Act.put, List.setIfInBounds_toArray, List.set_cons_zero, List.set_cons_succ]
  refine RX.seqP_value (fun _ => Below.refl _ _) _ (by first | rfl | simp) (fun w' hw' hctx => ?_) ?_
  · obtain ⟨c0, c1, c2, c3, c4⟩ := JX2.out.below (below_tr hdr hw')
    go_simp
    try first | with_reducible rfl | simp
  simp only [Act.put, List.setIfInBounds_toArray, List.set_cons_zero, List.set_cons_succ]
  refine RX.seqP_value (fun _ => Below.refl _ _) _ (by first | rfl | simp) (fun w' hw' hctx => ?_) ?_
  · obtain ⟨c0, c1, c2, c3, c4⟩ := JX2.out.below (below_tr hdr hw')
    go_simp
    try first | with_reducible rfl | simp
  simp only [Act.put, List.setIfInBounds_toArray, List.set_cons_zero, List.set_cons_succ]
  refine RX.seqP_call (18) #[.agg #[.int .u8 x.k, .int .i64 x.n, .int .i64 x.u, .string x.t], .agg #[.int .u8 x.k, .int .i64 x.n, .int .i64 x.u, .string x.t]] (.bool true) (by first | rfl | simp) (fun w' hw' hctx => ?_) (fun w' hw' hctx => HM3.out w') ?_
  · go_simp
  simp only [Act.put, List.setIfInBounds_toArray, List.set_cons_zero, List.set_cons_succ]
  refine RX.seqP_value (fun _ => Below.refl _ _) _ (by first | rfl | simp) (fun w' hw' hctx => ?_) ?_
  · obtain ⟨c0, c1, c2, c3, c4⟩ := JX2.out.below (below_tr hdr hw')
    go_simp
    try first | with_reducible rfl | simp
  simp only [Act.put, List.setIfInBounds_toArray, List.set_cons_zero, List.set_cons_succ]
  refine RX.seqP_call (14) #[.agg #[.int .u8 x.k, .int .i64 x.n, .int .i64 x.u, .string x.t]] (.bool true) (by first | rfl | simp) (fun w' hw' hctx => ?_) (fun w' hw' hctx => HK1.out w') ?_
  · go_simp
  simp only [Act.put, List.setIfInBounds_toArray, List.set_cons_zero, List.set_cons_succ]
  refine RX.seqP_value (fun _ => Below.refl _ _) _ (by first | rfl | simp) (fun w' hw' hctx => by (go_simp); (try first | with_reducible rfl | simp)) ?_
  simp only [Act.put, List.setIfInBounds_toArray, List.set_cons_zero, List.set_cons_succ]
  refine RX.seqP_value (fun _ => Below.refl _ _) _ (by first | rfl | simp) (fun w' hw' hctx => by (go_simp); (try first | with_reducible rfl | simp)) ?_
  simp only [Act.put, List.setIfInBounds_toArray, List.set_cons_zero, List.set_cons_succ]
  refine RX.seqP_nil (fun v1 hR hctx _ => ?_)
  have hv1 := below_tr hdr hR
  clear hctx hR
  have HV1 := Lib.hid (below_tr HB2.out hv1)
  have KX := Lib.hid (JX2.out.below hv1)
  have KY := Lib.hid (JY2.out.below hv1)
  have Kc1 := Lib.hid (Jc12.out.below hv1)
  have Kc2 := Lib.hid (HN2.out.below hv1)
  clear hv1 hdr
  go_wp2_with fail
  have hdr := below_drw v1
  try simp only [List.append_eq, List.cons_append, List.nil_append]
  refine RX.wp_region_plan (fun w w' => Below w.heap.size w w') [.it (.agg #[.int .u8 4, .int .i64 a, .int .i64 b, .string ⟨#[]⟩]), .it (.int .i64 n), .it (.bool false), .it (.agg #[.int .u8 x.k, .int .i64 x.n, .int .i64 x.u, .string x.t]), .it (.int .i64 n), .it (.bool false), .it (.bool false), .it undef, .it undef, .it undef, .it (.bool false), .it (.bool false)] (by kernel_rfl) (by kernel_rfl) (fun _ => Below.refl _ _) (fun _ _ _ => below_tr) ?_
  refine RX.seqP_value (fun _ => Below.refl _ _) _ (by first | rfl | simp) (fun w' hw' hctx => ?_) ?_
  · obtain ⟨c0, c1, c2, c3, c4⟩ := Kc1.out.below (below_tr hdr hw')
    go_simp
    try first | with_reducible rfl | simp
  simp only [Act.put, List.setIfInBounds_toArray, List.set_cons_zero, List.set_cons_succ]
  refine RX.seqP_value (fun _ => Below.refl _ _) _ (by first | rfl | simp) (fun w' hw' hctx => by (go_simp); (try first | with_reducible rfl | simp)) ?_
  simp only [Act.put, List.setIfInBounds_toArray, List.set_cons_zero, List.set_cons_succ]
  refine RX.seqP_call (16) #[.agg #[.int .u8 4, .int .i64 a, .int .i64 b, .string ⟨#[]⟩], .int .i64 n] (.bool false) (by first | rfl | simp) (fun w' hw' hctx => ?_) (fun w' hw' hctx => HHC.out w') ?_
  · go_simp
  simp only [Act.put, List.setIfInBounds_toArray, List.set_cons_zero, List.set_cons_succ]
  refine RX.seqP_value (fun _ => Below.refl _ _) _ (by first | rfl | simp) (fun w' hw' hctx => ?_) ?_
  · obtain ⟨c0, c1, c2, c3, c4⟩ := KX.out.below (below_tr hdr hw')
    go_simp
    try first | with_reducible rfl | simp
  simp only [Act.put, List.setIfInBounds_toArray, List.set_cons_zero, List.set_cons_succ]
  refine RX.seqP_value (fun _ => Below.refl _ _) _ (by first | rfl | simp) (fun w' hw' hctx => by (go_simp); (try first | with_reducible rfl | simp)) ?_
  simp only [Act.put, List.setIfInBounds_toArray, List.set_cons_zero, List.set_cons_succ]
  refine RX.seqP_call (16) #[.agg #[.int .u8 x.k, .int .i64 x.n, .int .i64 x.u, .string x.t], .int .i64 n] (.bool false) (by first | rfl | simp) (fun w' hw' hctx => ?_) (fun w' hw' hctx => HHX.out w') ?_
  · go_simp
  simp only [Act.put, List.setIfInBounds_toArray, List.set_cons_zero, List.set_cons_succ]
  refine RX.seqP_value (fun _ => Below.refl _ _) _ (by first | rfl | simp) (fun w' hw' hctx => by (go_simp); (try first | with_reducible rfl | simp)) ?_
  simp only [Act.put, List.setIfInBounds_toArray, List.set_cons_zero, List.set_cons_succ]
  refine RX.seqP_skip (by first | rfl | simp) ?_
  simp only [Act.put, List.setIfInBounds_toArray, List.set_cons_zero, List.set_cons_succ]
  refine RX.seqP_skip (by first | rfl | simp) ?_
  simp only [Act.put, List.setIfInBounds_toArray, List.set_cons_zero, List.set_cons_succ]
  refine RX.seqP_skip (by first | rfl | simp) ?_
  simp only [Act.put, List.setIfInBounds_toArray, List.set_cons_zero, List.set_cons_succ]
  refine RX.seqP_value (fun _ => Below.refl _ _) _ (by first | rfl | simp) (fun w' hw' hctx => by (go_simp); (try first | with_reducible rfl | simp)) ?_
  simp only [Act.put, List.setIfInBounds_toArray, List.set_cons_zero, List.set_cons_succ]
  refine RX.seqP_value (fun _ => Below.refl _ _) _ (by first | rfl | simp) (fun w' hw' hctx => by (go_simp); (try first | with_reducible rfl | simp)) ?_
  simp only [Act.put, List.setIfInBounds_toArray, List.set_cons_zero, List.set_cons_succ]
  refine RX.seqP_nil (fun v2 hR hctx _ => ?_)
  have hv2 := below_tr hdr hR
  clear hctx hR
  have HV2 := Lib.hid (below_tr HV1.out hv2)
  have MX := Lib.hid (KX.out.below hv2)
  have MY := Lib.hid (KY.out.below hv2)
  have Mc1 := Lib.hid (Kc1.out.below hv2)
  have Mc2 := Lib.hid (Kc2.out.below hv2)
  clear hv2 hdr
  obtain ⟨b0, b1, b2, b3, b4⟩ := MX.out
  obtain ⟨d0, d1, d2, d3, d4⟩ := MY.out
  obtain ⟨m0, m1, m2, m3, m4⟩ := Mc1.out
  go_wp2_with fail
  refine (HK1.out _).mono ?_
  rintro e v3 ⟨rfl, hv3⟩
  have hw3 := hv3
  clear b0 b1 b2 b3 b4 d0 d1 d2 d3 d4 m0 m1 m2 m3 m4
  obtain ⟨b0, b1, b2, b3, b4⟩ := MX.out.below hw3
  obtain ⟨d0, d1, d2, d3, d4⟩ := MY.out.below hw3
  obtain ⟨m0, m1, m2, m3, m4⟩ := Mc1.out.below hw3
  go_wp2_with fail
  refine (HK2.out _).mono ?_
  rintro e v4 ⟨rfl, hv4⟩
  have hw4 := below_tr hw3 hv4
  clear b0 b1 b2 b3 b4 d0 d1 d2 d3 d4 m0 m1 m2 m3 m4
  obtain ⟨b0, b1, b2, b3, b4⟩ := MX.out.below hw4
  obtain ⟨d0, d1, d2, d3, d4⟩ := MY.out.below hw4
  obtain ⟨m0, m1, m2, m3, m4⟩ := Mc1.out.below hw4
  go_wp2_with fail
  refine (HKC.out _).mono ?_
  rintro e v5 ⟨rfl, hv5⟩
  have hw5 := below_tr hw4 hv5
  clear b0 b1 b2 b3 b4 d0 d1 d2 d3 d4 m0 m1 m2 m3 m4
  obtain ⟨b0, b1, b2, b3, b4⟩ := MX.out.below hw5
  obtain ⟨d0, d1, d2, d3, d4⟩ := MY.out.below hw5
  obtain ⟨m0, m1, m2, m3, m4⟩ := Mc1.out.below hw5
  go_wp2_with fail
  refine (HXA.out _).mono ?_
  rintro e v6 ⟨rfl, hv6⟩
  have hw6 := below_tr hw5 hv6
  clear b0 b1 b2 b3 b4 d0 d1 d2 d3 d4 m0 m1 m2 m3 m4
  obtain ⟨b0, b1, b2, b3, b4⟩ := MX.out.below hw6
  obtain ⟨d0, d1, d2, d3, d4⟩ := MY.out.below hw6
  obtain ⟨m0, m1, m2, m3, m4⟩ := Mc1.out.below hw6
  go_wp2_with fail
  refine (HYA.out _).mono ?_
  rintro e v7 ⟨rfl, hv7⟩
  have hw7 := below_tr hw6 hv7
  clear b0 b1 b2 b3 b4 d0 d1 d2 d3 d4 m0 m1 m2 m3 m4
  obtain ⟨b0, b1, b2, b3, b4⟩ := MX.out.below hw7
  obtain ⟨d0, d1, d2, d3, d4⟩ := MY.out.below hw7
  obtain ⟨m0, m1, m2, m3, m4⟩ := Mc1.out.below hw7
  go_wp2_with fail
  refine (HXB.out _).mono ?_
  rintro e v8 ⟨rfl, hv8⟩
  have hw8 := below_tr hw7 hv8
  clear b0 b1 b2 b3 b4 d0 d1 d2 d3 d4 m0 m1 m2 m3 m4
  obtain ⟨b0, b1, b2, b3, b4⟩ := MX.out.below hw8
  obtain ⟨d0, d1, d2, d3, d4⟩ := MY.out.below hw8
  obtain ⟨m0, m1, m2, m3, m4⟩ := Mc1.out.below hw8
  go_wp2_with fail
  refine (HYB.out _).mono ?_
  rintro e v9 ⟨rfl, hv9⟩
  have hw9 := below_tr hw8 hv9
  clear b0 b1 b2 b3 b4 d0 d1 d2 d3 d4 m0 m1 m2 m3 m4
  obtain ⟨b0, b1, b2, b3, b4⟩ := MX.out.below hw9
  obtain ⟨d0, d1, d2, d3, d4⟩ := MY.out.below hw9
  obtain ⟨m0, m1, m2, m3, m4⟩ := Mc1.out.below hw9
  go_wp2_with fail
  go_ret
  exact ⟨rfl, below_tr HV2.out hw9⟩

theorem both_any (x y : Val) (n : Int) (w : World) (hx0 : I64 x.n ∧ I64 x.u ∧ x.t.size ≤ maxLen) (hy0 : I64 y.n ∧ I64 y.u ∧ y.t.size ≤ maxLen) (_hn : I64 n) :
    Calls Try.prog 6 #[.agg #[.int .u8 x.k, .int .i64 x.n, .int .i64 x.u, .string x.t], .agg #[.int .u8 y.k, .int .i64 y.n, .int .i64 y.u, .string y.t], .int .i64 n] w fun e w' => e = .returned (.bool true) ∧ Below w.heap.size w w' := by
  rcases Nat.lt_or_ge 1000 x.t.size with hs | hs
  · exact both_a x y n hs w
  rcases Nat.lt_or_ge 1000 y.t.size with ht | ht
  · exact both_b x y n hs ht w
  cases hx : okS x
  · exact both_1 x y n hs ht hx w
  cases hy : okS y
  · cases hp : hasS x n
    · exact both_2f x y n hs ht hx hy hp w
    · exact both_2t x y n hs ht hx hy hp w
  cases hm : meetS x y
  · have hcz := hasS_com x y n
    rw [comS_no hm] at hcz
    have hz : hasS Val.zero n = false := by rw [hasS, okS_zero]; rfl
    rw [hz] at hcz
    have ho : x.u ≤ y.n ∨ (y.n < x.u ∧ y.u ≤ x.n) := by
      rcases Int.lt_or_le y.n x.u with h | h
      · rcases Int.lt_or_le x.n y.u with h2 | h2
        · have : meetS x y = true := meetS_iff.2 ⟨hx, hy, h2, h⟩
          rw [hm] at this; cases this
        · exact .inr ⟨h, h2⟩
      · exact .inl h
    cases hp : hasS x n
    · rcases ho with ho | ⟨ho1, ho⟩
      · exact both_3f0 x y n hs ht hx hy hm hp ho w
      · exact both_3f1 x y n hs ht hx hy hm hp ho1 ho w
    · have hq : hasS y n = false := by
        rw [hp] at hcz
        simpa using hcz.symm
      rcases ho with ho | ⟨ho1, ho⟩
      · exact both_3t0 x y n hs ht hx hy hm hp hq ho w
      · exact both_3t1 x y n hs ht hx hy hm hp hq ho1 ho w
  · have hcm : comS x y = spanV (max x.n y.n) (min x.u y.u) := by unfold comS; rw [hm]; rfl
    obtain ⟨a, ha⟩ : ∃ a, max x.n y.n = a := ⟨_, rfl⟩
    obtain ⟨b, hb⟩ : ∃ b, min x.u y.u = b := ⟨_, rfl⟩
    rw [ha, hb] at hcm
    have h4 := meetS_iff.1 hm
    have hlx := okS_lt hx
    have hly := okS_lt hy
    have hab : okS (spanV a b) = true := by rw [okS_span]; simp; omega
    have e1 : hasS x a = true := hasS_iff.2 ⟨hx, by omega, by omega⟩
    have e2 : hasS y a = true := hasS_iff.2 ⟨hy, by omega, by omega⟩
    have e3 : hasS x (b - 1) = true := hasS_iff.2 ⟨hx, by omega, by omega⟩
    have e4 : hasS y (b - 1) = true := hasS_iff.2 ⟨hy, by omega, by omega⟩
    have e5 : I64 (b - 1) := by unfold I64 at *; omega
    cases hp : hasS x n
    · exact both_4f x y n hs ht a b hcm hx hy hm hab e1 e2 e3 e4 e5 hp w
    · exact both_4t x y n hs ht a b hcm hx hy hm hab e1 e2 e3 e4 e5 hp _ rfl w
end Go.Proofs.Ytnifpphimodonaa
