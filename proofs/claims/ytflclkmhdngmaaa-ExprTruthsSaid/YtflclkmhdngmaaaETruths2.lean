/-
  ExprTruths: the walk where no guard holds; and all cases together.
-/
import Derived.Test.YtflclkmhdngmaaaETruths
namespace Go.Proofs.Ytflclkmhdngmaaa
open Go.RowKit

set_option maxRecDepth 100000 in
set_option maxHeartbeats 20000000 in
theorem truths_6 (a b : Ex) (r : Rw) (w : World) (ha : a.In w) (hb0 : b.In w) (hr : r.In w) (hla : decide (500 < a.sz) = false) (hlb : decide (500 < b.sz) = false) (hlr : decide (500 < r.len) = false) (hm1 : validB mayV hasAny (mk1 4 (mk2 11 a b)) = true) (hm2 : validB mayV hasAny (mk2 11 (mk1 4 a) (mk1 4 b)) = true) (va vb x y z : Val) (fa fb fx fy fz : Int)
    (ea : evalR r a = (va, fa)) (eb : evalR r b = (vb, fb)) (ex : evalR r (mk1 4 (mk2 11 a b)) = (x, fx)) (ey : evalR r (mk2 12 (mk1 4 a) (mk1 4 b)) = (y, fy)) (ez : evalR r (mk2 12 b a) = (z, fz)) :
    Calls Try.prog 7 #[.agg #[.int .u8 a.op, .int .u8 a.v.k, .int .i64 a.v.n, .int .i64 a.v.u, .string a.v.t, .int .i64 a.m, .slice a.a a.len a.cap], .agg #[.int .u8 b.op, .int .u8 b.v.k, .int .i64 b.v.n, .int .i64 b.v.u, .string b.v.t, .int .i64 b.m, .slice b.a b.len b.cap], .slice r.a r.len r.cap] w fun x w' => x = .returned (.bool true) ∧ Below w.heap.size w w' := by
  have MATH := Lib.hid (truths_math r a b hm1 hm2)
  rw [ea, eb, ex, ey, ez] at MATH
  dsimp only at MATH
  have EA := Lib.hid ea
  have EB := Lib.hid eb
  have EX := Lib.hid ex
  have EY := Lib.hid ey
  have EZ := Lib.hid ez
  clear ea eb ex ey ez
  obtain ⟨W, g, hW, hg, BA, BB, hb, hs⟩ := boxAB w a b
  have HA := Lib.hid BA
  have HBX := Lib.hid BB
  have HW := Lib.hid hb
  have HIA := Lib.hid (ha.below hb)
  have HIB := Lib.hid (hb0.below hb)
  have HR := Lib.hid (hr.below hb)
  have HLA := Lib.hid hla
  have HLB := Lib.hid hlb
  have HLR := Lib.hid hlr
  have HM1 := Lib.hid hm1
  have HM2 := Lib.hid hm2
  have hlr1 : decide ((500 : Int) < (r.len : Int)) = false := by rw [← HLR.out, decide_eq_decide]; omega
  clear ha hb0 hr hb BA BB hs hla hlb hlr hm1 hm2
  go_enter Try.func7, Try.ntmps7
  go_wp2_with fail
  have hdr := below_drw W
  try simp only [List.append_eq, List.cons_append, List.nil_append]
  refine RX.wp_region_plan (fun w w' => Below w.heap.size w w') [.it (.bool true), .it (.bool false), .it (.bool false), .it (.agg #[.int .u8 a.op, .int .u8 a.v.k, .int .i64 a.v.n, .int .i64 a.v.u, .string a.v.t, .int .i64 a.m, .slice a.a a.len a.cap]), .it (.bool false), .it (.bool false), .it (.bool false), .it (.agg #[.int .u8 b.op, .int .u8 b.v.k, .int .i64 b.v.n, .int .i64 b.v.u, .string b.v.t, .int .i64 b.m, .slice b.a b.len b.cap]), .it (.bool false), .it (.bool false), .it (.bool false), .it (.slice r.a r.len r.cap), .it (.int .i64 r.len), .it (.bool false), .it (.bool false), .it (.bool false), .it (.agg #[.int .u8 a.op, .int .u8 a.v.k, .int .i64 a.v.n, .int .i64 a.v.u, .string a.v.t, .int .i64 a.m, .slice a.a a.len a.cap]), .it (.agg #[.int .u8 b.op, .int .u8 b.v.k, .int .i64 b.v.n, .int .i64 b.v.u, .string b.v.t, .int .i64 b.m, .slice b.a b.len b.cap]), .of (IsS 2 (fun i => if i = 0 then a else b)), .of (IsE (mk2 11 a b)), .of (IsS 1 (fun _ => (mk2 11 a b))), .of (IsE (mk1 4 (mk2 11 a b))), .it (.bool true), .it (.bool false), .it (.bool false), .it (.bool false), .it (.agg #[.int .u8 a.op, .int .u8 a.v.k, .int .i64 a.v.n, .int .i64 a.v.u, .string a.v.t, .int .i64 a.m, .slice a.a a.len a.cap]), .of (IsS 1 (fun _ => a)), .of (IsE (mk1 4 a)), .it (.agg #[.int .u8 b.op, .int .u8 b.v.k, .int .i64 b.v.n, .int .i64 b.v.u, .string b.v.t, .int .i64 b.m, .slice b.a b.len b.cap]), .of (IsS 1 (fun _ => b)), .of (IsE (mk1 4 b)), .of (IsS 2 (fun i => if i = 0 then (mk1 4 a) else (mk1 4 b))), .of (IsE (mk2 11 (mk1 4 a) (mk1 4 b))), .it (.bool true), .it (.bool false), .it (.bool false)] (by kernel_rfl) (by kernel_rfl) (fun _ => Below.refl _ _) (fun _ _ _ => below_tr) ?_
  refine RX.seqP_call (8) #[] (.bool true) (by first | rfl | simp) (fun w' hw' hctx => ?_) (fun w' hw' hctx => works_is w') ?_
  · go_simp
  simp only [Act.put, List.setIfInBounds_toArray, List.set_cons_zero, List.set_cons_succ]
  refine RX.seqP_value (fun _ => Below.refl _ _) _ (by first | rfl | simp) (fun w' hw' hctx => by (go_simp); (try first | with_reducible rfl | simp)) ?_
  simp only [Act.put, List.setIfInBounds_toArray, List.set_cons_zero, List.set_cons_succ]
  refine RX.seqP_value (fun _ => Below.refl _ _) _ (by first | rfl | simp) (fun w' hw' hctx => by (go_simp); (try first | with_reducible rfl | simp)) ?_
  simp only [Act.put, List.setIfInBounds_toArray, List.set_cons_zero, List.set_cons_succ]
  refine RX.seqP_value (fun _ => Below.refl _ _) _ (by first | rfl | simp) (fun w' hw' hctx => ?_) ?_
  · obtain ⟨c0, c1, c2, c3, c4, c5, c6, c7⟩ := HA.out.below (below_tr hdr hw')
    go_simp
    try first | with_reducible rfl | simp
  simp only [Act.put, List.setIfInBounds_toArray, List.set_cons_zero, List.set_cons_succ]
  refine RX.seqP_call (9) #[.agg #[.int .u8 a.op, .int .u8 a.v.k, .int .i64 a.v.n, .int .i64 a.v.u, .string a.v.t, .int .i64 a.m, .slice a.a a.len a.cap]] (.bool false) (by first | rfl | simp) (fun w' hw' hctx => ?_) (fun w' hw' hctx => large_is a w' (HIA.out.below (below_tr hdr hw')) false HLA.out) ?_
  · go_simp
  simp only [Act.put, List.setIfInBounds_toArray, List.set_cons_zero, List.set_cons_succ]
  refine RX.seqP_value (fun _ => Below.refl _ _) _ (by first | rfl | simp) (fun w' hw' hctx => by (go_simp); (try first | with_reducible rfl | simp)) ?_
  simp only [Act.put, List.setIfInBounds_toArray, List.set_cons_zero, List.set_cons_succ]
  refine RX.seqP_value (fun _ => Below.refl _ _) _ (by first | rfl | simp) (fun w' hw' hctx => by (go_simp); (try first | with_reducible rfl | simp)) ?_
  simp only [Act.put, List.setIfInBounds_toArray, List.set_cons_zero, List.set_cons_succ]
  refine RX.seqP_value (fun _ => Below.refl _ _) _ (by first | rfl | simp) (fun w' hw' hctx => ?_) ?_
  · obtain ⟨c0, c1, c2, c3, c4, c5, c6, c7⟩ := HBX.out.below (below_tr hdr hw')
    go_simp
    try first | with_reducible rfl | simp
  simp only [Act.put, List.setIfInBounds_toArray, List.set_cons_zero, List.set_cons_succ]
  refine RX.seqP_call (9) #[.agg #[.int .u8 b.op, .int .u8 b.v.k, .int .i64 b.v.n, .int .i64 b.v.u, .string b.v.t, .int .i64 b.m, .slice b.a b.len b.cap]] (.bool false) (by first | rfl | simp) (fun w' hw' hctx => ?_) (fun w' hw' hctx => large_is b w' (HIB.out.below (below_tr hdr hw')) false HLB.out) ?_
  · go_simp
  simp only [Act.put, List.setIfInBounds_toArray, List.set_cons_zero, List.set_cons_succ]
  refine RX.seqP_value (fun _ => Below.refl _ _) _ (by first | rfl | simp) (fun w' hw' hctx => by (go_simp); (try first | with_reducible rfl | simp)) ?_
  simp only [Act.put, List.setIfInBounds_toArray, List.set_cons_zero, List.set_cons_succ]
  refine RX.seqP_value (fun _ => Below.refl _ _) _ (by first | rfl | simp) (fun w' hw' hctx => by (go_simp); (try first | with_reducible rfl | simp)) ?_
  simp only [Act.put, List.setIfInBounds_toArray, List.set_cons_zero, List.set_cons_succ]
  refine RX.seqP_value (fun _ => Below.refl _ _) _ (by first | rfl | simp) (fun w' hw' hctx => by (go_simp); (try first | with_reducible rfl | simp)) ?_
  simp only [Act.put, List.setIfInBounds_toArray, List.set_cons_zero, List.set_cons_succ]
  refine RX.seqP_value (fun _ => Below.refl _ _) _ (by first | rfl | simp) (fun w' hw' hctx => by (go_simp); (try first | with_reducible rfl | simp)) ?_
  simp only [Act.put, List.setIfInBounds_toArray, List.set_cons_zero, List.set_cons_succ]
  refine RX.seqP_value (fun _ => Below.refl _ _) _ (by first | rfl | simp) (fun w' hw' hctx => by (go_simp); (try first | with_reducible rfl | simp)) ?_
  simp only [Act.put, List.setIfInBounds_toArray, List.set_cons_zero, List.set_cons_succ]
  refine RX.seqP_value (fun _ => Below.refl _ _) _ (by first | rfl | simp) (fun w' hw' hctx => by (go_simp); (try first | with_reducible rfl | simp)) ?_
  simp only [Act.put, List.setIfInBounds_toArray, List.set_cons_zero, List.set_cons_succ]
  refine RX.seqP_value (fun _ => Below.refl _ _) _ (by first | rfl | simp) (fun w' hw' hctx => by (go_simp); (try first | with_reducible rfl | simp)) ?_
  simp only [Act.put, List.setIfInBounds_toArray, List.set_cons_zero, List.set_cons_succ]
  refine RX.seqP_value (fun _ => Below.refl _ _) _ (by first | rfl | simp) (fun w' hw' hctx => ?_) ?_
  · obtain ⟨c0, c1, c2, c3, c4, c5, c6, c7⟩ := HA.out.below (below_tr hdr hw')
    go_simp
    try first | with_reducible rfl | simp
  simp only [Act.put, List.setIfInBounds_toArray, List.set_cons_zero, List.set_cons_succ]
  refine RX.seqP_value (fun _ => Below.refl _ _) _ (by first | rfl | simp) (fun w' hw' hctx => ?_) ?_
  · obtain ⟨c0, c1, c2, c3, c4, c5, c6, c7⟩ := HBX.out.below (below_tr hdr hw')
    go_simp
    try first | with_reducible rfl | simp
  simp only [Act.put, List.setIfInBounds_toArray, List.set_cons_zero, List.set_cons_succ]
  refine RX.seqP_make (IsS 2 (fun i => if i = 0 then a else b)) (fun w w' v hb h => h.below hb) (by first | rfl | simp) (fun w' hw' hctx => ?_) (fun u18 => ?_)
  · exact ⟨.slice (some ⟨w'.heap.size, 0, none⟩) 2 2, w'.alloc (.cells #[.int .u8 a.op, .int .u8 a.v.k, .int .i64 a.v.n, .int .i64 a.v.u, .string a.v.t, .int .i64 a.m, .slice a.a a.len a.cap, .int .u8 b.op, .int .u8 b.v.k, .int .i64 b.v.n, .int .i64 b.v.u, .string b.v.t, .int .i64 b.m, .slice b.a b.len b.cap] 26), by go_simp, Below.allocs _ _, isS2_new w' a a b b (HIA.out.below (below_tr hdr hw')) (Same.refl _) (HIB.out.below (below_tr hdr hw')) (Same.refl _)⟩
  simp only [Act.put, List.setIfInBounds_toArray, List.set_cons_zero, List.set_cons_succ]
  refine RX.seqP_callOf (20) #[.int .u8 11, u18] (IsE (mk2 11 a b)) (fun w w' v hb h => h.below hb) (by first | rfl | simp) (fun w' hw' hctx => ?_) (fun w' hw' hctx => of2_is 11 (by decide) (by decide) _ _ w' hctx.1) (fun u19 => ?_)
  · go_simp
  simp only [Act.put, List.setIfInBounds_toArray, List.set_cons_zero, List.set_cons_succ]
  refine RX.seqP_make (IsS 1 (fun _ => (mk2 11 a b))) (fun w w' v hb h => h.below hb) (by first | rfl | simp) (fun w' hw' hctx => ?_) (fun u20 => ?_)
  · obtain ⟨e0, rfl, hin0, hs0⟩ := hctx.1
    exact ⟨.slice (some ⟨w'.heap.size, 0, none⟩) 1 1, w'.alloc (.cells #[.int .u8 e0.op, .int .u8 e0.v.k, .int .i64 e0.v.n, .int .i64 e0.v.u, .string e0.v.t, .int .i64 e0.m, .slice e0.a e0.len e0.cap] 26), by go_simp, Below.allocs _ _, isS1_new w' e0 (mk2 11 a b) hin0 hs0⟩
  simp only [Act.put, List.setIfInBounds_toArray, List.set_cons_zero, List.set_cons_succ]
  refine RX.seqP_callOf (20) #[.int .u8 4, u20] (IsE (mk1 4 (mk2 11 a b))) (fun w w' v hb h => h.below hb) (by first | rfl | simp) (fun w' hw' hctx => ?_) (fun w' hw' hctx => of1_is 4 (by decide) (by decide) _ _ w' hctx.1) (fun u21 => ?_)
  · go_simp
  simp only [Act.put, List.setIfInBounds_toArray, List.set_cons_zero, List.set_cons_succ]
  refine RX.seqP_call (19) #[u21] (.bool true) (by first | rfl | simp) (fun w' hw' hctx => ?_) (fun w' hw' hctx => may_of _ true HM1.out _ w' hctx.1) ?_
  · go_simp
  simp only [Act.put, List.setIfInBounds_toArray, List.set_cons_zero, List.set_cons_succ]
  refine RX.seqP_value (fun _ => Below.refl _ _) _ (by first | rfl | simp) (fun w' hw' hctx => by (go_simp); (try first | with_reducible rfl | simp)) ?_
  simp only [Act.put, List.setIfInBounds_toArray, List.set_cons_zero, List.set_cons_succ]
  refine RX.seqP_value (fun _ => Below.refl _ _) _ (by first | rfl | simp) (fun w' hw' hctx => by (go_simp); (try first | with_reducible rfl | simp)) ?_
  simp only [Act.put, List.setIfInBounds_toArray, List.set_cons_zero, List.set_cons_succ]
  refine RX.seqP_value (fun _ => Below.refl _ _) _ (by first | rfl | simp) (fun w' hw' hctx => by (go_simp); (try first | with_reducible rfl | simp)) ?_
  simp only [Act.put, List.setIfInBounds_toArray, List.set_cons_zero, List.set_cons_succ]
  refine RX.seqP_value (fun _ => Below.refl _ _) _ (by first | rfl | simp) (fun w' hw' hctx => ?_) ?_
  · obtain ⟨c0, c1, c2, c3, c4, c5, c6, c7⟩ := HA.out.below (below_tr hdr hw')
    go_simp
    try first | with_reducible rfl | simp
  simp only [Act.put, List.setIfInBounds_toArray, List.set_cons_zero, List.set_cons_succ]
  refine RX.seqP_make (IsS 1 (fun _ => a)) (fun w w' v hb h => h.below hb) (by first | rfl | simp) (fun w' hw' hctx => ?_) (fun u27 => ?_)
  · exact ⟨.slice (some ⟨w'.heap.size, 0, none⟩) 1 1, w'.alloc (.cells #[.int .u8 a.op, .int .u8 a.v.k, .int .i64 a.v.n, .int .i64 a.v.u, .string a.v.t, .int .i64 a.m, .slice a.a a.len a.cap] 26), by go_simp, Below.allocs _ _, isS1_new w' a a (HIA.out.below (below_tr hdr hw')) (Same.refl _)⟩
  simp only [Act.put, List.setIfInBounds_toArray, List.set_cons_zero, List.set_cons_succ]
  refine RX.seqP_callOf (20) #[.int .u8 4, u27] (IsE (mk1 4 a)) (fun w w' v hb h => h.below hb) (by first | rfl | simp) (fun w' hw' hctx => ?_) (fun w' hw' hctx => of1_is 4 (by decide) (by decide) _ _ w' hctx.1) (fun u28 => ?_)
  · go_simp
  simp only [Act.put, List.setIfInBounds_toArray, List.set_cons_zero, List.set_cons_succ]
  refine RX.seqP_value (fun _ => Below.refl _ _) _ (by first | rfl | simp) (fun w' hw' hctx => ?_) ?_
  · obtain ⟨c0, c1, c2, c3, c4, c5, c6, c7⟩ := HBX.out.below (below_tr hdr hw')
    go_simp
    try first | with_reducible rfl | simp
  simp only [Act.put, List.setIfInBounds_toArray, List.set_cons_zero, List.set_cons_succ]
  refine RX.seqP_make (IsS 1 (fun _ => b)) (fun w w' v hb h => h.below hb) (by first | rfl | simp) (fun w' hw' hctx => ?_) (fun u30 => ?_)
  · exact ⟨.slice (some ⟨w'.heap.size, 0, none⟩) 1 1, w'.alloc (.cells #[.int .u8 b.op, .int .u8 b.v.k, .int .i64 b.v.n, .int .i64 b.v.u, .string b.v.t, .int .i64 b.m, .slice b.a b.len b.cap] 26), by go_simp, Below.allocs _ _, isS1_new w' b b (HIB.out.below (below_tr hdr hw')) (Same.refl _)⟩
  simp only [Act.put, List.setIfInBounds_toArray, List.set_cons_zero, List.set_cons_succ]
  refine RX.seqP_callOf (20) #[.int .u8 4, u30] (IsE (mk1 4 b)) (fun w w' v hb h => h.below hb) (by first | rfl | simp) (fun w' hw' hctx => ?_) (fun w' hw' hctx => of1_is 4 (by decide) (by decide) _ _ w' hctx.1) (fun u31 => ?_)
  · go_simp
  simp only [Act.put, List.setIfInBounds_toArray, List.set_cons_zero, List.set_cons_succ]
  refine RX.seqP_make (IsS 2 (fun i => if i = 0 then (mk1 4 a) else (mk1 4 b))) (fun w w' v hb h => h.below hb) (by first | rfl | simp) (fun w' hw' hctx => ?_) (fun u32 => ?_)
  · obtain ⟨e0, rfl, hin0, hs0⟩ := hctx.2.2.1
    obtain ⟨e1, rfl, hin1, hs1⟩ := hctx.1
    exact ⟨.slice (some ⟨w'.heap.size, 0, none⟩) 2 2, w'.alloc (.cells #[.int .u8 e0.op, .int .u8 e0.v.k, .int .i64 e0.v.n, .int .i64 e0.v.u, .string e0.v.t, .int .i64 e0.m, .slice e0.a e0.len e0.cap, .int .u8 e1.op, .int .u8 e1.v.k, .int .i64 e1.v.n, .int .i64 e1.v.u, .string e1.v.t, .int .i64 e1.m, .slice e1.a e1.len e1.cap] 26), by go_simp, Below.allocs _ _, isS2_new w' e0 (mk1 4 a) e1 (mk1 4 b) hin0 hs0 hin1 hs1⟩
  simp only [Act.put, List.setIfInBounds_toArray, List.set_cons_zero, List.set_cons_succ]
  refine RX.seqP_callOf (20) #[.int .u8 11, u32] (IsE (mk2 11 (mk1 4 a) (mk1 4 b))) (fun w w' v hb h => h.below hb) (by first | rfl | simp) (fun w' hw' hctx => ?_) (fun w' hw' hctx => of2_is 11 (by decide) (by decide) _ _ w' hctx.1) (fun u33 => ?_)
  · go_simp
  simp only [Act.put, List.setIfInBounds_toArray, List.set_cons_zero, List.set_cons_succ]
  refine RX.seqP_call (19) #[u33] (.bool true) (by first | rfl | simp) (fun w' hw' hctx => ?_) (fun w' hw' hctx => may_of _ true HM2.out _ w' hctx.1) ?_
  · go_simp
  simp only [Act.put, List.setIfInBounds_toArray, List.set_cons_zero, List.set_cons_succ]
  refine RX.seqP_value (fun _ => Below.refl _ _) _ (by first | rfl | simp) (fun w' hw' hctx => by (go_simp); (try first | with_reducible rfl | simp)) ?_
  simp only [Act.put, List.setIfInBounds_toArray, List.set_cons_zero, List.set_cons_succ]
  refine RX.seqP_value (fun _ => Below.refl _ _) _ (by first | rfl | simp) (fun w' hw' hctx => by (go_simp); (try first | with_reducible rfl | simp)) ?_
  simp only [Act.put, List.setIfInBounds_toArray, List.set_cons_zero, List.set_cons_succ]
  refine RX.seqP_nil (fun v1 hR hctx _ => ?_)
  have hv1 := below_tr hdr hR
  clear hctx hR
  have HA1 := Lib.hid (HA.out.below hv1)
  have HB1 := Lib.hid (HBX.out.below hv1)
  have HIA1 := Lib.hid (HIA.out.below hv1)
  have HIB1 := Lib.hid (HIB.out.below hv1)
  have HR1 := Lib.hid (HR.out.below hv1)
  have HW1 := Lib.hid (below_tr HW.out hv1)
  clear HA HBX HIA HIB HR HW
  clear hv1 hdr HLA HLB HLR hlr1 HM1 HM2 hW
  obtain ⟨c0, c1, c2, c3, c4, c5, c6, c7⟩ := HA1.out
  go_wp2_with fail
  clear c0 c1 c2 c3 c4 c5 c6 c7
  refine (eval_is a r _ HIA1.out HR1.out va fa EA.out).mono ?_
  rintro _ Ua ⟨rfl, hUa⟩
  obtain ⟨Va, ga, hVa, hga, BVa, hbVa⟩ := boxX Ua va
  have hUVa := below_tr hUa hbVa
  have HA2 := Lib.hid (HA1.out.below hUVa)
  have HB2 := Lib.hid (HB1.out.below hUVa)
  have HIA2 := Lib.hid (HIA1.out.below hUVa)
  have HIB2 := Lib.hid (HIB1.out.below hUVa)
  have HR2 := Lib.hid (HR1.out.below hUVa)
  have HW2 := Lib.hid (below_tr HW1.out hUVa)
  clear HA1 HB1 HIA1 HIB1 HR1 HW1
  clear hUa hbVa hUVa BVa
  obtain ⟨c0, c1, c2, c3, c4, c5, c6, c7⟩ := HB2.out
  go_wp2_with fail
  clear c0 c1 c2 c3 c4 c5 c6 c7
  refine (eval_is b r _ HIB2.out HR2.out vb fb EB.out).mono ?_
  rintro _ Ub ⟨rfl, hUb⟩
  obtain ⟨Vb, gb, hVb, hgb, BVb, hbVb⟩ := boxX Ub vb
  have hUVb := below_tr hUb hbVb
  have HA3 := Lib.hid (HA2.out.below hUVb)
  have HB3 := Lib.hid (HB2.out.below hUVb)
  have HIA3 := Lib.hid (HIA2.out.below hUVb)
  have HIB3 := Lib.hid (HIB2.out.below hUVb)
  have HR3 := Lib.hid (HR2.out.below hUVb)
  have HW3 := Lib.hid (below_tr HW2.out hUVb)
  clear HA2 HB2 HIA2 HIB2 HR2 HW2
  clear hUb hbVb hUVb BVb
  obtain ⟨c0, c1, c2, c3, c4, c5, c6, c7⟩ := HA3.out
  obtain ⟨d0, d1, d2, d3, d4, d5, d6, d7⟩ := HB3.out
  go_wp2_with fail
  clear c0 c1 c2 c3 c4 c5 c6 c7 d0 d1 d2 d3 d4 d5 d6 d7 hVa hVb
  refine (of2_is 11 (by decide) (by decide) _ _ _ (isS2_new Vb a a b b HIA3.out (Same.refl _) HIB3.out (Same.refl _))).mono ?_
  rintro _ Up ⟨_, rfl, hUp, ep, rfl, hinp, hsp⟩
  have hUVp := below_tr (Below.allocs _ _) hUp
  have HA4 := Lib.hid (HA3.out.below hUVp)
  have HB4 := Lib.hid (HB3.out.below hUVp)
  have HIA4 := Lib.hid (HIA3.out.below hUVp)
  have HIB4 := Lib.hid (HIB3.out.below hUVp)
  have HR4 := Lib.hid (HR3.out.below hUVp)
  have HW4 := Lib.hid (below_tr HW3.out hUVp)
  clear HA3 HB3 HIA3 HIB3 HR3 HW3
  clear hUp hUVp
  go_wp2_with fail
  refine (of1_is 4 (by decide) (by decide) _ _ _ (isS1_new Up ep (mk2 11 a b) hinp hsp)).mono ?_
  rintro _ Uq ⟨_, rfl, hUq, eq, rfl, hinq, hsq⟩
  have hUVq := below_tr (Below.allocs _ _) hUq
  have HA5 := Lib.hid (HA4.out.below hUVq)
  have HB5 := Lib.hid (HB4.out.below hUVq)
  have HIA5 := Lib.hid (HIA4.out.below hUVq)
  have HIB5 := Lib.hid (HIB4.out.below hUVq)
  have HR5 := Lib.hid (HR4.out.below hUVq)
  have HW5 := Lib.hid (below_tr HW4.out hUVq)
  clear HA4 HB4 HIA4 HIB4 HR4 HW4
  clear hUq hUVq
  go_wp2_with fail
  refine (eval_of (mk1 4 (mk2 11 a b)) r x fx EX.out _ _ ⟨eq, rfl, hinq, hsq⟩ HR5.out).mono ?_
  rintro _ Ux ⟨rfl, hUx⟩
  obtain ⟨Vx, gx, hVx, hgx, BVx, hbVx⟩ := boxX Ux x
  have hUVx := below_tr hUx hbVx
  have HA6 := Lib.hid (HA5.out.below hUVx)
  have HB6 := Lib.hid (HB5.out.below hUVx)
  have HIA6 := Lib.hid (HIA5.out.below hUVx)
  have HIB6 := Lib.hid (HIB5.out.below hUVx)
  have HR6 := Lib.hid (HR5.out.below hUVx)
  have HW6 := Lib.hid (below_tr HW5.out hUVx)
  clear HA5 HB5 HIA5 HIB5 HR5 HW5
  have HXx6 := Lib.hid BVx
  clear hUx hbVx hUVx BVx
  go_wp2_with fail
  clear hVx
  have hdr2 := below_drw Vx
  try simp only [List.append_eq, List.cons_append, List.nil_append]
  refine RX.wp_region_plan (KeepX (Vx).heap.size (y.k) (y.n) (y.u) (y.t)) [.it (.agg #[.int .u8 a.op, .int .u8 a.v.k, .int .i64 a.v.n, .int .i64 a.v.u, .string a.v.t, .int .i64 a.m, .slice a.a a.len a.cap]), .of (IsS 1 (fun _ => a)), .of (IsE (mk1 4 a)), .it (.agg #[.int .u8 b.op, .int .u8 b.v.k, .int .i64 b.v.n, .int .i64 b.v.u, .string b.v.t, .int .i64 b.m, .slice b.a b.len b.cap]), .of (IsS 1 (fun _ => b)), .of (IsE (mk1 4 b)), .of (IsS 2 (fun i => if i = 0 then (mk1 4 a) else (mk1 4 b))), .of (IsE (mk2 12 (mk1 4 a) (mk1 4 b))), .it (.slice r.a r.len r.cap), .it (.tuple #[.agg #[.int .u8 y.k, .int .i64 y.n, .int .i64 y.u, .string y.t], .int .i64 fy]), .it (.tuple #[.agg #[.int .u8 y.k, .int .i64 y.n, .int .i64 y.u, .string y.t], .int .i64 fy]), .it (.agg #[.int .u8 y.k, .int .i64 y.n, .int .i64 y.u, .string y.t]), .it (.int .i64 fy), .of (fun w v => ∃ h, v = .pointer (some ⟨h, 0, none⟩) ∧ (Vx).heap.size ≤ h ∧ Soft w h ∧ Cells w h), .on 13 (fun p w _ => ∀ h, p = .pointer (some ⟨h, 0, none⟩) → Boxed w h (y.k) (y.n) (y.u) (y.t)), .it (.int .i64 fy)] (by kernel_rfl) (by kernel_rfl) (KeepX.refl _ _ _ _ _) KeepX.trans ?_
  refine RX.seqP_value (KeepX.refl _ _ _ _ _) _ (by first | rfl | simp) (fun w' hw' hctx => ?_) ?_
  · obtain ⟨c0, c1, c2, c3, c4, c5, c6, c7⟩ := HA6.out.below (below_tr hdr2 hw'.below)
    go_simp
    try first | with_reducible rfl | simp
  simp only [Act.put, List.setIfInBounds_toArray, List.set_cons_zero, List.set_cons_succ]
  refine RX.seqP_make (IsS 1 (fun _ => a)) (fun w w' v hb h => h.keep hb.ats) (by first | rfl | simp) (fun w' hw' hctx => ?_) (fun u1 => ?_)
  · exact ⟨.slice (some ⟨w'.heap.size, 0, none⟩) 1 1, w'.alloc (.cells #[.int .u8 a.op, .int .u8 a.v.k, .int .i64 a.v.n, .int .i64 a.v.u, .string a.v.t, .int .i64 a.m, .slice a.a a.len a.cap] 26), by go_simp, KeepX.of_below (Below.allocs _ _) hw'.below.size, isS1_new w' a a (HIA6.out.below (below_tr hdr2 hw'.below)) (Same.refl _)⟩
  simp only [Act.put, List.setIfInBounds_toArray, List.set_cons_zero, List.set_cons_succ]
  refine RX.seqP_callOf (20) #[.int .u8 4, u1] (IsE (mk1 4 a)) (fun w w' v hb h => h.keep hb.ats) (by first | rfl | simp) (fun w' hw' hctx => ?_) (fun w' hw' hctx => (of1_is 4 (by decide) (by decide) _ _ w' hctx.1).mono fun e w2 ⟨v, he, hb, hV⟩ => ⟨v, he, KeepX.of_below (hb) hw'.below.size, hV⟩) (fun u2 => ?_)
  · go_simp
  simp only [Act.put, List.setIfInBounds_toArray, List.set_cons_zero, List.set_cons_succ]
  refine RX.seqP_value (KeepX.refl _ _ _ _ _) _ (by first | rfl | simp) (fun w' hw' hctx => ?_) ?_
  · obtain ⟨c0, c1, c2, c3, c4, c5, c6, c7⟩ := HB6.out.below (below_tr hdr2 hw'.below)
    go_simp
    try first | with_reducible rfl | simp
  simp only [Act.put, List.setIfInBounds_toArray, List.set_cons_zero, List.set_cons_succ]
  refine RX.seqP_make (IsS 1 (fun _ => b)) (fun w w' v hb h => h.keep hb.ats) (by first | rfl | simp) (fun w' hw' hctx => ?_) (fun u4 => ?_)
  · exact ⟨.slice (some ⟨w'.heap.size, 0, none⟩) 1 1, w'.alloc (.cells #[.int .u8 b.op, .int .u8 b.v.k, .int .i64 b.v.n, .int .i64 b.v.u, .string b.v.t, .int .i64 b.m, .slice b.a b.len b.cap] 26), by go_simp, KeepX.of_below (Below.allocs _ _) hw'.below.size, isS1_new w' b b (HIB6.out.below (below_tr hdr2 hw'.below)) (Same.refl _)⟩
  simp only [Act.put, List.setIfInBounds_toArray, List.set_cons_zero, List.set_cons_succ]
  refine RX.seqP_callOf (20) #[.int .u8 4, u4] (IsE (mk1 4 b)) (fun w w' v hb h => h.keep hb.ats) (by first | rfl | simp) (fun w' hw' hctx => ?_) (fun w' hw' hctx => (of1_is 4 (by decide) (by decide) _ _ w' hctx.1).mono fun e w2 ⟨v, he, hb, hV⟩ => ⟨v, he, KeepX.of_below (hb) hw'.below.size, hV⟩) (fun u5 => ?_)
  · go_simp
  simp only [Act.put, List.setIfInBounds_toArray, List.set_cons_zero, List.set_cons_succ]
  refine RX.seqP_make (IsS 2 (fun i => if i = 0 then (mk1 4 a) else (mk1 4 b))) (fun w w' v hb h => h.keep hb.ats) (by first | rfl | simp) (fun w' hw' hctx => ?_) (fun u6 => ?_)
  · obtain ⟨e0, rfl, hin0, hs0⟩ := hctx.2.2.1
    obtain ⟨e1, rfl, hin1, hs1⟩ := hctx.1
    exact ⟨.slice (some ⟨w'.heap.size, 0, none⟩) 2 2, w'.alloc (.cells #[.int .u8 e0.op, .int .u8 e0.v.k, .int .i64 e0.v.n, .int .i64 e0.v.u, .string e0.v.t, .int .i64 e0.m, .slice e0.a e0.len e0.cap, .int .u8 e1.op, .int .u8 e1.v.k, .int .i64 e1.v.n, .int .i64 e1.v.u, .string e1.v.t, .int .i64 e1.m, .slice e1.a e1.len e1.cap] 26), by go_simp, KeepX.of_below (Below.allocs _ _) hw'.below.size, isS2_new w' e0 (mk1 4 a) e1 (mk1 4 b) hin0 hs0 hin1 hs1⟩
  simp only [Act.put, List.setIfInBounds_toArray, List.set_cons_zero, List.set_cons_succ]
  refine RX.seqP_callOf (20) #[.int .u8 12, u6] (IsE (mk2 12 (mk1 4 a) (mk1 4 b))) (fun w w' v hb h => h.keep hb.ats) (by first | rfl | simp) (fun w' hw' hctx => ?_) (fun w' hw' hctx => (of2_is 12 (by decide) (by decide) _ _ w' hctx.1).mono fun e w2 ⟨v, he, hb, hV⟩ => ⟨v, he, KeepX.of_below (hb) hw'.below.size, hV⟩) (fun u7 => ?_)
  · go_simp
  simp only [Act.put, List.setIfInBounds_toArray, List.set_cons_zero, List.set_cons_succ]
  refine RX.seqP_value (KeepX.refl _ _ _ _ _) _ (by first | rfl | simp) (fun w' hw' hctx => by (go_simp); (try first | with_reducible rfl | simp)) ?_
  simp only [Act.put, List.setIfInBounds_toArray, List.set_cons_zero, List.set_cons_succ]
  refine RX.seqP_call (12) #[u7, .slice r.a r.len r.cap] (.tuple #[.agg #[.int .u8 y.k, .int .i64 y.n, .int .i64 y.u, .string y.t], .int .i64 fy]) (by first | rfl | simp) (fun w' hw' hctx => ?_) (fun w' hw' hctx => (eval_of (mk2 12 (mk1 4 a) (mk1 4 b)) r y fy EY.out _ w' hctx.1 (HR6.out.below (below_tr hdr2 hw'.below))).mono fun e w2 ⟨he, hb⟩ => ⟨he, KeepX.of_below (hb) hw'.below.size⟩) ?_
  · go_simp
  simp only [Act.put, List.setIfInBounds_toArray, List.set_cons_zero, List.set_cons_succ]
  refine RX.seqP_value (KeepX.refl _ _ _ _ _) _ (by first | rfl | simp) (fun w' hw' hctx => by (go_simp); (try first | with_reducible rfl | simp)) ?_
  simp only [Act.put, List.setIfInBounds_toArray, List.set_cons_zero, List.set_cons_succ]
  refine RX.seqP_value (KeepX.refl _ _ _ _ _) _ (by first | rfl | simp) (fun w' hw' hctx => by (go_simp); (try first | with_reducible rfl | simp)) ?_
  simp only [Act.put, List.setIfInBounds_toArray, List.set_cons_zero, List.set_cons_succ]
  refine RX.seqP_value (KeepX.refl _ _ _ _ _) _ (by first | rfl | simp) (fun w' hw' hctx => by (go_simp); (try first | with_reducible rfl | simp)) ?_
  simp only [Act.put, List.setIfInBounds_toArray, List.set_cons_zero, List.set_cons_succ]
  refine RX.seqP_make _ (fun w w' v hR hV => by obtain ⟨h, h1, h2, h3, h4⟩ := hV; exact ⟨h, h1, h2, hR.keep.soft _ h3, hR.keep.cells _ h4⟩) (by first | rfl | simp) (fun w' hw' hctx => ?_) (fun u13 => ?_)
  · exact ⟨_, _, by go_simp; first | with_reducible rfl | rfl, KeepX.of_below (Below.allocs _ _) hw'.below.size, ⟨_, rfl, hw'.below.size, Soft.new _ _ _ _ _ _, ⟨_, _, _, _, Boxed.new _ _ _ _ _ _⟩⟩⟩
  simp only [Act.put, List.setIfInBounds_toArray, List.set_cons_zero, List.set_cons_succ]
  refine RX.seqP_write 13 _ (by decide) (fun w w' v hR hV h hh => hR.keep.same _ (hV h hh)) (by first | rfl | simp) (fun w' hw' hctx => ?_) (fun u14 => ?_)
  · obtain ⟨h, rfl, h2, h3, h4⟩ : ∃ h, u13 = .pointer (some ⟨h, 0, none⟩) ∧ (Vx).heap.size ≤ h ∧ Soft w' h ∧ Cells w' h := hctx.1
    have hk := KeepX.put (k := y.k) (n := y.n) (u := y.u) (t := y.t) h2 h4
    obtain ⟨x0, x1, x2, x3, hbx⟩ := h4
    have hbp := boxed_put4 hbx (y.k) (y.n) (y.u) (y.t)
    obtain ⟨b0, b1, b2, b3, b4⟩ := hbx
    obtain ⟨s0, s1, s2, s3, s4⟩ := h3
    refine ⟨put4 w' h (y.k) (y.n) (y.u) (y.t), ?_, hk, fun h' hh' => ?_⟩
    · go_simp
      rfl
    · simp [RX.upd] at hh'
      subst hh'
      exact hbp
  simp only [Act.put]
  refine RX.seqP_value (KeepX.refl _ _ _ _ _) _ (by first | rfl | simp) (fun w' hw' hctx => by (go_simp); (try first | with_reducible rfl | simp)) ?_
  simp only [Act.put, List.setIfInBounds_toArray, List.set_cons_zero, List.set_cons_succ]
  refine RX.seqP_nil (fun v6 hR hctx _ => ?_)
  have hv6 := below_tr hdr2 hR.below
  obtain ⟨gy, rfl, hgy, hsy, -⟩ : ∃ h, u13 = .pointer (some ⟨h, 0, none⟩) ∧ (Vx).heap.size ≤ h ∧ Soft v6 h ∧ Cells v6 h := hctx.2.1
  have By : Boxed v6 gy (y.k) (y.n) (y.u) (y.t) := hctx.1 gy (by simp [RX.upd])
  clear hgy hsy
  clear hctx hR
  have HA7 := Lib.hid (HA6.out.below hv6)
  have HB7 := Lib.hid (HB6.out.below hv6)
  have HIA7 := Lib.hid (HIA6.out.below hv6)
  have HIB7 := Lib.hid (HIB6.out.below hv6)
  have HR7 := Lib.hid (HR6.out.below hv6)
  have HW7 := Lib.hid (below_tr HW6.out hv6)
  have HXx7 := Lib.hid (HXx6.out.below hv6)
  clear HA6 HB6 HIA6 HIB6 HR6 HW6 HXx6
  have HXy7 := Lib.hid By
  clear hv6 hdr2 By
  obtain ⟨c0, c1, c2, c3, c4, c5, c6, c7⟩ := HA7.out
  obtain ⟨d0, d1, d2, d3, d4, d5, d6, d7⟩ := HB7.out
  go_wp2_with fail
  clear c0 c1 c2 c3 c4 c5 c6 c7 d0 d1 d2 d3 d4 d5 d6 d7
  refine (of2_is 12 (by decide) (by decide) _ _ _ (isS2_new v6 b b a a HIB7.out (Same.refl _) HIA7.out (Same.refl _))).mono ?_
  rintro _ Us ⟨_, rfl, hUs, es, rfl, hins, hss⟩
  have hUVs := below_tr (Below.allocs _ _) hUs
  have HA8 := Lib.hid (HA7.out.below hUVs)
  have HB8 := Lib.hid (HB7.out.below hUVs)
  have HIA8 := Lib.hid (HIA7.out.below hUVs)
  have HIB8 := Lib.hid (HIB7.out.below hUVs)
  have HR8 := Lib.hid (HR7.out.below hUVs)
  have HW8 := Lib.hid (below_tr HW7.out hUVs)
  have HXx8 := Lib.hid (HXx7.out.below hUVs)
  have HXy8 := Lib.hid (HXy7.out.below hUVs)
  clear HA7 HB7 HIA7 HIB7 HR7 HW7 HXx7 HXy7
  clear hUs hUVs
  go_wp2_with fail
  refine (eval_of (mk2 12 b a) r z fz EZ.out _ _ ⟨es, rfl, hins, hss⟩ HR8.out).mono ?_
  rintro _ Uz ⟨rfl, hUz⟩
  obtain ⟨Vz, gz, hVz, hgz, BVz, hbVz⟩ := boxX Uz z
  have hUVz := below_tr hUz hbVz
  have HA9 := Lib.hid (HA8.out.below hUVz)
  have HB9 := Lib.hid (HB8.out.below hUVz)
  have HIA9 := Lib.hid (HIA8.out.below hUVz)
  have HIB9 := Lib.hid (HIB8.out.below hUVz)
  have HR9 := Lib.hid (HR8.out.below hUVz)
  have HW9 := Lib.hid (below_tr HW8.out hUVz)
  have HXx9 := Lib.hid (HXx8.out.below hUVz)
  have HXy9 := Lib.hid (HXy8.out.below hUVz)
  clear HA8 HB8 HIA8 HIB8 HR8 HW8 HXx8 HXy8
  clear hUz hbVz hUVz BVz
  obtain ⟨M1, M2, M3⟩ := MATH.out
  obtain ⟨x0, x1, x2, x3, x4⟩ := HXx9.out
  obtain ⟨y0, y1, y2, y3, y4⟩ := HXy9.out
  have HM1 := Lib.hid M1
  have HM2 := Lib.hid M2
  have HM3 := Lib.hid M3
  clear M1 M2 M3 MATH
  by_cases qa : fa = 0
  · by_cases qb : fb = 0
    · have ta : (fa != 0) = false := by simpa using qa
      have tb : (fb != 0) = false := by simpa using qb
      rcases HM3.out qa qb with ⟨p1, p2, p3, p4⟩ | ⟨p1, p2, p3⟩
      · have t1 : (fx == 0) = true := by simpa using p1
        have t2 : (fy == 0) = true := by simpa using p2
        have t3 : (fz == 0) = true := by simpa using p3
        have t4 : (fx != 0) = false := by simpa using p1
        have hq := fun w => eql_is x y true (eqB_iff.2 p4) w
        clear p1 p2 p3 p4 qa qb
        go_wp2_with fail
        go_ret
        exact ⟨rfl, HW9.out⟩
      · have t1 : (fx == 0) = false := by simpa using p1
        have t2 : (fy == 0) = false := by simpa using p2
        have t3 : (fz == 0) = false := by simpa using p3
        have t4 : (fx != 0) = true := by simpa using p1
        clear p1 p2 p3 qa qb
        go_wp2_with fail
        go_ret
        exact ⟨rfl, HW9.out⟩
    · have ta : (fa != 0) = false := by simpa using qa
      have tb : (fb != 0) = true := by simpa using qb
      have tc : (fa == 0) = true := by simpa using qa
      obtain ⟨p1, p2, p3⟩ := HM2.out qa qb
      have t1 : (fx != 0) = true := by simpa using p1
      have t2 : (fy != 0) = true := by simpa using p2
      have t3 : (fz != 0) = true := by simpa using p3
      clear p1 p2 p3 qa qb
      go_wp2_with fail
      go_ret
      exact ⟨rfl, HW9.out⟩
  · have ta : (fa != 0) = true := by simpa using qa
    have tc : (fa == 0) = false := by simpa using qa
    obtain ⟨p1, p2, p3, p4⟩ := HM1.out qa
    have t1 : (fx != 0) = true := by simpa using p1
    have t2 : (fy != 0) = true := by simpa using p2
    have t3 : (fz != 0) = true := by simpa using p3
    rcases p4 with p4 | ⟨p4, p5, p6⟩
    · have t4 : (fx == fa) = true := by simpa using p4
      clear p1 p2 p3 p4 qa
      go_wp2_with fail
      go_ret
      exact ⟨rfl, HW9.out⟩
    · have t4 : (fx == fa) = false := by simpa using p4
      have t5 : (fb == 4) = true := by simpa using p5
      have t6 : (fx == fb) = true := by rw [p5, p6]; rfl
      clear p1 p2 p3 p4 p5 p6 qa
      go_wp2_with fail
      go_ret
      exact ⟨rfl, HW9.out⟩

/-- ExprTruths answers true for any two expressions and any row. -/
theorem truths_any (a b : Ex) (r : Rw) (w : World) (ha : a.In w) (hb : b.In w) (hr : r.In w) :
    Calls Try.prog 7 #[.agg #[.int .u8 a.op, .int .u8 a.v.k, .int .i64 a.v.n, .int .i64 a.v.u, .string a.v.t, .int .i64 a.m, .slice a.a a.len a.cap], .agg #[.int .u8 b.op, .int .u8 b.v.k, .int .i64 b.v.n, .int .i64 b.v.u, .string b.v.t, .int .i64 b.m, .slice b.a b.len b.cap], .slice r.a r.len r.cap] w fun x w' => x = .returned (.bool true) ∧ Below w.heap.size w w' := by
  cases hla : decide (500 < a.sz)
  · cases hlb : decide (500 < b.sz)
    · cases hlr : decide (500 < r.len)
      · cases hm1 : validB mayV hasAny (mk1 4 (mk2 11 a b))
        · exact truths_4 a b r w ha hb hr hla hlb hlr hm1
        · cases hm2 : validB mayV hasAny (mk2 11 (mk1 4 a) (mk1 4 b))
          · exact truths_5 a b r w ha hb hr hla hlb hlr hm1 hm2
          · exact truths_6 a b r w ha hb hr hla hlb hlr hm1 hm2 _ _ _ _ _ _ _ _ _ _ rfl rfl rfl rfl rfl
      · exact truths_3 a b r w ha hb hr hla hlb hlr
    · exact truths_2 a b r w ha hb hr hla hlb
  · exact truths_1 a b r w ha hb hr hla

end Go.Proofs.Ytflclkmhdngmaaa
