/-
  ExprTruths: the walk of the law.
-/
import Derived.Test.YtflclkmhdngmaaaEWorks
import Derived.Test.YtflclkmhdngmaaaESize
import Derived.Test.YtflclkmhdngmaaaEKeep
import Derived.Test.YtflclkmhdngmaaaETruthM
namespace Go.Proofs.Ytflclkmhdngmaaa
open Go.RowKit

/-- Two expressions' blocks, one behind the other. -/
theorem boxAB (w : World) (a b : Ex) : ∃ W g, (w.alloc (.cells #[.int .u8 a.op, .int .u8 a.v.k, .int .i64 a.v.n, .int .i64 a.v.u, .string a.v.t, .int .i64 a.m, .slice a.a a.len a.cap] 26)).alloc (.cells #[.int .u8 b.op, .int .u8 b.v.k, .int .i64 b.v.n, .int .i64 b.v.u, .string b.v.t, .int .i64 b.m, .slice b.a b.len b.cap] 26) = W ∧ w.heap.size = g ∧ BoxE W g a ∧ BoxE W (g + 1) b ∧ Below w.heap.size w W ∧ W.heap.size = g + 1 + 1 := by
  have h := BoxE.new (w.alloc (.cells #[.int .u8 a.op, .int .u8 a.v.k, .int .i64 a.v.n, .int .i64 a.v.u, .string a.v.t, .int .i64 a.m, .slice a.a a.len a.cap] 26)) b
  rw [show (w.alloc (.cells #[.int .u8 a.op, .int .u8 a.v.k, .int .i64 a.v.n, .int .i64 a.v.u, .string a.v.t, .int .i64 a.m, .slice a.a a.len a.cap] 26)).heap.size = w.heap.size + 1 by simp] at h
  exact ⟨_, _, rfl, rfl, (BoxE.new w a).below (Below.allocs _ _), h, ((Below.refl _ _).alloc (Nat.le_refl _) _).alloc (by simp) _, by simp⟩

set_option maxRecDepth 100000 in
set_option maxHeartbeats 8000000 in
theorem truths_1 (a b : Ex) (r : Rw) (w : World) (ha : a.In w) (hb0 : b.In w) (hr : r.In w) (hla : decide (500 < a.sz) = true) :
    Calls Try.prog 7 #[.agg #[.int .u8 a.op, .int .u8 a.v.k, .int .i64 a.v.n, .int .i64 a.v.u, .string a.v.t, .int .i64 a.m, .slice a.a a.len a.cap], .agg #[.int .u8 b.op, .int .u8 b.v.k, .int .i64 b.v.n, .int .i64 b.v.u, .string b.v.t, .int .i64 b.m, .slice b.a b.len b.cap], .slice r.a r.len r.cap] w fun x w' => x = .returned (.bool true) ∧ Below w.heap.size w w' := by
  obtain ⟨W, g, hW, hg, BA, BB, hb, hs⟩ := boxAB w a b
  have HA := Lib.hid BA
  have HBX := Lib.hid BB
  have HW := Lib.hid hb
  have HIA := Lib.hid (ha.below hb)
  have HIB := Lib.hid (hb0.below hb)
  have HR := Lib.hid (hr.below hb)
  have HLA := Lib.hid hla
  clear ha hb0 hr hb BA BB hs hla
  go_enter Try.func7, Try.ntmps7
  go_wp2_with fail
  have hdr := below_drw W
  try simp only [List.append_eq, List.cons_append, List.nil_append]
  refine RX.wp_region_plan (fun w w' => Below w.heap.size w w') [.it (.bool true), .it (.bool false), .it (.bool false), .it (.agg #[.int .u8 a.op, .int .u8 a.v.k, .int .i64 a.v.n, .int .i64 a.v.u, .string a.v.t, .int .i64 a.m, .slice a.a a.len a.cap]), .it (.bool true), .it (.bool true), .it (.bool true), .it undef, .it undef, .it (.bool true), .it (.bool true), .it undef, .it undef, .it undef, .it (.bool true), .it (.bool true), .it undef, .it undef, .it undef, .it undef, .it undef, .it undef, .it undef, .it undef, .it (.bool true), .it (.bool true), .it undef, .it undef, .it undef, .it undef, .it undef, .it undef, .it undef, .it undef, .it undef, .it undef, .it (.bool true)] (by kernel_rfl) (by kernel_rfl) (fun _ => Below.refl _ _) (fun _ _ _ => below_tr) ?_
  refine RX.seqP_call (8) #[] (.bool true) (by first | rfl | simp) (fun w' hw' hctx => ?_) (fun w' hw' hctx => works_is w') ?_
  · go_simp
  simp only [Act.put, List.setIfInBounds_toArray, List.set_cons_zero, List.set_cons_succ]
  refine RX.seqP_value (fun _ => Below.refl _ _) _ (by first | rfl | simp) (fun w' hw' hctx => by (go_simp); (try first | with_reducible rfl | simp)) ?_
  simp only [Act.put, List.setIfInBounds_toArray, List.set_cons_zero, List.set_cons_succ]
  refine RX.seqP_value (fun _ => Below.refl _ _) _ (by first | rfl | simp) (fun w' hw' hctx => by (go_simp); (try first | with_reducible rfl | simp)) ?_
  simp only [Act.put, List.setIfInBounds_toArray, List.set_cons_zero, List.set_cons_succ]
  refine RX.seqP_value (fun _ => Below.refl _ _) _ (by first | rfl | simp) (fun w' hw' hctx => ?_) ?_
  · obtain ⟨c0, c1, c2, c3, c4, c5, c6, c7⟩ := HA.out.below (below_tr hdr hw')
    go_simp
    try first | with_reducible rfl | simp
  simp only [Act.put, List.setIfInBounds_toArray, List.set_cons_zero, List.set_cons_succ]
  refine RX.seqP_call (9) #[.agg #[.int .u8 a.op, .int .u8 a.v.k, .int .i64 a.v.n, .int .i64 a.v.u, .string a.v.t, .int .i64 a.m, .slice a.a a.len a.cap]] (.bool true) (by first | rfl | simp) (fun w' hw' hctx => ?_) (fun w' hw' hctx => large_is a w' (HIA.out.below (below_tr hdr hw')) true HLA.out) ?_
  · go_simp
  simp only [Act.put, List.setIfInBounds_toArray, List.set_cons_zero, List.set_cons_succ]
  refine RX.seqP_value (fun _ => Below.refl _ _) _ (by first | rfl | simp) (fun w' hw' hctx => by (go_simp); (try first | with_reducible rfl | simp)) ?_
  simp only [Act.put, List.setIfInBounds_toArray, List.set_cons_zero, List.set_cons_succ]
  refine RX.seqP_value (fun _ => Below.refl _ _) _ (by first | rfl | simp) (fun w' hw' hctx => by (go_simp); (try first | with_reducible rfl | simp)) ?_
  simp only [Act.put, List.setIfInBounds_toArray, List.set_cons_zero, List.set_cons_succ]
  refine RX.seqP_skip (by first | rfl | simp) ?_
  simp only [Act.put, List.setIfInBounds_toArray, List.set_cons_zero, List.set_cons_succ]
  refine RX.seqP_skip (by first | rfl | simp) ?_
  simp only [Act.put, List.setIfInBounds_toArray, List.set_cons_zero, List.set_cons_succ]
  refine RX.seqP_value (fun _ => Below.refl _ _) _ (by first | rfl | simp) (fun w' hw' hctx => by (go_simp); (try first | with_reducible rfl | simp)) ?_
  simp only [Act.put, List.setIfInBounds_toArray, List.set_cons_zero, List.set_cons_succ]
  refine RX.seqP_value (fun _ => Below.refl _ _) _ (by first | rfl | simp) (fun w' hw' hctx => by (go_simp); (try first | with_reducible rfl | simp)) ?_
  simp only [Act.put, List.setIfInBounds_toArray, List.set_cons_zero, List.set_cons_succ]
  refine RX.seqP_skip (by first | rfl | simp) ?_
  simp only [Act.put, List.setIfInBounds_toArray, List.set_cons_zero, List.set_cons_succ]
  refine RX.seqP_skip (by first | rfl | simp) ?_
  simp only [Act.put, List.setIfInBounds_toArray, List.set_cons_zero, List.set_cons_succ]
  refine RX.seqP_skip (by first | rfl | simp) ?_
  simp only [Act.put, List.setIfInBounds_toArray, List.set_cons_zero, List.set_cons_succ]
  refine RX.seqP_value (fun _ => Below.refl _ _) _ (by first | rfl | simp) (fun w' hw' hctx => by (go_simp); (try first | with_reducible rfl | simp)) ?_
  simp only [Act.put, List.setIfInBounds_toArray, List.set_cons_zero, List.set_cons_succ]
  refine RX.seqP_value (fun _ => Below.refl _ _) _ (by first | rfl | simp) (fun w' hw' hctx => by (go_simp); (try first | with_reducible rfl | simp)) ?_
  simp only [Act.put, List.setIfInBounds_toArray, List.set_cons_zero, List.set_cons_succ]
  refine RX.seqP_skip (by first | rfl | simp) ?_
  simp only [Act.put, List.setIfInBounds_toArray, List.set_cons_zero, List.set_cons_succ]
  refine RX.seqP_skip (by first | rfl | simp) ?_
  simp only [Act.put, List.setIfInBounds_toArray, List.set_cons_zero, List.set_cons_succ]
  refine RX.seqP_skip (by first | rfl | simp) ?_
  simp only [Act.put, List.setIfInBounds_toArray, List.set_cons_zero, List.set_cons_succ]
  refine RX.seqP_skip (by first | rfl | simp) ?_
  simp only [Act.put, List.setIfInBounds_toArray, List.set_cons_zero, List.set_cons_succ]
  refine RX.seqP_skip (by first | rfl | simp) ?_
  simp only [Act.put, List.setIfInBounds_toArray, List.set_cons_zero, List.set_cons_succ]
  refine RX.seqP_skip (by first | rfl | simp) ?_
  simp only [Act.put, List.setIfInBounds_toArray, List.set_cons_zero, List.set_cons_succ]
  refine RX.seqP_skip (by first | rfl | simp) ?_
  simp only [Act.put, List.setIfInBounds_toArray, List.set_cons_zero, List.set_cons_succ]
  refine RX.seqP_skip (by first | rfl | simp) ?_
  simp only [Act.put, List.setIfInBounds_toArray, List.set_cons_zero, List.set_cons_succ]
  refine RX.seqP_value (fun _ => Below.refl _ _) _ (by first | rfl | simp) (fun w' hw' hctx => by (go_simp); (try first | with_reducible rfl | simp)) ?_
  simp only [Act.put, List.setIfInBounds_toArray, List.set_cons_zero, List.set_cons_succ]
  refine RX.seqP_value (fun _ => Below.refl _ _) _ (by first | rfl | simp) (fun w' hw' hctx => by (go_simp); (try first | with_reducible rfl | simp)) ?_
  simp only [Act.put, List.setIfInBounds_toArray, List.set_cons_zero, List.set_cons_succ]
  refine RX.seqP_skip (by first | rfl | simp) ?_
  simp only [Act.put, List.setIfInBounds_toArray, List.set_cons_zero, List.set_cons_succ]
  refine RX.seqP_skip (by first | rfl | simp) ?_
  simp only [Act.put, List.setIfInBounds_toArray, List.set_cons_zero, List.set_cons_succ]
  refine RX.seqP_skip (by first | rfl | simp) ?_
  simp only [Act.put, List.setIfInBounds_toArray, List.set_cons_zero, List.set_cons_succ]
  refine RX.seqP_skip (by first | rfl | simp) ?_
  simp only [Act.put, List.setIfInBounds_toArray, List.set_cons_zero, List.set_cons_succ]
  refine RX.seqP_skip (by first | rfl | simp) ?_
  simp only [Act.put, List.setIfInBounds_toArray, List.set_cons_zero, List.set_cons_succ]
  refine RX.seqP_skip (by first | rfl | simp) ?_
  simp only [Act.put, List.setIfInBounds_toArray, List.set_cons_zero, List.set_cons_succ]
  refine RX.seqP_skip (by first | rfl | simp) ?_
  simp only [Act.put, List.setIfInBounds_toArray, List.set_cons_zero, List.set_cons_succ]
  refine RX.seqP_skip (by first | rfl | simp) ?_
  simp only [Act.put, List.setIfInBounds_toArray, List.set_cons_zero, List.set_cons_succ]
  refine RX.seqP_skip (by first | rfl | simp) ?_
  simp only [Act.put, List.setIfInBounds_toArray, List.set_cons_zero, List.set_cons_succ]
  refine RX.seqP_skip (by first | rfl | simp) ?_
  simp only [Act.put, List.setIfInBounds_toArray, List.set_cons_zero, List.set_cons_succ]
  refine RX.seqP_value (fun _ => Below.refl _ _) _ (by first | rfl | simp) (fun w' hw' hctx => by (go_simp); (try first | with_reducible rfl | simp)) ?_
  simp only [Act.put, List.setIfInBounds_toArray, List.set_cons_zero, List.set_cons_succ]
  refine RX.seqP_nil (fun v1 hR hctx _ => ?_)
  have hv1 := below_tr hdr hR
  clear hctx hR
  have HF := Lib.hid (below_tr HW.out hv1)
  clear hv1 hdr
  go_wp2_with fail
  refine (works_is _).mono ?_
  rintro _ v2 ⟨rfl, hv2⟩
  have HF2 := Lib.hid (below_tr HF.out hv2)
  clear hv2
  go_wp2_with fail
  go_ret
  exact ⟨rfl, HF2.out⟩

set_option maxRecDepth 100000 in
set_option maxHeartbeats 8000000 in
theorem truths_2 (a b : Ex) (r : Rw) (w : World) (ha : a.In w) (hb0 : b.In w) (hr : r.In w) (hla : decide (500 < a.sz) = false) (hlb : decide (500 < b.sz) = true) :
    Calls Try.prog 7 #[.agg #[.int .u8 a.op, .int .u8 a.v.k, .int .i64 a.v.n, .int .i64 a.v.u, .string a.v.t, .int .i64 a.m, .slice a.a a.len a.cap], .agg #[.int .u8 b.op, .int .u8 b.v.k, .int .i64 b.v.n, .int .i64 b.v.u, .string b.v.t, .int .i64 b.m, .slice b.a b.len b.cap], .slice r.a r.len r.cap] w fun x w' => x = .returned (.bool true) ∧ Below w.heap.size w w' := by
  obtain ⟨W, g, hW, hg, BA, BB, hb, hs⟩ := boxAB w a b
  have HA := Lib.hid BA
  have HBX := Lib.hid BB
  have HW := Lib.hid hb
  have HIA := Lib.hid (ha.below hb)
  have HIB := Lib.hid (hb0.below hb)
  have HR := Lib.hid (hr.below hb)
  have HLA := Lib.hid hla
  have HLB := Lib.hid hlb
  clear ha hb0 hr hb BA BB hs hla hlb
  go_enter Try.func7, Try.ntmps7
  go_wp2_with fail
  have hdr := below_drw W
  try simp only [List.append_eq, List.cons_append, List.nil_append]
  refine RX.wp_region_plan (fun w w' => Below w.heap.size w w') [.it (.bool true), .it (.bool false), .it (.bool false), .it (.agg #[.int .u8 a.op, .int .u8 a.v.k, .int .i64 a.v.n, .int .i64 a.v.u, .string a.v.t, .int .i64 a.m, .slice a.a a.len a.cap]), .it (.bool false), .it (.bool false), .it (.bool false), .it (.agg #[.int .u8 b.op, .int .u8 b.v.k, .int .i64 b.v.n, .int .i64 b.v.u, .string b.v.t, .int .i64 b.m, .slice b.a b.len b.cap]), .it (.bool true), .it (.bool true), .it (.bool true), .it undef, .it undef, .it undef, .it (.bool true), .it (.bool true), .it undef, .it undef, .it undef, .it undef, .it undef, .it undef, .it undef, .it undef, .it (.bool true), .it (.bool true), .it undef, .it undef, .it undef, .it undef, .it undef, .it undef, .it undef, .it undef, .it undef, .it undef, .it (.bool true)] (by kernel_rfl) (by kernel_rfl) (fun _ => Below.refl _ _) (fun _ _ _ => below_tr) ?_
  refine RX.seqP_call (8) #[] (.bool true) (by first | rfl | simp) (fun w' hw' hctx => ?_) (fun w' hw' hctx => works_is w') ?_
  · go_simp
  simp only [Act.put, List.setIfInBounds_toArray, List.set_cons_zero, List.set_cons_succ]
  refine RX.seqP_value (fun _ => Below.refl _ _) _ (by first | rfl | simp) (fun w' hw' hctx => by (go_simp); (try first | with_reducible rfl | simp)) ?_
  simp only [Act.put, List.setIfInBounds_toArray, List.set_cons_zero, List.set_cons_succ]
  refine RX.seqP_value (fun _ => Below.refl _ _) _ (by first | rfl | simp) (fun w' hw' hctx => by (go_simp); (try first | with_reducible rfl | simp)) ?_
  simp only [Act.put, List.setIfInBounds_toArray, List.set_cons_zero, List.set_cons_succ]
  refine RX.seqP_value (fun _ => Below.refl _ _) _ (by first | rfl | simp) (fun w' hw' hctx => ?_) ?_
  · obtain ⟨c0, c1, c2, c3, c4, c5, c6, c7⟩ := HA.out.below (below_tr hdr hw')
    go_simp
    try first | with_reducible rfl | simp
  simp only [Act.put, List.setIfInBounds_toArray, List.set_cons_zero, List.set_cons_succ]
  refine RX.seqP_call (9) #[.agg #[.int .u8 a.op, .int .u8 a.v.k, .int .i64 a.v.n, .int .i64 a.v.u, .string a.v.t, .int .i64 a.m, .slice a.a a.len a.cap]] (.bool false) (by first | rfl | simp) (fun w' hw' hctx => ?_) (fun w' hw' hctx => large_is a w' (HIA.out.below (below_tr hdr hw')) false HLA.out) ?_
  · go_simp
  simp only [Act.put, List.setIfInBounds_toArray, List.set_cons_zero, List.set_cons_succ]
  refine RX.seqP_value (fun _ => Below.refl _ _) _ (by first | rfl | simp) (fun w' hw' hctx => by (go_simp); (try first | with_reducible rfl | simp)) ?_
  simp only [Act.put, List.setIfInBounds_toArray, List.set_cons_zero, List.set_cons_succ]
  refine RX.seqP_value (fun _ => Below.refl _ _) _ (by first | rfl | simp) (fun w' hw' hctx => by (go_simp); (try first | with_reducible rfl | simp)) ?_
  simp only [Act.put, List.setIfInBounds_toArray, List.set_cons_zero, List.set_cons_succ]
  refine RX.seqP_value (fun _ => Below.refl _ _) _ (by first | rfl | simp) (fun w' hw' hctx => ?_) ?_
  · obtain ⟨c0, c1, c2, c3, c4, c5, c6, c7⟩ := HBX.out.below (below_tr hdr hw')
    go_simp
    try first | with_reducible rfl | simp
  simp only [Act.put, List.setIfInBounds_toArray, List.set_cons_zero, List.set_cons_succ]
  refine RX.seqP_call (9) #[.agg #[.int .u8 b.op, .int .u8 b.v.k, .int .i64 b.v.n, .int .i64 b.v.u, .string b.v.t, .int .i64 b.m, .slice b.a b.len b.cap]] (.bool true) (by first | rfl | simp) (fun w' hw' hctx => ?_) (fun w' hw' hctx => large_is b w' (HIB.out.below (below_tr hdr hw')) true HLB.out) ?_
  · go_simp
  simp only [Act.put, List.setIfInBounds_toArray, List.set_cons_zero, List.set_cons_succ]
  refine RX.seqP_value (fun _ => Below.refl _ _) _ (by first | rfl | simp) (fun w' hw' hctx => by (go_simp); (try first | with_reducible rfl | simp)) ?_
  simp only [Act.put, List.setIfInBounds_toArray, List.set_cons_zero, List.set_cons_succ]
  refine RX.seqP_value (fun _ => Below.refl _ _) _ (by first | rfl | simp) (fun w' hw' hctx => by (go_simp); (try first | with_reducible rfl | simp)) ?_
  simp only [Act.put, List.setIfInBounds_toArray, List.set_cons_zero, List.set_cons_succ]
  refine RX.seqP_skip (by first | rfl | simp) ?_
  simp only [Act.put, List.setIfInBounds_toArray, List.set_cons_zero, List.set_cons_succ]
  refine RX.seqP_skip (by first | rfl | simp) ?_
  simp only [Act.put, List.setIfInBounds_toArray, List.set_cons_zero, List.set_cons_succ]
  refine RX.seqP_skip (by first | rfl | simp) ?_
  simp only [Act.put, List.setIfInBounds_toArray, List.set_cons_zero, List.set_cons_succ]
  refine RX.seqP_value (fun _ => Below.refl _ _) _ (by first | rfl | simp) (fun w' hw' hctx => by (go_simp); (try first | with_reducible rfl | simp)) ?_
  simp only [Act.put, List.setIfInBounds_toArray, List.set_cons_zero, List.set_cons_succ]
  refine RX.seqP_value (fun _ => Below.refl _ _) _ (by first | rfl | simp) (fun w' hw' hctx => by (go_simp); (try first | with_reducible rfl | simp)) ?_
  simp only [Act.put, List.setIfInBounds_toArray, List.set_cons_zero, List.set_cons_succ]
  refine RX.seqP_skip (by first | rfl | simp) ?_
  simp only [Act.put, List.setIfInBounds_toArray, List.set_cons_zero, List.set_cons_succ]
  refine RX.seqP_skip (by first | rfl | simp) ?_
  simp only [Act.put, List.setIfInBounds_toArray, List.set_cons_zero, List.set_cons_succ]
  refine RX.seqP_skip (by first | rfl | simp) ?_
  simp only [Act.put, List.setIfInBounds_toArray, List.set_cons_zero, List.set_cons_succ]
  refine RX.seqP_skip (by first | rfl | simp) ?_
  simp only [Act.put, List.setIfInBounds_toArray, List.set_cons_zero, List.set_cons_succ]
  refine RX.seqP_skip (by first | rfl | simp) ?_
  simp only [Act.put, List.setIfInBounds_toArray, List.set_cons_zero, List.set_cons_succ]
  refine RX.seqP_skip (by first | rfl | simp) ?_
  simp only [Act.put, List.setIfInBounds_toArray, List.set_cons_zero, List.set_cons_succ]
  refine RX.seqP_skip (by first | rfl | simp) ?_
  simp only [Act.put, List.setIfInBounds_toArray, List.set_cons_zero, List.set_cons_succ]
  refine RX.seqP_skip (by first | rfl | simp) ?_
  simp only [Act.put, List.setIfInBounds_toArray, List.set_cons_zero, List.set_cons_succ]
  refine RX.seqP_value (fun _ => Below.refl _ _) _ (by first | rfl | simp) (fun w' hw' hctx => by (go_simp); (try first | with_reducible rfl | simp)) ?_
  simp only [Act.put, List.setIfInBounds_toArray, List.set_cons_zero, List.set_cons_succ]
  refine RX.seqP_value (fun _ => Below.refl _ _) _ (by first | rfl | simp) (fun w' hw' hctx => by (go_simp); (try first | with_reducible rfl | simp)) ?_
  simp only [Act.put, List.setIfInBounds_toArray, List.set_cons_zero, List.set_cons_succ]
  refine RX.seqP_skip (by first | rfl | simp) ?_
  simp only [Act.put, List.setIfInBounds_toArray, List.set_cons_zero, List.set_cons_succ]
  refine RX.seqP_skip (by first | rfl | simp) ?_
  simp only [Act.put, List.setIfInBounds_toArray, List.set_cons_zero, List.set_cons_succ]
  refine RX.seqP_skip (by first | rfl | simp) ?_
  simp only [Act.put, List.setIfInBounds_toArray, List.set_cons_zero, List.set_cons_succ]
  refine RX.seqP_skip (by first | rfl | simp) ?_
  simp only [Act.put, List.setIfInBounds_toArray, List.set_cons_zero, List.set_cons_succ]
  refine RX.seqP_skip (by first | rfl | simp) ?_
  simp only [Act.put, List.setIfInBounds_toArray, List.set_cons_zero, List.set_cons_succ]
  refine RX.seqP_skip (by first | rfl | simp) ?_
  simp only [Act.put, List.setIfInBounds_toArray, List.set_cons_zero, List.set_cons_succ]
  refine RX.seqP_skip (by first | rfl | simp) ?_
  simp only [Act.put, List.setIfInBounds_toArray, List.set_cons_zero, List.set_cons_succ]
  refine RX.seqP_skip (by first | rfl | simp) ?_
  simp only [Act.put, List.setIfInBounds_toArray, List.set_cons_zero, List.set_cons_succ]
  refine RX.seqP_skip (by first | rfl | simp) ?_
  simp only [Act.put, List.setIfInBounds_toArray, List.set_cons_zero, List.set_cons_succ]
  refine RX.seqP_skip (by first | rfl | simp) ?_
  simp only [Act.put, List.setIfInBounds_toArray, List.set_cons_zero, List.set_cons_succ]
  refine RX.seqP_value (fun _ => Below.refl _ _) _ (by first | rfl | simp) (fun w' hw' hctx => by (go_simp); (try first | with_reducible rfl | simp)) ?_
  simp only [Act.put, List.setIfInBounds_toArray, List.set_cons_zero, List.set_cons_succ]
  refine RX.seqP_nil (fun v1 hR hctx _ => ?_)
  have hv1 := below_tr hdr hR
  clear hctx hR
  have HF := Lib.hid (below_tr HW.out hv1)
  clear hv1 hdr
  go_wp2_with fail
  refine (works_is _).mono ?_
  rintro _ v2 ⟨rfl, hv2⟩
  have HF2 := Lib.hid (below_tr HF.out hv2)
  clear hv2
  go_wp2_with fail
  go_ret
  exact ⟨rfl, HF2.out⟩

set_option maxRecDepth 100000 in
set_option maxHeartbeats 8000000 in
theorem truths_3 (a b : Ex) (r : Rw) (w : World) (ha : a.In w) (hb0 : b.In w) (hr : r.In w) (hla : decide (500 < a.sz) = false) (hlb : decide (500 < b.sz) = false) (hlr : decide (500 < r.len) = true) :
    Calls Try.prog 7 #[.agg #[.int .u8 a.op, .int .u8 a.v.k, .int .i64 a.v.n, .int .i64 a.v.u, .string a.v.t, .int .i64 a.m, .slice a.a a.len a.cap], .agg #[.int .u8 b.op, .int .u8 b.v.k, .int .i64 b.v.n, .int .i64 b.v.u, .string b.v.t, .int .i64 b.m, .slice b.a b.len b.cap], .slice r.a r.len r.cap] w fun x w' => x = .returned (.bool true) ∧ Below w.heap.size w w' := by
  obtain ⟨W, g, hW, hg, BA, BB, hb, hs⟩ := boxAB w a b
  have HA := Lib.hid BA
  have HBX := Lib.hid BB
  have HW := Lib.hid hb
  have HIA := Lib.hid (ha.below hb)
  have HIB := Lib.hid (hb0.below hb)
  have HR := Lib.hid (hr.below hb)
  have HLA := Lib.hid hla
  have HLB := Lib.hid hlb
  have HLR := Lib.hid hlr
  have hlr1 : decide ((500 : Int) < (r.len : Int)) = true := by rw [← HLR.out, decide_eq_decide]; omega
  clear ha hb0 hr hb BA BB hs hla hlb hlr
  go_enter Try.func7, Try.ntmps7
  go_wp2_with fail
  have hdr := below_drw W
  try simp only [List.append_eq, List.cons_append, List.nil_append]
  refine RX.wp_region_plan (fun w w' => Below w.heap.size w w') [.it (.bool true), .it (.bool false), .it (.bool false), .it (.agg #[.int .u8 a.op, .int .u8 a.v.k, .int .i64 a.v.n, .int .i64 a.v.u, .string a.v.t, .int .i64 a.m, .slice a.a a.len a.cap]), .it (.bool false), .it (.bool false), .it (.bool false), .it (.agg #[.int .u8 b.op, .int .u8 b.v.k, .int .i64 b.v.n, .int .i64 b.v.u, .string b.v.t, .int .i64 b.m, .slice b.a b.len b.cap]), .it (.bool false), .it (.bool false), .it (.bool false), .it (.slice r.a r.len r.cap), .it (.int .i64 r.len), .it (.bool true), .it (.bool true), .it (.bool true), .it undef, .it undef, .it undef, .it undef, .it undef, .it undef, .it undef, .it undef, .it (.bool true), .it (.bool true), .it undef, .it undef, .it undef, .it undef, .it undef, .it undef, .it undef, .it undef, .it undef, .it undef, .it (.bool true)] (by kernel_rfl) (by kernel_rfl) (fun _ => Below.refl _ _) (fun _ _ _ => below_tr) ?_
  refine RX.seqP_call (8) #[] (.bool true) (by first | rfl | simp) (fun w' hw' hctx => ?_) (fun w' hw' hctx => works_is w') ?_
  · go_simp
  simp only [Act.put, List.setIfInBounds_toArray, List.set_cons_zero, List.set_cons_succ]
  refine RX.seqP_value (fun _ => Below.refl _ _) _ (by first | rfl | simp) (fun w' hw' hctx => by (go_simp); (try first | with_reducible rfl | simp)) ?_
  simp only [Act.put, List.setIfInBounds_toArray, List.set_cons_zero, List.set_cons_succ]
  refine RX.seqP_value (fun _ => Below.refl _ _) _ (by first | rfl | simp) (fun w' hw' hctx => by (go_simp); (try first | with_reducible rfl | simp)) ?_
  simp only [Act.put, List.setIfInBounds_toArray, List.set_cons_zero, List.set_cons_succ]
  refine RX.seqP_value (fun _ => Below.refl _ _) _ (by first | rfl | simp) (fun w' hw' hctx => ?_) ?_
  · obtain ⟨c0, c1, c2, c3, c4, c5, c6, c7⟩ := HA.out.below (below_tr hdr hw')
    go_simp
    try first | with_reducible rfl | simp
  simp only [Act.put, List.setIfInBounds_toArray, List.set_cons_zero, List.set_cons_succ]
  refine RX.seqP_call (9) #[.agg #[.int .u8 a.op, .int .u8 a.v.k, .int .i64 a.v.n, .int .i64 a.v.u, .string a.v.t, .int .i64 a.m, .slice a.a a.len a.cap]] (.bool false) (by first | rfl | simp) (fun w' hw' hctx => ?_) (fun w' hw' hctx => large_is a w' (HIA.out.below (below_tr hdr hw')) false HLA.out) ?_
  · go_simp
  simp only [Act.put, List.setIfInBounds_toArray, List.set_cons_zero, List.set_cons_succ]
  refine RX.seqP_value (fun _ => Below.refl _ _) _ (by first | rfl | simp) (fun w' hw' hctx => by (go_simp); (try first | with_reducible rfl | simp)) ?_
  simp only [Act.put, List.setIfInBounds_toArray, List.set_cons_zero, List.set_cons_succ]
  refine RX.seqP_value (fun _ => Below.refl _ _) _ (by first | rfl | simp) (fun w' hw' hctx => by (go_simp); (try first | with_reducible rfl | simp)) ?_
  simp only [Act.put, List.setIfInBounds_toArray, List.set_cons_zero, List.set_cons_succ]
  refine RX.seqP_value (fun _ => Below.refl _ _) _ (by first | rfl | simp) (fun w' hw' hctx => ?_) ?_
  · obtain ⟨c0, c1, c2, c3, c4, c5, c6, c7⟩ := HBX.out.below (below_tr hdr hw')
    go_simp
    try first | with_reducible rfl | simp
  simp only [Act.put, List.setIfInBounds_toArray, List.set_cons_zero, List.set_cons_succ]
  refine RX.seqP_call (9) #[.agg #[.int .u8 b.op, .int .u8 b.v.k, .int .i64 b.v.n, .int .i64 b.v.u, .string b.v.t, .int .i64 b.m, .slice b.a b.len b.cap]] (.bool false) (by first | rfl | simp) (fun w' hw' hctx => ?_) (fun w' hw' hctx => large_is b w' (HIB.out.below (below_tr hdr hw')) false HLB.out) ?_
  · go_simp
  simp only [Act.put, List.setIfInBounds_toArray, List.set_cons_zero, List.set_cons_succ]
  refine RX.seqP_value (fun _ => Below.refl _ _) _ (by first | rfl | simp) (fun w' hw' hctx => by (go_simp); (try first | with_reducible rfl | simp)) ?_
  simp only [Act.put, List.setIfInBounds_toArray, List.set_cons_zero, List.set_cons_succ]
  refine RX.seqP_value (fun _ => Below.refl _ _) _ (by first | rfl | simp) (fun w' hw' hctx => by (go_simp); (try first | with_reducible rfl | simp)) ?_
  simp only [Act.put, List.setIfInBounds_toArray, List.set_cons_zero, List.set_cons_succ]
  refine RX.seqP_value (fun _ => Below.refl _ _) _ (by first | rfl | simp) (fun w' hw' hctx => by (go_simp); (try first | with_reducible rfl | simp)) ?_
  simp only [Act.put, List.setIfInBounds_toArray, List.set_cons_zero, List.set_cons_succ]
  refine RX.seqP_value (fun _ => Below.refl _ _) _ (by first | rfl | simp) (fun w' hw' hctx => by (go_simp); (try first | with_reducible rfl | simp)) ?_
  simp only [Act.put, List.setIfInBounds_toArray, List.set_cons_zero, List.set_cons_succ]
  refine RX.seqP_value (fun _ => Below.refl _ _) _ (by first | rfl | simp) (fun w' hw' hctx => by (go_simp); (try first | with_reducible rfl | simp)) ?_
  simp only [Act.put, List.setIfInBounds_toArray, List.set_cons_zero, List.set_cons_succ]
  refine RX.seqP_value (fun _ => Below.refl _ _) _ (by first | rfl | simp) (fun w' hw' hctx => by (go_simp); (try first | with_reducible rfl | simp)) ?_
  simp only [Act.put, List.setIfInBounds_toArray, List.set_cons_zero, List.set_cons_succ]
  refine RX.seqP_value (fun _ => Below.refl _ _) _ (by first | rfl | simp) (fun w' hw' hctx => by (go_simp); (try first | with_reducible rfl | simp)) ?_
  simp only [Act.put, List.setIfInBounds_toArray, List.set_cons_zero, List.set_cons_succ]
  refine RX.seqP_skip (by first | rfl | simp) ?_
  simp only [Act.put, List.setIfInBounds_toArray, List.set_cons_zero, List.set_cons_succ]
  refine RX.seqP_skip (by first | rfl | simp) ?_
  simp only [Act.put, List.setIfInBounds_toArray, List.set_cons_zero, List.set_cons_succ]
  refine RX.seqP_skip (by first | rfl | simp) ?_
  simp only [Act.put, List.setIfInBounds_toArray, List.set_cons_zero, List.set_cons_succ]
  refine RX.seqP_skip (by first | rfl | simp) ?_
  simp only [Act.put, List.setIfInBounds_toArray, List.set_cons_zero, List.set_cons_succ]
  refine RX.seqP_skip (by first | rfl | simp) ?_
  simp only [Act.put, List.setIfInBounds_toArray, List.set_cons_zero, List.set_cons_succ]
  refine RX.seqP_skip (by first | rfl | simp) ?_
  simp only [Act.put, List.setIfInBounds_toArray, List.set_cons_zero, List.set_cons_succ]
  refine RX.seqP_skip (by first | rfl | simp) ?_
  simp only [Act.put, List.setIfInBounds_toArray, List.set_cons_zero, List.set_cons_succ]
  refine RX.seqP_skip (by first | rfl | simp) ?_
  simp only [Act.put, List.setIfInBounds_toArray, List.set_cons_zero, List.set_cons_succ]
  refine RX.seqP_value (fun _ => Below.refl _ _) _ (by first | rfl | simp) (fun w' hw' hctx => by (go_simp); (try first | with_reducible rfl | simp)) ?_
  simp only [Act.put, List.setIfInBounds_toArray, List.set_cons_zero, List.set_cons_succ]
  refine RX.seqP_value (fun _ => Below.refl _ _) _ (by first | rfl | simp) (fun w' hw' hctx => by (go_simp); (try first | with_reducible rfl | simp)) ?_
  simp only [Act.put, List.setIfInBounds_toArray, List.set_cons_zero, List.set_cons_succ]
  refine RX.seqP_skip (by first | rfl | simp) ?_
  simp only [Act.put, List.setIfInBounds_toArray, List.set_cons_zero, List.set_cons_succ]
  refine RX.seqP_skip (by first | rfl | simp) ?_
  simp only [Act.put, List.setIfInBounds_toArray, List.set_cons_zero, List.set_cons_succ]
  refine RX.seqP_skip (by first | rfl | simp) ?_
  simp only [Act.put, List.setIfInBounds_toArray, List.set_cons_zero, List.set_cons_succ]
  refine RX.seqP_skip (by first | rfl | simp) ?_
  simp only [Act.put, List.setIfInBounds_toArray, List.set_cons_zero, List.set_cons_succ]
  refine RX.seqP_skip (by first | rfl | simp) ?_
  simp only [Act.put, List.setIfInBounds_toArray, List.set_cons_zero, List.set_cons_succ]
  refine RX.seqP_skip (by first | rfl | simp) ?_
  simp only [Act.put, List.setIfInBounds_toArray, List.set_cons_zero, List.set_cons_succ]
  refine RX.seqP_skip (by first | rfl | simp) ?_
  simp only [Act.put, List.setIfInBounds_toArray, List.set_cons_zero, List.set_cons_succ]
  refine RX.seqP_skip (by first | rfl | simp) ?_
  simp only [Act.put, List.setIfInBounds_toArray, List.set_cons_zero, List.set_cons_succ]
  refine RX.seqP_skip (by first | rfl | simp) ?_
  simp only [Act.put, List.setIfInBounds_toArray, List.set_cons_zero, List.set_cons_succ]
  refine RX.seqP_skip (by first | rfl | simp) ?_
  simp only [Act.put, List.setIfInBounds_toArray, List.set_cons_zero, List.set_cons_succ]
  refine RX.seqP_value (fun _ => Below.refl _ _) _ (by first | rfl | simp) (fun w' hw' hctx => by (go_simp); (try first | with_reducible rfl | simp)) ?_
  simp only [Act.put, List.setIfInBounds_toArray, List.set_cons_zero, List.set_cons_succ]
  refine RX.seqP_nil (fun v1 hR hctx _ => ?_)
  have hv1 := below_tr hdr hR
  clear hctx hR
  have HF := Lib.hid (below_tr HW.out hv1)
  clear hv1 hdr
  go_wp2_with fail
  refine (works_is _).mono ?_
  rintro _ v2 ⟨rfl, hv2⟩
  have HF2 := Lib.hid (below_tr HF.out hv2)
  clear hv2
  go_wp2_with fail
  go_ret
  exact ⟨rfl, HF2.out⟩

set_option maxRecDepth 100000 in
set_option maxHeartbeats 8000000 in
theorem truths_4 (a b : Ex) (r : Rw) (w : World) (ha : a.In w) (hb0 : b.In w) (hr : r.In w) (hla : decide (500 < a.sz) = false) (hlb : decide (500 < b.sz) = false) (hlr : decide (500 < r.len) = false) (hm1 : validB mayV hasAny (mk1 4 (mk2 11 a b)) = false) :
    Calls Try.prog 7 #[.agg #[.int .u8 a.op, .int .u8 a.v.k, .int .i64 a.v.n, .int .i64 a.v.u, .string a.v.t, .int .i64 a.m, .slice a.a a.len a.cap], .agg #[.int .u8 b.op, .int .u8 b.v.k, .int .i64 b.v.n, .int .i64 b.v.u, .string b.v.t, .int .i64 b.m, .slice b.a b.len b.cap], .slice r.a r.len r.cap] w fun x w' => x = .returned (.bool true) ∧ Below w.heap.size w w' := by
  obtain ⟨W, g, hW, hg, BA, BB, hb, hs⟩ := boxAB w a b
  have HA := Lib.hid BA
  have HBX := Lib.hid BB
  have HW := Lib.hid hb
  have HIA := Lib.hid (ha.below hb)
  have HIB := Lib.hid (hb0.below hb)
  have HR := Lib.hid (hr.below hb)
  have HLA := Lib.hid hla
  have HLB := Lib.hid hlb
  have HLR := Lib.hid hlr
  have HM1 := Lib.hid hm1
  have hlr1 : decide ((500 : Int) < (r.len : Int)) = false := by rw [← HLR.out, decide_eq_decide]; omega
  clear ha hb0 hr hb BA BB hs hla hlb hlr hm1
  go_enter Try.func7, Try.ntmps7
  go_wp2_with fail
  have hdr := below_drw W
  try simp only [List.append_eq, List.cons_append, List.nil_append]
  refine RX.wp_region_plan (fun w w' => Below w.heap.size w w') [.it (.bool true), .it (.bool false), .it (.bool false), .it (.agg #[.int .u8 a.op, .int .u8 a.v.k, .int .i64 a.v.n, .int .i64 a.v.u, .string a.v.t, .int .i64 a.m, .slice a.a a.len a.cap]), .it (.bool false), .it (.bool false), .it (.bool false), .it (.agg #[.int .u8 b.op, .int .u8 b.v.k, .int .i64 b.v.n, .int .i64 b.v.u, .string b.v.t, .int .i64 b.m, .slice b.a b.len b.cap]), .it (.bool false), .it (.bool false), .it (.bool false), .it (.slice r.a r.len r.cap), .it (.int .i64 r.len), .it (.bool false), .it (.bool false), .it (.bool false), .it (.agg #[.int .u8 a.op, .int .u8 a.v.k, .int .i64 a.v.n, .int .i64 a.v.u, .string a.v.t, .int .i64 a.m, .slice a.a a.len a.cap]), .it (.agg #[.int .u8 b.op, .int .u8 b.v.k, .int .i64 b.v.n, .int .i64 b.v.u, .string b.v.t, .int .i64 b.m, .slice b.a b.len b.cap]), .of (IsS 2 (fun i => if i = 0 then a else b)), .of (IsE (mk2 11 a b)), .of (IsS 1 (fun _ => (mk2 11 a b))), .of (IsE (mk1 4 (mk2 11 a b))), .it (.bool false), .it (.bool true), .it (.bool true), .it (.bool true), .it undef, .it undef, .it undef, .it undef, .it undef, .it undef, .it undef, .it undef, .it undef, .it undef, .it (.bool true)] (by kernel_rfl) (by kernel_rfl) (fun _ => Below.refl _ _) (fun _ _ _ => below_tr) ?_
  refine RX.seqP_call (8) #[] (.bool true) (by first | rfl | simp) (fun w' hw' hctx => ?_) (fun w' hw' hctx => works_is w') ?_
  · go_simp
  simp only [Act.put, List.setIfInBounds_toArray, List.set_cons_zero, List.set_cons_succ]
  refine RX.seqP_value (fun _ => Below.refl _ _) _ (by first | rfl | simp) (fun w' hw' hctx => by (go_simp); (try first | with_reducible rfl | simp)) ?_
  simp only [Act.put, List.setIfInBounds_toArray, List.set_cons_zero, List.set_cons_succ]
  refine RX.seqP_value (fun _ => Below.refl _ _) _ (by first | rfl | simp) (fun w' hw' hctx => by (go_simp); (try first | with_reducible rfl | simp)) ?_
  simp only [Act.put, List.setIfInBounds_toArray, List.set_cons_zero, List.set_cons_succ]
  refine RX.seqP_value (fun _ => Below.refl _ _) _ (by first | rfl | simp) (fun w' hw' hctx => ?_) ?_
  · obtain ⟨c0, c1, c2, c3, c4, c5, c6, c7⟩ := HA.out.below (below_tr hdr hw')
    go_simp
    try first | with_reducible rfl | simp
  simp only [Act.put, List.setIfInBounds_toArray, List.set_cons_zero, List.set_cons_succ]
  refine RX.seqP_call (9) #[.agg #[.int .u8 a.op, .int .u8 a.v.k, .int .i64 a.v.n, .int .i64 a.v.u, .string a.v.t, .int .i64 a.m, .slice a.a a.len a.cap]] (.bool false) (by first | rfl | simp) (fun w' hw' hctx => ?_) (fun w' hw' hctx => large_is a w' (HIA.out.below (below_tr hdr hw')) false HLA.out) ?_
  · go_simp
  simp only [Act.put, List.setIfInBounds_toArray, List.set_cons_zero, List.set_cons_succ]
  refine RX.seqP_value (fun _ => Below.refl _ _) _ (by first | rfl | simp) (fun w' hw' hctx => by (go_simp); (try first | with_reducible rfl | simp)) ?_
  simp only [Act.put, List.setIfInBounds_toArray, List.set_cons_zero, List.set_cons_succ]
  refine RX.seqP_value (fun _ => Below.refl _ _) _ (by first | rfl | simp) (fun w' hw' hctx => by (go_simp); (try first | with_reducible rfl | simp)) ?_
  simp only [Act.put, List.setIfInBounds_toArray, List.set_cons_zero, List.set_cons_succ]
  refine RX.seqP_value (fun _ => Below.refl _ _) _ (by first | rfl | simp) (fun w' hw' hctx => ?_) ?_
  · obtain ⟨c0, c1, c2, c3, c4, c5, c6, c7⟩ := HBX.out.below (below_tr hdr hw')
    go_simp
    try first | with_reducible rfl | simp
  simp only [Act.put, List.setIfInBounds_toArray, List.set_cons_zero, List.set_cons_succ]
  refine RX.seqP_call (9) #[.agg #[.int .u8 b.op, .int .u8 b.v.k, .int .i64 b.v.n, .int .i64 b.v.u, .string b.v.t, .int .i64 b.m, .slice b.a b.len b.cap]] (.bool false) (by first | rfl | simp) (fun w' hw' hctx => ?_) (fun w' hw' hctx => large_is b w' (HIB.out.below (below_tr hdr hw')) false HLB.out) ?_
  · go_simp
  simp only [Act.put, List.setIfInBounds_toArray, List.set_cons_zero, List.set_cons_succ]
  refine RX.seqP_value (fun _ => Below.refl _ _) _ (by first | rfl | simp) (fun w' hw' hctx => by (go_simp); (try first | with_reducible rfl | simp)) ?_
  simp only [Act.put, List.setIfInBounds_toArray, List.set_cons_zero, List.set_cons_succ]
  refine RX.seqP_value (fun _ => Below.refl _ _) _ (by first | rfl | simp) (fun w' hw' hctx => by (go_simp); (try first | with_reducible rfl | simp)) ?_
  simp only [Act.put, List.setIfInBounds_toArray, List.set_cons_zero, List.set_cons_succ]
  refine RX.seqP_value (fun _ => Below.refl _ _) _ (by first | rfl | simp) (fun w' hw' hctx => by (go_simp); (try first | with_reducible rfl | simp)) ?_
  simp only [Act.put, List.setIfInBounds_toArray, List.set_cons_zero, List.set_cons_succ]
  refine RX.seqP_value (fun _ => Below.refl _ _) _ (by first | rfl | simp) (fun w' hw' hctx => by (go_simp); (try first | with_reducible rfl | simp)) ?_
  simp only [Act.put, List.setIfInBounds_toArray, List.set_cons_zero, List.set_cons_succ]
  refine RX.seqP_value (fun _ => Below.refl _ _) _ (by first | rfl | simp) (fun w' hw' hctx => by (go_simp); (try first | with_reducible rfl | simp)) ?_
  simp only [Act.put, List.setIfInBounds_toArray, List.set_cons_zero, List.set_cons_succ]
  refine RX.seqP_value (fun _ => Below.refl _ _) _ (by first | rfl | simp) (fun w' hw' hctx => by (go_simp); (try first | with_reducible rfl | simp)) ?_
  simp only [Act.put, List.setIfInBounds_toArray, List.set_cons_zero, List.set_cons_succ]
  refine RX.seqP_value (fun _ => Below.refl _ _) _ (by first | rfl | simp) (fun w' hw' hctx => by (go_simp); (try first | with_reducible rfl | simp)) ?_
  simp only [Act.put, List.setIfInBounds_toArray, List.set_cons_zero, List.set_cons_succ]
  refine RX.seqP_value (fun _ => Below.refl _ _) _ (by first | rfl | simp) (fun w' hw' hctx => ?_) ?_
  · obtain ⟨c0, c1, c2, c3, c4, c5, c6, c7⟩ := HA.out.below (below_tr hdr hw')
    go_simp
    try first | with_reducible rfl | simp
  simp only [Act.put, List.setIfInBounds_toArray, List.set_cons_zero, List.set_cons_succ]
  refine RX.seqP_value (fun _ => Below.refl _ _) _ (by first | rfl | simp) (fun w' hw' hctx => ?_) ?_
  · obtain ⟨c0, c1, c2, c3, c4, c5, c6, c7⟩ := HBX.out.below (below_tr hdr hw')
    go_simp
    try first | with_reducible rfl | simp
  simp only [Act.put, List.setIfInBounds_toArray, List.set_cons_zero, List.set_cons_succ]
  refine RX.seqP_make (IsS 2 (fun i => if i = 0 then a else b)) (fun w w' v hb h => h.below hb) (by first | rfl | simp) (fun w' hw' hctx => ?_) (fun u18 => ?_)
  · exact ⟨.slice (some ⟨w'.heap.size, 0, none⟩) 2 2, w'.alloc (.cells #[.int .u8 a.op, .int .u8 a.v.k, .int .i64 a.v.n, .int .i64 a.v.u, .string a.v.t, .int .i64 a.m, .slice a.a a.len a.cap, .int .u8 b.op, .int .u8 b.v.k, .int .i64 b.v.n, .int .i64 b.v.u, .string b.v.t, .int .i64 b.m, .slice b.a b.len b.cap] 26), by go_simp, Below.allocs _ _, isS2_new w' a a b b (HIA.out.below (below_tr hdr hw')) (Same.refl _) (HIB.out.below (below_tr hdr hw')) (Same.refl _)⟩
  simp only [Act.put, List.setIfInBounds_toArray, List.set_cons_zero, List.set_cons_succ]
  refine RX.seqP_callOf (20) #[.int .u8 11, u18] (IsE (mk2 11 a b)) (fun w w' v hb h => h.below hb) (by first | rfl | simp) (fun w' hw' hctx => ?_) (fun w' hw' hctx => of2_is 11 (by decide) (by decide) _ _ w' hctx.1) (fun u19 => ?_)
  · go_simp
  simp only [Act.put, List.setIfInBounds_toArray, List.set_cons_zero, List.set_cons_succ]
  refine RX.seqP_make (IsS 1 (fun _ => (mk2 11 a b))) (fun w w' v hb h => h.below hb) (by first | rfl | simp) (fun w' hw' hctx => ?_) (fun u20 => ?_)
  · obtain ⟨e0, rfl, hin0, hs0⟩ := hctx.1
    exact ⟨.slice (some ⟨w'.heap.size, 0, none⟩) 1 1, w'.alloc (.cells #[.int .u8 e0.op, .int .u8 e0.v.k, .int .i64 e0.v.n, .int .i64 e0.v.u, .string e0.v.t, .int .i64 e0.m, .slice e0.a e0.len e0.cap] 26), by go_simp, Below.allocs _ _, isS1_new w' e0 (mk2 11 a b) hin0 hs0⟩
  simp only [Act.put, List.setIfInBounds_toArray, List.set_cons_zero, List.set_cons_succ]
  refine RX.seqP_callOf (20) #[.int .u8 4, u20] (IsE (mk1 4 (mk2 11 a b))) (fun w w' v hb h => h.below hb) (by first | rfl | simp) (fun w' hw' hctx => ?_) (fun w' hw' hctx => of1_is 4 (by decide) (by decide) _ _ w' hctx.1) (fun u21 => ?_)
  · go_simp
  simp only [Act.put, List.setIfInBounds_toArray, List.set_cons_zero, List.set_cons_succ]
  refine RX.seqP_call (19) #[u21] (.bool false) (by first | rfl | simp) (fun w' hw' hctx => ?_) (fun w' hw' hctx => may_of _ false HM1.out _ w' hctx.1) ?_
  · go_simp
  simp only [Act.put, List.setIfInBounds_toArray, List.set_cons_zero, List.set_cons_succ]
  refine RX.seqP_value (fun _ => Below.refl _ _) _ (by first | rfl | simp) (fun w' hw' hctx => by (go_simp); (try first | with_reducible rfl | simp)) ?_
  simp only [Act.put, List.setIfInBounds_toArray, List.set_cons_zero, List.set_cons_succ]
  refine RX.seqP_value (fun _ => Below.refl _ _) _ (by first | rfl | simp) (fun w' hw' hctx => by (go_simp); (try first | with_reducible rfl | simp)) ?_
  simp only [Act.put, List.setIfInBounds_toArray, List.set_cons_zero, List.set_cons_succ]
  refine RX.seqP_value (fun _ => Below.refl _ _) _ (by first | rfl | simp) (fun w' hw' hctx => by (go_simp); (try first | with_reducible rfl | simp)) ?_
  simp only [Act.put, List.setIfInBounds_toArray, List.set_cons_zero, List.set_cons_succ]
  refine RX.seqP_skip (by first | rfl | simp) ?_
  simp only [Act.put, List.setIfInBounds_toArray, List.set_cons_zero, List.set_cons_succ]
  refine RX.seqP_skip (by first | rfl | simp) ?_
  simp only [Act.put, List.setIfInBounds_toArray, List.set_cons_zero, List.set_cons_succ]
  refine RX.seqP_skip (by first | rfl | simp) ?_
  simp only [Act.put, List.setIfInBounds_toArray, List.set_cons_zero, List.set_cons_succ]
  refine RX.seqP_skip (by first | rfl | simp) ?_
  simp only [Act.put, List.setIfInBounds_toArray, List.set_cons_zero, List.set_cons_succ]
  refine RX.seqP_skip (by first | rfl | simp) ?_
  simp only [Act.put, List.setIfInBounds_toArray, List.set_cons_zero, List.set_cons_succ]
  refine RX.seqP_skip (by first | rfl | simp) ?_
  simp only [Act.put, List.setIfInBounds_toArray, List.set_cons_zero, List.set_cons_succ]
  refine RX.seqP_skip (by first | rfl | simp) ?_
  simp only [Act.put, List.setIfInBounds_toArray, List.set_cons_zero, List.set_cons_succ]
  refine RX.seqP_skip (by first | rfl | simp) ?_
  simp only [Act.put, List.setIfInBounds_toArray, List.set_cons_zero, List.set_cons_succ]
  refine RX.seqP_skip (by first | rfl | simp) ?_
  simp only [Act.put, List.setIfInBounds_toArray, List.set_cons_zero, List.set_cons_succ]
  refine RX.seqP_skip (by first | rfl | simp) ?_
  simp only [Act.put, List.setIfInBounds_toArray, List.set_cons_zero, List.set_cons_succ]
  refine RX.seqP_value (fun _ => Below.refl _ _) _ (by first | rfl | simp) (fun w' hw' hctx => by (go_simp); (try first | with_reducible rfl | simp)) ?_
  simp only [Act.put, List.setIfInBounds_toArray, List.set_cons_zero, List.set_cons_succ]
  refine RX.seqP_nil (fun v1 hR hctx _ => ?_)
  have hv1 := below_tr hdr hR
  clear hctx hR
  have HF := Lib.hid (below_tr HW.out hv1)
  clear hv1 hdr
  go_wp2_with fail
  refine (works_is _).mono ?_
  rintro _ v2 ⟨rfl, hv2⟩
  have HF2 := Lib.hid (below_tr HF.out hv2)
  clear hv2
  go_wp2_with fail
  go_ret
  exact ⟨rfl, HF2.out⟩

set_option maxRecDepth 100000 in
set_option maxHeartbeats 8000000 in
theorem truths_5 (a b : Ex) (r : Rw) (w : World) (ha : a.In w) (hb0 : b.In w) (hr : r.In w) (hla : decide (500 < a.sz) = false) (hlb : decide (500 < b.sz) = false) (hlr : decide (500 < r.len) = false) (hm1 : validB mayV hasAny (mk1 4 (mk2 11 a b)) = true) (hm2 : validB mayV hasAny (mk2 11 (mk1 4 a) (mk1 4 b)) = false) :
    Calls Try.prog 7 #[.agg #[.int .u8 a.op, .int .u8 a.v.k, .int .i64 a.v.n, .int .i64 a.v.u, .string a.v.t, .int .i64 a.m, .slice a.a a.len a.cap], .agg #[.int .u8 b.op, .int .u8 b.v.k, .int .i64 b.v.n, .int .i64 b.v.u, .string b.v.t, .int .i64 b.m, .slice b.a b.len b.cap], .slice r.a r.len r.cap] w fun x w' => x = .returned (.bool true) ∧ Below w.heap.size w w' := by
  obtain ⟨W, g, hW, hg, BA, BB, hb, hs⟩ := boxAB w a b
  have HA := Lib.hid BA
  have HBX := Lib.hid BB
  have HW := Lib.hid hb
  have HIA := Lib.hid (ha.below hb)
  have HIB := Lib.hid (hb0.below hb)
  have HR := Lib.hid (hr.below hb)
  have HLA := Lib.hid hla
  have HLB := Lib.hid hlb
  have HLR := Lib.hid hlr
  have HM1 := Lib.hid hm1
  have HM2 := Lib.hid hm2
  have hlr1 : decide ((500 : Int) < (r.len : Int)) = false := by rw [← HLR.out, decide_eq_decide]; omega
  clear ha hb0 hr hb BA BB hs hla hlb hlr hm1 hm2
  go_enter Try.func7, Try.ntmps7
  go_wp2_with fail
  have hdr := below_drw W
  try simp only [List.append_eq, List.cons_append, List.nil_append]
  refine RX.wp_region_plan (fun w w' => Below w.heap.size w w') [.it (.bool true), .it (.bool false), .it (.bool false), .it (.agg #[.int .u8 a.op, .int .u8 a.v.k, .int .i64 a.v.n, .int .i64 a.v.u, .string a.v.t, .int .i64 a.m, .slice a.a a.len a.cap]), .it (.bool false), .it (.bool false), .it (.bool false), .it (.agg #[.int .u8 b.op, .int .u8 b.v.k, .int .i64 b.v.n, .int .i64 b.v.u, .string b.v.t, .int .i64 b.m, .slice b.a b.len b.cap]), .it (.bool false), .it (.bool false), .it (.bool false), .it (.slice r.a r.len r.cap), .it (.int .i64 r.len), .it (.bool false), .it (.bool false), .it (.bool false), .it (.agg #[.int .u8 a.op, .int .u8 a.v.k, .int .i64 a.v.n, .int .i64 a.v.u, .string a.v.t, .int .i64 a.m, .slice a.a a.len a.cap]), .it (.agg #[.int .u8 b.op, .int .u8 b.v.k, .int .i64 b.v.n, .int .i64 b.v.u, .string b.v.t, .int .i64 b.m, .slice b.a b.len b.cap]), .of (IsS 2 (fun i => if i = 0 then a else b)), .of (IsE (mk2 11 a b)), .of (IsS 1 (fun _ => (mk2 11 a b))), .of (IsE (mk1 4 (mk2 11 a b))), .it (.bool true), .it (.bool false), .it (.bool false), .it (.bool false), .it (.agg #[.int .u8 a.op, .int .u8 a.v.k, .int .i64 a.v.n, .int .i64 a.v.u, .string a.v.t, .int .i64 a.m, .slice a.a a.len a.cap]), .of (IsS 1 (fun _ => a)), .of (IsE (mk1 4 a)), .it (.agg #[.int .u8 b.op, .int .u8 b.v.k, .int .i64 b.v.n, .int .i64 b.v.u, .string b.v.t, .int .i64 b.m, .slice b.a b.len b.cap]), .of (IsS 1 (fun _ => b)), .of (IsE (mk1 4 b)), .of (IsS 2 (fun i => if i = 0 then (mk1 4 a) else (mk1 4 b))), .of (IsE (mk2 11 (mk1 4 a) (mk1 4 b))), .it (.bool false), .it (.bool true), .it (.bool true)] (by kernel_rfl) (by kernel_rfl) (fun _ => Below.refl _ _) (fun _ _ _ => below_tr) ?_
  refine RX.seqP_call (8) #[] (.bool true) (by first | rfl | simp) (fun w' hw' hctx => ?_) (fun w' hw' hctx => works_is w') ?_
  · go_simp
  simp only [Act.put, List.setIfInBounds_toArray, List.set_cons_zero, List.set_cons_succ]
  refine RX.seqP_value (fun _ => Below.refl _ _) _ (by first | rfl | simp) (fun w' hw' hctx => by (go_simp); (try first | with_reducible rfl | simp)) ?_
  simp only [Act.put, List.setIfInBounds_toArray, List.set_cons_zero, List.set_cons_succ]
  refine RX.seqP_value (fun _ => Below.refl _ _) _ (by first | rfl | simp) (fun w' hw' hctx => by (go_simp); (try first | with_reducible rfl | simp)) ?_
  simp only [Act.put, List.setIfInBounds_toArray, List.set_cons_zero, List.set_cons_succ]
  refine RX.seqP_value (fun _ => Below.refl _ _) _ (by first | rfl | simp) (fun w' hw' hctx => ?_) ?_
  · obtain ⟨c0, c1, c2, c3, c4, c5, c6, c7⟩ := HA.out.below (below_tr hdr hw')
    go_simp
    try first | with_reducible rfl | simp
  simp only [Act.put, List.setIfInBounds_toArray, List.set_cons_zero, List.set_cons_succ]
  refine RX.seqP_call (9) #[.agg #[.int .u8 a.op, .int .u8 a.v.k, .int .i64 a.v.n, .int .i64 a.v.u, .string a.v.t, .int .i64 a.m, .slice a.a a.len a.cap]] (.bool false) (by first | rfl | simp) (fun w' hw' hctx => ?_) (fun w' hw' hctx => large_is a w' (HIA.out.below (below_tr hdr hw')) false HLA.out) ?_
  · go_simp
  simp only [Act.put, List.setIfInBounds_toArray, List.set_cons_zero, List.set_cons_succ]
  refine RX.seqP_value (fun _ => Below.refl _ _) _ (by first | rfl | simp) (fun w' hw' hctx => by (go_simp); (try first | with_reducible rfl | simp)) ?_
  simp only [Act.put, List.setIfInBounds_toArray, List.set_cons_zero, List.set_cons_succ]
  refine RX.seqP_value (fun _ => Below.refl _ _) _ (by first | rfl | simp) (fun w' hw' hctx => by (go_simp); (try first | with_reducible rfl | simp)) ?_
  simp only [Act.put, List.setIfInBounds_toArray, List.set_cons_zero, List.set_cons_succ]
  refine RX.seqP_value (fun _ => Below.refl _ _) _ (by first | rfl | simp) (fun w' hw' hctx => ?_) ?_
  · obtain ⟨c0, c1, c2, c3, c4, c5, c6, c7⟩ := HBX.out.below (below_tr hdr hw')
    go_simp
    try first | with_reducible rfl | simp
  simp only [Act.put, List.setIfInBounds_toArray, List.set_cons_zero, List.set_cons_succ]
  refine RX.seqP_call (9) #[.agg #[.int .u8 b.op, .int .u8 b.v.k, .int .i64 b.v.n, .int .i64 b.v.u, .string b.v.t, .int .i64 b.m, .slice b.a b.len b.cap]] (.bool false) (by first | rfl | simp) (fun w' hw' hctx => ?_) (fun w' hw' hctx => large_is b w' (HIB.out.below (below_tr hdr hw')) false HLB.out) ?_
  · go_simp
  simp only [Act.put, List.setIfInBounds_toArray, List.set_cons_zero, List.set_cons_succ]
  refine RX.seqP_value (fun _ => Below.refl _ _) _ (by first | rfl | simp) (fun w' hw' hctx => by (go_simp); (try first | with_reducible rfl | simp)) ?_
  simp only [Act.put, List.setIfInBounds_toArray, List.set_cons_zero, List.set_cons_succ]
  refine RX.seqP_value (fun _ => Below.refl _ _) _ (by first | rfl | simp) (fun w' hw' hctx => by (go_simp); (try first | with_reducible rfl | simp)) ?_
  simp only [Act.put, List.setIfInBounds_toArray, List.set_cons_zero, List.set_cons_succ]
  refine RX.seqP_value (fun _ => Below.refl _ _) _ (by first | rfl | simp) (fun w' hw' hctx => by (go_simp); (try first | with_reducible rfl | simp)) ?_
  simp only [Act.put, List.setIfInBounds_toArray, List.set_cons_zero, List.set_cons_succ]
  refine RX.seqP_value (fun _ => Below.refl _ _) _ (by first | rfl | simp) (fun w' hw' hctx => by (go_simp); (try first | with_reducible rfl | simp)) ?_
  simp only [Act.put, List.setIfInBounds_toArray, List.set_cons_zero, List.set_cons_succ]
  refine RX.seqP_value (fun _ => Below.refl _ _) _ (by first | rfl | simp) (fun w' hw' hctx => by (go_simp); (try first | with_reducible rfl | simp)) ?_
  simp only [Act.put, List.setIfInBounds_toArray, List.set_cons_zero, List.set_cons_succ]
  refine RX.seqP_value (fun _ => Below.refl _ _) _ (by first | rfl | simp) (fun w' hw' hctx => by (go_simp); (try first | with_reducible rfl | simp)) ?_
  simp only [Act.put, List.setIfInBounds_toArray, List.set_cons_zero, List.set_cons_succ]
  refine RX.seqP_value (fun _ => Below.refl _ _) _ (by first | rfl | simp) (fun w' hw' hctx => by (go_simp); (try first | with_reducible rfl | simp)) ?_
  simp only [Act.put, List.setIfInBounds_toArray, List.set_cons_zero, List.set_cons_succ]
  refine RX.seqP_value (fun _ => Below.refl _ _) _ (by first | rfl | simp) (fun w' hw' hctx => ?_) ?_
  · obtain ⟨c0, c1, c2, c3, c4, c5, c6, c7⟩ := HA.out.below (below_tr hdr hw')
    go_simp
    try first | with_reducible rfl | simp
  simp only [Act.put, List.setIfInBounds_toArray, List.set_cons_zero, List.set_cons_succ]
  refine RX.seqP_value (fun _ => Below.refl _ _) _ (by first | rfl | simp) (fun w' hw' hctx => ?_) ?_
  · obtain ⟨c0, c1, c2, c3, c4, c5, c6, c7⟩ := HBX.out.below (below_tr hdr hw')
    go_simp
    try first | with_reducible rfl | simp
  simp only [Act.put, List.setIfInBounds_toArray, List.set_cons_zero, List.set_cons_succ]
  refine RX.seqP_make (IsS 2 (fun i => if i = 0 then a else b)) (fun w w' v hb h => h.below hb) (by first | rfl | simp) (fun w' hw' hctx => ?_) (fun u18 => ?_)
  · exact ⟨.slice (some ⟨w'.heap.size, 0, none⟩) 2 2, w'.alloc (.cells #[.int .u8 a.op, .int .u8 a.v.k, .int .i64 a.v.n, .int .i64 a.v.u, .string a.v.t, .int .i64 a.m, .slice a.a a.len a.cap, .int .u8 b.op, .int .u8 b.v.k, .int .i64 b.v.n, .int .i64 b.v.u, .string b.v.t, .int .i64 b.m, .slice b.a b.len b.cap] 26), by go_simp, Below.allocs _ _, isS2_new w' a a b b (HIA.out.below (below_tr hdr hw')) (Same.refl _) (HIB.out.below (below_tr hdr hw')) (Same.refl _)⟩
  simp only [Act.put, List.setIfInBounds_toArray, List.set_cons_zero, List.set_cons_succ]
  refine RX.seqP_callOf (20) #[.int .u8 11, u18] (IsE (mk2 11 a b)) (fun w w' v hb h => h.below hb) (by first | rfl | simp) (fun w' hw' hctx => ?_) (fun w' hw' hctx => of2_is 11 (by decide) (by decide) _ _ w' hctx.1) (fun u19 => ?_)
  · go_simp
  simp only [Act.put, List.setIfInBounds_toArray, List.set_cons_zero, List.set_cons_succ]
  refine RX.seqP_make (IsS 1 (fun _ => (mk2 11 a b))) (fun w w' v hb h => h.below hb) (by first | rfl | simp) (fun w' hw' hctx => ?_) (fun u20 => ?_)
  · obtain ⟨e0, rfl, hin0, hs0⟩ := hctx.1
    exact ⟨.slice (some ⟨w'.heap.size, 0, none⟩) 1 1, w'.alloc (.cells #[.int .u8 e0.op, .int .u8 e0.v.k, .int .i64 e0.v.n, .int .i64 e0.v.u, .string e0.v.t, .int .i64 e0.m, .slice e0.a e0.len e0.cap] 26), by go_simp, Below.allocs _ _, isS1_new w' e0 (mk2 11 a b) hin0 hs0⟩
  simp only [Act.put, List.setIfInBounds_toArray, List.set_cons_zero, List.set_cons_succ]
  refine RX.seqP_callOf (20) #[.int .u8 4, u20] (IsE (mk1 4 (mk2 11 a b))) (fun w w' v hb h => h.below hb) (by first | rfl | simp) (fun w' hw' hctx => ?_) (fun w' hw' hctx => of1_is 4 (by decide) (by decide) _ _ w' hctx.1) (fun u21 => ?_)
  · go_simp
  simp only [Act.put, List.setIfInBounds_toArray, List.set_cons_zero, List.set_cons_succ]
  refine RX.seqP_call (19) #[u21] (.bool true) (by first | rfl | simp) (fun w' hw' hctx => ?_) (fun w' hw' hctx => may_of _ true HM1.out _ w' hctx.1) ?_
  · go_simp
  simp only [Act.put, List.setIfInBounds_toArray, List.set_cons_zero, List.set_cons_succ]
  refine RX.seqP_value (fun _ => Below.refl _ _) _ (by first | rfl | simp) (fun w' hw' hctx => by (go_simp); (try first | with_reducible rfl | simp)) ?_
  simp only [Act.put, List.setIfInBounds_toArray, List.set_cons_zero, List.set_cons_succ]
  refine RX.seqP_value (fun _ => Below.refl _ _) _ (by first | rfl | simp) (fun w' hw' hctx => by (go_simp); (try first | with_reducible rfl | simp)) ?_
  simp only [Act.put, List.setIfInBounds_toArray, List.set_cons_zero, List.set_cons_succ]
  refine RX.seqP_value (fun _ => Below.refl _ _) _ (by first | rfl | simp) (fun w' hw' hctx => by (go_simp); (try first | with_reducible rfl | simp)) ?_
  simp only [Act.put, List.setIfInBounds_toArray, List.set_cons_zero, List.set_cons_succ]
  refine RX.seqP_value (fun _ => Below.refl _ _) _ (by first | rfl | simp) (fun w' hw' hctx => ?_) ?_
  · obtain ⟨c0, c1, c2, c3, c4, c5, c6, c7⟩ := HA.out.below (below_tr hdr hw')
    go_simp
    try first | with_reducible rfl | simp
  simp only [Act.put, List.setIfInBounds_toArray, List.set_cons_zero, List.set_cons_succ]
  refine RX.seqP_make (IsS 1 (fun _ => a)) (fun w w' v hb h => h.below hb) (by first | rfl | simp) (fun w' hw' hctx => ?_) (fun u27 => ?_)
  · exact ⟨.slice (some ⟨w'.heap.size, 0, none⟩) 1 1, w'.alloc (.cells #[.int .u8 a.op, .int .u8 a.v.k, .int .i64 a.v.n, .int .i64 a.v.u, .string a.v.t, .int .i64 a.m, .slice a.a a.len a.cap] 26), by go_simp, Below.allocs _ _, isS1_new w' a a (HIA.out.below (below_tr hdr hw')) (Same.refl _)⟩
  simp only [Act.put, List.setIfInBounds_toArray, List.set_cons_zero, List.set_cons_succ]
  refine RX.seqP_callOf (20) #[.int .u8 4, u27] (IsE (mk1 4 a)) (fun w w' v hb h => h.below hb) (by first | rfl | simp) (fun w' hw' hctx => ?_) (fun w' hw' hctx => of1_is 4 (by decide) (by decide) _ _ w' hctx.1) (fun u28 => ?_)
  · go_simp
  simp only [Act.put, List.setIfInBounds_toArray, List.set_cons_zero, List.set_cons_succ]
  refine RX.seqP_value (fun _ => Below.refl _ _) _ (by first | rfl | simp) (fun w' hw' hctx => ?_) ?_
  · obtain ⟨c0, c1, c2, c3, c4, c5, c6, c7⟩ := HBX.out.below (below_tr hdr hw')
    go_simp
    try first | with_reducible rfl | simp
  simp only [Act.put, List.setIfInBounds_toArray, List.set_cons_zero, List.set_cons_succ]
  refine RX.seqP_make (IsS 1 (fun _ => b)) (fun w w' v hb h => h.below hb) (by first | rfl | simp) (fun w' hw' hctx => ?_) (fun u30 => ?_)
  · exact ⟨.slice (some ⟨w'.heap.size, 0, none⟩) 1 1, w'.alloc (.cells #[.int .u8 b.op, .int .u8 b.v.k, .int .i64 b.v.n, .int .i64 b.v.u, .string b.v.t, .int .i64 b.m, .slice b.a b.len b.cap] 26), by go_simp, Below.allocs _ _, isS1_new w' b b (HIB.out.below (below_tr hdr hw')) (Same.refl _)⟩
  simp only [Act.put, List.setIfInBounds_toArray, List.set_cons_zero, List.set_cons_succ]
  refine RX.seqP_callOf (20) #[.int .u8 4, u30] (IsE (mk1 4 b)) (fun w w' v hb h => h.below hb) (by first | rfl | simp) (fun w' hw' hctx => ?_) (fun w' hw' hctx => of1_is 4 (by decide) (by decide) _ _ w' hctx.1) (fun u31 => ?_)
  · go_simp
  simp only [Act.put, List.setIfInBounds_toArray, List.set_cons_zero, List.set_cons_succ]
  refine RX.seqP_make (IsS 2 (fun i => if i = 0 then (mk1 4 a) else (mk1 4 b))) (fun w w' v hb h => h.below hb) (by first | rfl | simp) (fun w' hw' hctx => ?_) (fun u32 => ?_)
  · obtain ⟨e0, rfl, hin0, hs0⟩ := hctx.2.2.1
    obtain ⟨e1, rfl, hin1, hs1⟩ := hctx.1
    exact ⟨.slice (some ⟨w'.heap.size, 0, none⟩) 2 2, w'.alloc (.cells #[.int .u8 e0.op, .int .u8 e0.v.k, .int .i64 e0.v.n, .int .i64 e0.v.u, .string e0.v.t, .int .i64 e0.m, .slice e0.a e0.len e0.cap, .int .u8 e1.op, .int .u8 e1.v.k, .int .i64 e1.v.n, .int .i64 e1.v.u, .string e1.v.t, .int .i64 e1.m, .slice e1.a e1.len e1.cap] 26), by go_simp, Below.allocs _ _, isS2_new w' e0 (mk1 4 a) e1 (mk1 4 b) hin0 hs0 hin1 hs1⟩
  simp only [Act.put, List.setIfInBounds_toArray, List.set_cons_zero, List.set_cons_succ]
  refine RX.seqP_callOf (20) #[.int .u8 11, u32] (IsE (mk2 11 (mk1 4 a) (mk1 4 b))) (fun w w' v hb h => h.below hb) (by first | rfl | simp) (fun w' hw' hctx => ?_) (fun w' hw' hctx => of2_is 11 (by decide) (by decide) _ _ w' hctx.1) (fun u33 => ?_)
  · go_simp
  simp only [Act.put, List.setIfInBounds_toArray, List.set_cons_zero, List.set_cons_succ]
  refine RX.seqP_call (19) #[u33] (.bool false) (by first | rfl | simp) (fun w' hw' hctx => ?_) (fun w' hw' hctx => may_of _ false HM2.out _ w' hctx.1) ?_
  · go_simp
  simp only [Act.put, List.setIfInBounds_toArray, List.set_cons_zero, List.set_cons_succ]
  refine RX.seqP_value (fun _ => Below.refl _ _) _ (by first | rfl | simp) (fun w' hw' hctx => by (go_simp); (try first | with_reducible rfl | simp)) ?_
  simp only [Act.put, List.setIfInBounds_toArray, List.set_cons_zero, List.set_cons_succ]
  refine RX.seqP_value (fun _ => Below.refl _ _) _ (by first | rfl | simp) (fun w' hw' hctx => by (go_simp); (try first | with_reducible rfl | simp)) ?_
  simp only [Act.put, List.setIfInBounds_toArray, List.set_cons_zero, List.set_cons_succ]
  refine RX.seqP_nil (fun v1 hR hctx _ => ?_)
  have hv1 := below_tr hdr hR
  clear hctx hR
  have HF := Lib.hid (below_tr HW.out hv1)
  clear hv1 hdr
  go_wp2_with fail
  refine (works_is _).mono ?_
  rintro _ v2 ⟨rfl, hv2⟩
  have HF2 := Lib.hid (below_tr HF.out hv2)
  clear hv2
  go_wp2_with fail
  go_ret
  exact ⟨rfl, HF2.out⟩
end Go.Proofs.Ytflclkmhdngmaaa
