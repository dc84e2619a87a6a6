/-
  span.May: a value is held against the span of its own numbers.
-/
import Derived.Test.YtnifpphimodonaaSOps
import Derived.Test.YtnifpphimodonaaRegX
namespace Go.Proofs.Ytnifpphimodonaa
open Go.RowKit

theorem below_drw (w : World) : Below w.heap.size w w.drew := (Below.refl _ _).drew

/-- A new value's block, by name. -/
theorem boxX (w : World) (x : Val) : ∃ W g, w.alloc (.cells #[.int .u8 x.k, .int .i64 x.n, .int .i64 x.u, .string x.t] 23) = W ∧ w.heap.size = g ∧ Boxed W g x.k x.n x.u x.t ∧ Below w.heap.size w W ∧ W.heap.size = g + 1 :=
  ⟨_, _, rfl, rfl, Boxed.new w _ _ _ _ _, Below.allocs w _, by simp⟩

theorem okS_eq (v : Val) : okS v = (eqB v (spanV v.n v.u) && decide (v.n < v.u)) := by
  rw [Bool.eq_iff_iff, Bool.and_eq_true, eqB_iff]
  obtain ⟨k, n, u, t⟩ := v
  simp only [okS, Bool.and_eq_true, decide_eq_true_eq, spanV, Val.mk.injEq]
  constructor
  · rintro ⟨rfl, h2, h3⟩
    refine ⟨⟨rfl, trivial, trivial, ?_⟩, h2⟩
    rw [ByteArray.toList_eq] at h3
    obtain ⟨⟨t⟩⟩ := t
    simpa using h3
  · rintro ⟨⟨rfl, _, _, rfl⟩, h2⟩
    exact ⟨rfl, h2, by rw [ByteArray.toList_eq]⟩

set_option maxRecDepth 100000 in
set_option maxHeartbeats 1000000 in
theorem may_f (v : Val) (h1 : eqB v (spanV v.n v.u) = false) (w : World) :
    Calls Try.prog 14 #[.agg #[.int .u8 v.k, .int .i64 v.n, .int .i64 v.u, .string v.t]] w fun x w' => x = .returned (.bool false) ∧ Below w.heap.size w w' := by
  obtain ⟨W, g, hW, hg, B0, hb0, hs⟩ := boxX w v
  have heq := eql_is v (spanV v.n v.u) _ h1
  unfold spanV at heq
  dsimp only at heq
  have HS := Lib.hid hs
  clear hs h1
  go_enter Try.func14, Try.ntmps14
  go_wp2_with fail
  have hdr := below_drw W
  try simp only [List.append_eq, List.cons_append, List.nil_append]
  refine RX.wp_region_plan (fun w w' => Below w.heap.size w w') [.it (.agg #[.int .u8 v.k, .int .i64 v.n, .int .i64 v.u, .string v.t]), .it (.pointer (some ⟨g, 1, none⟩)), .it (.int .i64 v.n), .it (.pointer (some ⟨g, 2, none⟩)), .it (.int .i64 v.u), .it (.agg #[.int .u8 4, .int .i64 v.n, .int .i64 v.u, .string ⟨#[]⟩]), .it (.bool false), .it (.bool false), .it undef, .it undef, .it undef, .it undef, .it undef, .it (.bool false), .it (.bool false)] (by kernel_rfl) (by kernel_rfl) (fun _ => Below.refl _ _) (fun _ _ _ => below_tr) ?_
  refine RX.seqP_value (fun _ => Below.refl _ _) _ (by first | rfl | simp) (fun w' hw' hctx => ?_) ?_
  · obtain ⟨c0, c1, c2, c3, c4⟩ := B0.below (below_tr hdr hw')
    go_simp
    try first | with_reducible rfl | simp
  simp only [Act.put, List.setIfInBounds_toArray, List.set_cons_zero, List.set_cons_succ]
  refine RX.seqP_value (fun _ => Below.refl _ _) _ (by first | rfl | simp) (fun w' hw' hctx => by (go_simp); (try first | with_reducible rfl | simp)) ?_
  simp only [Act.put, List.setIfInBounds_toArray, List.set_cons_zero, List.set_cons_succ]
  refine RX.seqP_value (fun _ => Below.refl _ _) _ (by first | rfl | simp) (fun w' hw' hctx => ?_) ?_
  · obtain ⟨c0, c1, c2, c3, c4⟩ := B0.below (below_tr hdr hw')
    go_simp
    try first | with_reducible rfl | simp
  simp only [Act.put, List.setIfInBounds_toArray, List.set_cons_zero, List.set_cons_succ]
  refine RX.seqP_value (fun _ => Below.refl _ _) _ (by first | rfl | simp) (fun w' hw' hctx => by (go_simp); (try first | with_reducible rfl | simp)) ?_
  simp only [Act.put, List.setIfInBounds_toArray, List.set_cons_zero, List.set_cons_succ]
  refine RX.seqP_value (fun _ => Below.refl _ _) _ (by first | rfl | simp) (fun w' hw' hctx => ?_) ?_
  · obtain ⟨c0, c1, c2, c3, c4⟩ := B0.below (below_tr hdr hw')
    go_simp
    try first | with_reducible rfl | simp
  simp only [Act.put, List.setIfInBounds_toArray, List.set_cons_zero, List.set_cons_succ]
  refine RX.seqP_call (26) #[.int .i64 v.n, .int .i64 v.u] (.agg #[.int .u8 4, .int .i64 v.n, .int .i64 v.u, .string ⟨#[]⟩]) (by first | rfl | simp) (fun w' hw' hctx => ?_) (fun w' hw' hctx => of_is v.n v.u w') ?_
  · go_simp
  simp only [Act.put, List.setIfInBounds_toArray, List.set_cons_zero, List.set_cons_succ]
  refine RX.seqP_value (fun _ => Below.refl _ _) _ (by first | rfl | simp) (fun w' hw' hctx => by (go_simp); (try first | with_reducible rfl | simp)) ?_
  simp only [Act.put, List.setIfInBounds_toArray, List.set_cons_zero, List.set_cons_succ]
  refine RX.seqP_value (fun _ => Below.refl _ _) _ (by first | rfl | simp) (fun w' hw' hctx => by (go_simp); (try first | with_reducible rfl | simp)) ?_
  simp only [Act.put, List.setIfInBounds_toArray, List.set_cons_zero, List.set_cons_succ]
  refine RX.seqP_skip (by first | rfl | simp) ?_
  simp only [Act.put, List.setIfInBounds_toArray, List.set_cons_zero, List.set_cons_succ]
  refine RX.seqP_skip (by first | rfl | simp) ?_
  simp only [Act.put, List.setIfInBounds_toArray, List.set_cons_zero, List.set_cons_succ]
  refine RX.seqP_skip (by first | rfl | simp) ?_
  simp only [Act.put, List.setIfInBounds_toArray, List.set_cons_zero, List.set_cons_succ]
  refine RX.seqP_skip (by first | rfl | simp) ?_
  simp only [Act.put, List.setIfInBounds_toArray, List.set_cons_zero, List.set_cons_succ]
  refine RX.seqP_skip (by first | rfl | simp) ?_
  simp only [Act.put, List.setIfInBounds_toArray, List.set_cons_zero, List.set_cons_succ]
  refine RX.seqP_value (fun _ => Below.refl _ _) _ (by first | rfl | simp) (fun w' hw' hctx => by (go_simp); (try first | with_reducible rfl | simp)) ?_
  simp only [Act.put, List.setIfInBounds_toArray, List.set_cons_zero, List.set_cons_succ]
  refine RX.seqP_value (fun _ => Below.refl _ _) _ (by first | rfl | simp) (fun w' hw' hctx => by (go_simp); (try first | with_reducible rfl | simp)) ?_
  simp only [Act.put, List.setIfInBounds_toArray, List.set_cons_zero, List.set_cons_succ]
  refine RX.seqP_nil (fun v1 hR hctx _ => ?_)
  have hv1 := below_tr hdr hR
  clear hctx hR
  go_wp2_with fail
  go_ret
  exact ⟨rfl, below_tr hb0 hv1⟩

set_option maxRecDepth 100000 in
set_option maxHeartbeats 1000000 in
theorem may_tf (v : Val) (h1 : eqB v (spanV v.n v.u) = true) (h2 : decide (v.n < v.u) = false) (w : World) :
    Calls Try.prog 14 #[.agg #[.int .u8 v.k, .int .i64 v.n, .int .i64 v.u, .string v.t]] w fun x w' => x = .returned (.bool false) ∧ Below w.heap.size w w' := by
  obtain ⟨W, g, hW, hg, B0, hb0, hs⟩ := boxX w v
  have heq := eql_is v (spanV v.n v.u) _ h1
  unfold spanV at heq
  dsimp only at heq
  have HS := Lib.hid hs
  have h3 : (v.n < v.u) = False := by simpa using h2
  clear hs h1
  go_enter Try.func14, Try.ntmps14
  go_wp2_with fail
  have hdr := below_drw W
  try simp only [List.append_eq, List.cons_append, List.nil_append]
  refine RX.wp_region_plan (fun w w' => Below w.heap.size w w') [.it (.agg #[.int .u8 v.k, .int .i64 v.n, .int .i64 v.u, .string v.t]), .it (.pointer (some ⟨g, 1, none⟩)), .it (.int .i64 v.n), .it (.pointer (some ⟨g, 2, none⟩)), .it (.int .i64 v.u), .it (.agg #[.int .u8 4, .int .i64 v.n, .int .i64 v.u, .string ⟨#[]⟩]), .it (.bool true), .it (.bool true), .it (.pointer (some ⟨g, 1, none⟩)), .it (.int .i64 v.n), .it (.pointer (some ⟨g, 2, none⟩)), .it (.int .i64 v.u), .it (.bool false), .it (.bool false), .it (.bool false)] (by kernel_rfl) (by kernel_rfl) (fun _ => Below.refl _ _) (fun _ _ _ => below_tr) ?_
  refine RX.seqP_value (fun _ => Below.refl _ _) _ (by first | rfl | simp) (fun w' hw' hctx => ?_) ?_
  · obtain ⟨c0, c1, c2, c3, c4⟩ := B0.below (below_tr hdr hw')
    go_simp
    try first | with_reducible rfl | simp
  simp only [Act.put, List.setIfInBounds_toArray, List.set_cons_zero, List.set_cons_succ]
  refine RX.seqP_value (fun _ => Below.refl _ _) _ (by first | rfl | simp) (fun w' hw' hctx => by (go_simp); (try first | with_reducible rfl | simp)) ?_
  simp only [Act.put, List.setIfInBounds_toArray, List.set_cons_zero, List.set_cons_succ]
  refine RX.seqP_value (fun _ => Below.refl _ _) _ (by first | rfl | simp) (fun w' hw' hctx => ?_) ?_
  · obtain ⟨c0, c1, c2, c3, c4⟩ := B0.below (below_tr hdr hw')
    go_simp
    try first | with_reducible rfl | simp
  simp only [Act.put, List.setIfInBounds_toArray, List.set_cons_zero, List.set_cons_succ]
  refine RX.seqP_value (fun _ => Below.refl _ _) _ (by first | rfl | simp) (fun w' hw' hctx => by (go_simp); (try first | with_reducible rfl | simp)) ?_
  simp only [Act.put, List.setIfInBounds_toArray, List.set_cons_zero, List.set_cons_succ]
  refine RX.seqP_value (fun _ => Below.refl _ _) _ (by first | rfl | simp) (fun w' hw' hctx => ?_) ?_
  · obtain ⟨c0, c1, c2, c3, c4⟩ := B0.below (below_tr hdr hw')
    go_simp
    try first | with_reducible rfl | simp
  simp only [Act.put, List.setIfInBounds_toArray, List.set_cons_zero, List.set_cons_succ]
  refine RX.seqP_call (26) #[.int .i64 v.n, .int .i64 v.u] (.agg #[.int .u8 4, .int .i64 v.n, .int .i64 v.u, .string ⟨#[]⟩]) (by first | rfl | simp) (fun w' hw' hctx => ?_) (fun w' hw' hctx => of_is v.n v.u w') ?_
  · go_simp
  simp only [Act.put, List.setIfInBounds_toArray, List.set_cons_zero, List.set_cons_succ]
  refine RX.seqP_value (fun _ => Below.refl _ _) _ (by first | rfl | simp) (fun w' hw' hctx => by (go_simp); (try first | with_reducible rfl | simp)) ?_
  simp only [Act.put, List.setIfInBounds_toArray, List.set_cons_zero, List.set_cons_succ]
  refine RX.seqP_value (fun _ => Below.refl _ _) _ (by first | rfl | simp) (fun w' hw' hctx => by (go_simp); (try first | with_reducible rfl | simp)) ?_
  simp only [Act.put, List.setIfInBounds_toArray, List.set_cons_zero, List.set_cons_succ]
  refine RX.seqP_value (fun _ => Below.refl _ _) _ (by first | rfl | simp) (fun w' hw' hctx => by (go_simp); (try first | with_reducible rfl | simp)) ?_
  simp only [Act.put, List.setIfInBounds_toArray, List.set_cons_zero, List.set_cons_succ]
  refine RX.seqP_value (fun _ => Below.refl _ _) _ (by first | rfl | simp) (fun w' hw' hctx => ?_) ?_
  · obtain ⟨c0, c1, c2, c3, c4⟩ := B0.below (below_tr hdr hw')
    go_simp
    try first | with_reducible rfl | simp
  simp only [Act.put, List.setIfInBounds_toArray, List.set_cons_zero, List.set_cons_succ]
  refine RX.seqP_value (fun _ => Below.refl _ _) _ (by first | rfl | simp) (fun w' hw' hctx => by (go_simp); (try first | with_reducible rfl | simp)) ?_
  simp only [Act.put, List.setIfInBounds_toArray, List.set_cons_zero, List.set_cons_succ]
  refine RX.seqP_value (fun _ => Below.refl _ _) _ (by first | rfl | simp) (fun w' hw' hctx => ?_) ?_
  · obtain ⟨c0, c1, c2, c3, c4⟩ := B0.below (below_tr hdr hw')
    go_simp
    try first | with_reducible rfl | simp
  simp only [Act.put, List.setIfInBounds_toArray, List.set_cons_zero, List.set_cons_succ]
  refine RX.seqP_value (fun _ => Below.refl _ _) _ (by first | rfl | simp) (fun w' hw' hctx => by (go_simp); (try first | with_reducible rfl | simp)) ?_
  simp only [Act.put, List.setIfInBounds_toArray, List.set_cons_zero, List.set_cons_succ]
  refine RX.seqP_value (fun _ => Below.refl _ _) _ (by first | rfl | simp) (fun w' hw' hctx => by (go_simp); (try first | with_reducible rfl | simp)) ?_
  simp only [Act.put, List.setIfInBounds_toArray, List.set_cons_zero, List.set_cons_succ]
  refine RX.seqP_value (fun _ => Below.refl _ _) _ (by first | rfl | simp) (fun w' hw' hctx => by (go_simp); (try first | with_reducible rfl | simp)) ?_
  simp only [Act.put, List.setIfInBounds_toArray, List.set_cons_zero, List.set_cons_succ]
  refine RX.seqP_nil (fun v1 hR hctx _ => ?_)
  have hv1 := below_tr hdr hR
  clear hctx hR
  go_wp2_with fail
  go_ret
  exact ⟨rfl, below_tr hb0 hv1⟩

set_option maxRecDepth 100000 in
set_option maxHeartbeats 1000000 in
theorem may_tt (v : Val) (h1 : eqB v (spanV v.n v.u) = true) (h2 : decide (v.n < v.u) = true) (w : World) :
    Calls Try.prog 14 #[.agg #[.int .u8 v.k, .int .i64 v.n, .int .i64 v.u, .string v.t]] w fun x w' => x = .returned (.bool true) ∧ Below w.heap.size w w' := by
  obtain ⟨W, g, hW, hg, B0, hb0, hs⟩ := boxX w v
  have heq := eql_is v (spanV v.n v.u) _ h1
  unfold spanV at heq
  dsimp only at heq
  have HS := Lib.hid hs
  have h3 : (v.n < v.u)  := by simpa using h2
  clear hs h1
  go_enter Try.func14, Try.ntmps14
  go_wp2_with fail
  have hdr := below_drw W
  try simp only [List.append_eq, List.cons_append, List.nil_append]
  refine RX.wp_region_plan (fun w w' => Below w.heap.size w w') [.it (.agg #[.int .u8 v.k, .int .i64 v.n, .int .i64 v.u, .string v.t]), .it (.pointer (some ⟨g, 1, none⟩)), .it (.int .i64 v.n), .it (.pointer (some ⟨g, 2, none⟩)), .it (.int .i64 v.u), .it (.agg #[.int .u8 4, .int .i64 v.n, .int .i64 v.u, .string ⟨#[]⟩]), .it (.bool true), .it (.bool true), .it (.pointer (some ⟨g, 1, none⟩)), .it (.int .i64 v.n), .it (.pointer (some ⟨g, 2, none⟩)), .it (.int .i64 v.u), .it (.bool true), .it (.bool true), .it (.bool true)] (by kernel_rfl) (by kernel_rfl) (fun _ => Below.refl _ _) (fun _ _ _ => below_tr) ?_
  refine RX.seqP_value (fun _ => Below.refl _ _) _ (by first | rfl | simp) (fun w' hw' hctx => ?_) ?_
  · obtain ⟨c0, c1, c2, c3, c4⟩ := B0.below (below_tr hdr hw')
    go_simp
    try first | with_reducible rfl | simp
  simp only [Act.put, List.setIfInBounds_toArray, List.set_cons_zero, List.set_cons_succ]
  refine RX.seqP_value (fun _ => Below.refl _ _) _ (by first | rfl | simp) (fun w' hw' hctx => by (go_simp); (try first | with_reducible rfl | simp)) ?_
  simp only [Act.put, List.setIfInBounds_toArray, List.set_cons_zero, List.set_cons_succ]
  refine RX.seqP_value (fun _ => Below.refl _ _) _ (by first | rfl | simp) (fun w' hw' hctx => ?_) ?_
  · obtain ⟨c0, c1, c2, c3, c4⟩ := B0.below (below_tr hdr hw')
    go_simp
    try first | with_reducible rfl | simp
  simp only [Act.put, List.setIfInBounds_toArray, List.set_cons_zero, List.set_cons_succ]
  refine RX.seqP_value (fun _ => Below.refl _ _) _ (by first | rfl | simp) (fun w' hw' hctx => by (go_simp); (try first | with_reducible rfl | simp)) ?_
  simp only [Act.put, List.setIfInBounds_toArray, List.set_cons_zero, List.set_cons_succ]
  refine RX.seqP_value (fun _ => Below.refl _ _) _ (by first | rfl | simp) (fun w' hw' hctx => ?_) ?_
  · obtain ⟨c0, c1, c2, c3, c4⟩ := B0.below (below_tr hdr hw')
    go_simp
    try first | with_reducible rfl | simp
  simp only [Act.put, List.setIfInBounds_toArray, List.set_cons_zero, List.set_cons_succ]
  refine RX.seqP_call (26) #[.int .i64 v.n, .int .i64 v.u] (.agg #[.int .u8 4, .int .i64 v.n, .int .i64 v.u, .string ⟨#[]⟩]) (by first | rfl | simp) (fun w' hw' hctx => ?_) (fun w' hw' hctx => of_is v.n v.u w') ?_
  · go_simp
  simp only [Act.put, List.setIfInBounds_toArray, List.set_cons_zero, List.set_cons_succ]
  refine RX.seqP_value (fun _ => Below.refl _ _) _ (by first | rfl | simp) (fun w' hw' hctx => by (go_simp); (try first | with_reducible rfl | simp)) ?_
  simp only [Act.put, List.setIfInBounds_toArray, List.set_cons_zero, List.set_cons_succ]
  refine RX.seqP_value (fun _ => Below.refl _ _) _ (by first | rfl | simp) (fun w' hw' hctx => by (go_simp); (try first | with_reducible rfl | simp)) ?_
  simp only [Act.put, List.setIfInBounds_toArray, List.set_cons_zero, List.set_cons_succ]
  refine RX.seqP_value (fun _ => Below.refl _ _) _ (by first | rfl | simp) (fun w' hw' hctx => by (go_simp); (try first | with_reducible rfl | simp)) ?_
  simp only [Act.put, List.setIfInBounds_toArray, List.set_cons_zero, List.set_cons_succ]
  refine RX.seqP_value (fun _ => Below.refl _ _) _ (by first | rfl | simp) (fun w' hw' hctx => ?_) ?_
  · obtain ⟨c0, c1, c2, c3, c4⟩ := B0.below (below_tr hdr hw')
    go_simp
    try first | with_reducible rfl | simp
  simp only [Act.put, List.setIfInBounds_toArray, List.set_cons_zero, List.set_cons_succ]
  refine RX.seqP_value (fun _ => Below.refl _ _) _ (by first | rfl | simp) (fun w' hw' hctx => by (go_simp); (try first | with_reducible rfl | simp)) ?_
  simp only [Act.put, List.setIfInBounds_toArray, List.set_cons_zero, List.set_cons_succ]
  refine RX.seqP_value (fun _ => Below.refl _ _) _ (by first | rfl | simp) (fun w' hw' hctx => ?_) ?_
  · obtain ⟨c0, c1, c2, c3, c4⟩ := B0.below (below_tr hdr hw')
    go_simp
    try first | with_reducible rfl | simp
  simp only [Act.put, List.setIfInBounds_toArray, List.set_cons_zero, List.set_cons_succ]
  refine RX.seqP_value (fun _ => Below.refl _ _) _ (by first | rfl | simp) (fun w' hw' hctx => by (go_simp); (try first | with_reducible rfl | simp)) ?_
  simp only [Act.put, List.setIfInBounds_toArray, List.set_cons_zero, List.set_cons_succ]
  refine RX.seqP_value (fun _ => Below.refl _ _) _ (by first | rfl | simp) (fun w' hw' hctx => by (go_simp); (try first | with_reducible rfl | simp)) ?_
  simp only [Act.put, List.setIfInBounds_toArray, List.set_cons_zero, List.set_cons_succ]
  refine RX.seqP_value (fun _ => Below.refl _ _) _ (by first | rfl | simp) (fun w' hw' hctx => by (go_simp); (try first | with_reducible rfl | simp)) ?_
  simp only [Act.put, List.setIfInBounds_toArray, List.set_cons_zero, List.set_cons_succ]
  refine RX.seqP_nil (fun v1 hR hctx _ => ?_)
  have hv1 := below_tr hdr hR
  clear hctx hR
  go_wp2_with fail
  go_ret
  exact ⟨rfl, below_tr hb0 hv1⟩

theorem may_is (v : Val) (b : Bool) (h : okS v = b) (w : World) :
    Calls Try.prog 14 #[.agg #[.int .u8 v.k, .int .i64 v.n, .int .i64 v.u, .string v.t]] w fun x w' => x = .returned (.bool b) ∧ Below w.heap.size w w' := by
  rw [okS_eq] at h
  subst h
  cases h1 : eqB v (spanV v.n v.u)
  · exact may_f v h1 w
  · cases h2 : decide (v.n < v.u)
    · exact may_tf v h1 h2 w
    · exact may_tt v h1 h2 w

theorem invalid_is (v : Val) (b : Bool) (h : (!okS v) = b) (w : World) :
    Calls Try.prog 32 #[.agg #[.int .u8 v.k, .int .i64 v.n, .int .i64 v.u, .string v.t]] w fun x w' => x = .returned (.bool b) ∧ Below w.heap.size w w' := by
  obtain ⟨c, hc⟩ : ∃ c, okS v = c := ⟨_, rfl⟩
  rw [hc] at h
  subst h
  have HC := Lib.hid hc
  clear hc
  go_enter Try.func32, Try.ntmps32
  go_wp2_with fail
  refine (may_is v c HC.out _).mono ?_
  rintro e w1 ⟨rfl, hb1⟩
  go_wp2_with fail
  go_ret
  exact ⟨rfl, below_tr (Below.allocs _ _) hb1⟩
end Go.Proofs.Ytnifpphimodonaa
