/-
  The law LogicNames as a walk over this translation: it answers true.
-/
import Derived.Test.YtmbjhahlbbhdaaaQRef
namespace Go.Proofs.Ytmbjhahlbbhdaaa
open Go.RowKit

/-- Three numbers lie in block g. -/
def IntsAt (W : World) (g : Nat) (a b c : Int) : Prop :=
  W.cell? ⟨g, 0, none⟩ = some (.int .i64 a) ∧ W.cell? ⟨g, 1, none⟩ = some (.int .i64 b) ∧ W.cell? ⟨g, 2, none⟩ = some (.int .i64 c) ∧ True ∧ g < W.heap.size

theorem IntsAt.below {W W' : World} {g : Nat} {a b c : Int} (h : IntsAt W g a b c) (hb : Below W.heap.size W W') : IntsAt W' g a b c := by
  obtain ⟨h0, h1, h2, _, h4⟩ := h
  exact ⟨by rw [hb.cell h4]; exact h0, by rw [hb.cell h4]; exact h1, by rw [hb.cell h4]; exact h2, trivial, Nat.lt_of_lt_of_le h4 hb.size⟩

theorem IntsAt.new (w : World) (a b c : Int) (ty : TypeId) : IntsAt (w.alloc (.cells #[.int .i64 a, .int .i64 b, .int .i64 c] ty)) w.heap.size a b c := by
  refine ⟨?_, ?_, ?_, trivial, by simp⟩ <;> go_simp

set_option maxRecDepth 100000 in
set_option maxHeartbeats 16000000 in
theorem names_any (w : World) :
    Calls Try.prog 4 #[] w fun e w' => e = .returned (.bool true) ∧ Below w.heap.size w w' := by
  have hw0 := Below.refl w.heap.size w
  have e1 : ofN false = 0 := rfl
  have e2 : ofN true = 1 := rfl
  go_enter Try.func4, Try.ntmps4
  go_wp2_with fail
  refine (rof_is false _).mono ?_
  rintro e v1 ⟨rfl, hv1⟩
  have hw1 := below_tr hw0 hv1
  clear hv1
  go_wp2_with fail
  refine (rof_is true _).mono ?_
  rintro e v2 ⟨rfl, hv2⟩
  have hw2 := below_tr hw1 hv2
  clear hv2
  go_wp2_with fail
  have hn2 := Below.allocs v2 (.cells #[.int .u8 2, .int .i64 0, .int .i64 0, .string ⟨#[]⟩, .int .u8 2, .int .i64 1, .int .i64 0, .string ⟨#[]⟩, .int .u8 0, .int .i64 0, .int .i64 0, .string ⟨#[]⟩] 23)
  have ht2 := three_new v2 2 0 0 ⟨#[]⟩ 2 1 0 ⟨#[]⟩ 0 0 0 ⟨#[]⟩ 23
  obtain ⟨Pn, Qn, On⟩ := ht2
  have hw3 := below_tr hw2 hn2
  have P3 := Pn
  clear Pn
  have Q3 := Qn
  clear Qn
  have O3 := On
  clear On
  clear hn2
  have p' := P3
  obtain ⟨p0, p1, p2, p3, p4⟩ := p'
  have q' := Q3
  obtain ⟨q0, q1, q2, q3, q4⟩ := q'
  have o' := O3
  obtain ⟨o0, o1, o2, o3, o4⟩ := o'
  refine wp_loop_rounds 4 ?_
  rw [rounds_succ]
  go_wp2_with fail
  refine wp_loop_rounds 4 ?_
  rw [rounds_succ]
  go_wp2_with fail
  clear p0 p1 p2 p3 p4 q0 q1 q2 q3 q4 o0 o1 o2 o3 o4
  have hd := below_drew (v2.alloc (.cells #[.int .u8 2, .int .i64 0, .int .i64 0, .string ⟨#[]⟩, .int .u8 2, .int .i64 1, .int .i64 0, .string ⟨#[]⟩, .int .u8 0, .int .i64 0, .int .i64 0, .string ⟨#[]⟩] 23))
  refine wp_region_plan (KeepR ((v2.alloc (.cells #[.int .u8 2, .int .i64 0, .int .i64 0, .string ⟨#[]⟩, .int .u8 2, .int .i64 1, .int .i64 0, .string ⟨#[]⟩, .int .u8 0, .int .i64 0, .int .i64 0, .string ⟨#[]⟩] 23))).heap.size 2 0 0 ⟨#[]⟩) [.it (.slice (some ⟨v2.heap.size, 0, none⟩) 3 3), .it (.int .i64 0), .it (.pointer (some ⟨v2.heap.size, 0, none⟩)), .it (.agg #[.int .u8 2, .int .i64 0, .int .i64 0, .string ⟨#[]⟩]), .it (.slice (some ⟨v2.heap.size, 0, none⟩) 3 3), .it (.int .i64 0), .it (.pointer (some ⟨v2.heap.size, 0, none⟩)), .it (.agg #[.int .u8 2, .int .i64 0, .int .i64 0, .string ⟨#[]⟩]), .it (.tuple #[.agg #[.int .u8 2, .int .i64 0, .int .i64 0, .string ⟨#[]⟩], .int .i64 0]), .it (.tuple #[.agg #[.int .u8 2, .int .i64 0, .int .i64 0, .string ⟨#[]⟩], .int .i64 0]), .it (.agg #[.int .u8 2, .int .i64 0, .int .i64 0, .string ⟨#[]⟩]), .it (.int .i64 0), .of (fun w v => ∃ h, v = .pointer (some ⟨h, 0, none⟩) ∧ ((v2.alloc (.cells #[.int .u8 2, .int .i64 0, .int .i64 0, .string ⟨#[]⟩, .int .u8 2, .int .i64 1, .int .i64 0, .string ⟨#[]⟩, .int .u8 0, .int .i64 0, .int .i64 0, .string ⟨#[]⟩] 23))).heap.size ≤ h ∧ Soft w h ∧ Cells w h), .on 12 (fun p w _ => ∀ h, p = .pointer (some ⟨h, 0, none⟩) → Boxed w h 2 0 0 ⟨#[]⟩), .it (.int .i64 0)] (by kernel_rfl) (by kernel_rfl) (KeepR.refl _ _ _ _ _) KeepR.trans ?_
  iterate 3 (refine seqP_value (KeepR.refl _ _ _ _ _) _ (by first | rfl | simp) (fun w' hw' hctx => by (go_simp); (try first | with_reducible rfl | simp)) ?_; simp only [Act.put, List.setIfInBounds_toArray, List.set_cons_zero, List.set_cons_succ])
  refine seqP_value (KeepR.refl _ _ _ _ _) _ (by first | rfl | simp) (fun w' hw' hctx => ?_) ?_
  · obtain ⟨c0, c1, c2, c3, c4⟩ := P3.below (below_tr hd hw'.below)
    go_simp
    try first | with_reducible rfl | simp
  simp only [Act.put, List.setIfInBounds_toArray, List.set_cons_zero, List.set_cons_succ]
  iterate 3 (refine seqP_value (KeepR.refl _ _ _ _ _) _ (by first | rfl | simp) (fun w' hw' hctx => by (go_simp); (try first | with_reducible rfl | simp)) ?_; simp only [Act.put, List.setIfInBounds_toArray, List.set_cons_zero, List.set_cons_succ])
  refine seqP_value (KeepR.refl _ _ _ _ _) _ (by first | rfl | simp) (fun w' hw' hctx => ?_) ?_
  · obtain ⟨c0, c1, c2, c3, c4⟩ := P3.below (below_tr hd hw'.below)
    go_simp
    try first | with_reducible rfl | simp
  simp only [Act.put, List.setIfInBounds_toArray, List.set_cons_zero, List.set_cons_succ]
  refine seqP_call 22 #[.agg #[.int .u8 2, .int .i64 0, .int .i64 0, .string ⟨#[]⟩], .agg #[.int .u8 2, .int .i64 0, .int .i64 0, .string ⟨#[]⟩]] (.tuple #[.agg #[.int .u8 2, .int .i64 0, .int .i64 0, .string ⟨#[]⟩], .int .i64 0]) (by first | rfl | simp) (fun w' hw' hctx => ?_) (fun w' hw' hctx => (and_is 2 0 0 ⟨#[]⟩ 2 0 0 ⟨#[]⟩ ⟨2, 0, 0⟩ (by kernel_rfl) w').mono fun e w2 ⟨he, hb⟩ => ⟨he, KeepR.of_below hb hw'.below.size⟩) ?_
  · go_simp
  simp only [Act.put, List.setIfInBounds_toArray, List.set_cons_zero, List.set_cons_succ]
  iterate 3 (refine seqP_value (KeepR.refl _ _ _ _ _) _ (by first | rfl | simp) (fun w' hw' hctx => by (go_simp); (try first | with_reducible rfl | simp)) ?_; simp only [Act.put, List.setIfInBounds_toArray, List.set_cons_zero, List.set_cons_succ])
  refine seqP_make _ (fun w w' v hR hV => by obtain ⟨h, h1, h2, h3, h4⟩ := hV; exact ⟨h, h1, h2, hR.soft _ h3, hR.cells _ h4⟩) (by first | rfl | simp) (fun w' hw' hctx => ?_) (fun v => ?_)
  · exact ⟨_, _, by go_simp; first | with_reducible rfl | rfl, KeepR.of_below (Below.allocs _ _) hw'.below.size, ⟨_, rfl, hw'.below.size, Soft.new _ _ _ _ _ _, ⟨_, _, _, _, Boxed.new _ _ _ _ _ _⟩⟩⟩
  simp only [Act.put, List.setIfInBounds_toArray, List.set_cons_zero, List.set_cons_succ]
  refine seqP_write 12 _ (by decide) (fun w w' v hR hV h hh => hR.same _ (hV h hh)) (by first | rfl | simp) (fun w' hw' hctx => ?_) (fun v' => ?_)
  · obtain ⟨h, rfl, h2, h3, h4⟩ : ∃ h, v = .pointer (some ⟨h, 0, none⟩) ∧ ((v2.alloc (.cells #[.int .u8 2, .int .i64 0, .int .i64 0, .string ⟨#[]⟩, .int .u8 2, .int .i64 1, .int .i64 0, .string ⟨#[]⟩, .int .u8 0, .int .i64 0, .int .i64 0, .string ⟨#[]⟩] 23))).heap.size ≤ h ∧ Soft w' h ∧ Cells w' h := hctx.1
    have hk := KeepR.put (k := 2) (n := 0) (u := 0) (t := ⟨#[]⟩) h2 h4
    obtain ⟨x0, x1, x2, x3, hbx⟩ := h4
    have hbp := boxed_put4 hbx (2) (0) 0 ⟨#[]⟩
    obtain ⟨b0, b1, b2, b3, b4⟩ := hbx
    obtain ⟨s0, s1, s2, s3, s4⟩ := h3
    refine ⟨put4 w' h (2) (0) 0 ⟨#[]⟩, ?_, hk, fun h' hh' => ?_⟩
    · go_simp
      rfl
    · simp [upd] at hh'
      subst hh'
      exact hbp
  simp only [Act.put]
  refine seqP_value (KeepR.refl _ _ _ _ _) _ (by first | rfl | simp) (fun w' hw' hctx => ?_) ?_
  · go_simp
    try first | with_reducible rfl | simp
  simp only [Act.put, List.setIfInBounds_toArray, List.set_cons_zero, List.set_cons_succ]
  refine seqP_nil (fun v3 hR hctx => ?_)
  obtain ⟨g3, rfl, hg3, hs3, -⟩ : ∃ h, v = .pointer (some ⟨h, 0, none⟩) ∧ ((v2.alloc (.cells #[.int .u8 2, .int .i64 0, .int .i64 0, .string ⟨#[]⟩, .int .u8 2, .int .i64 1, .int .i64 0, .string ⟨#[]⟩, .int .u8 0, .int .i64 0, .int .i64 0, .string ⟨#[]⟩] 23))).heap.size ≤ h ∧ Soft v3 h ∧ Cells v3 h := hctx.2.1
  have An : Boxed v3 g3 (2) (0) 0 ⟨#[]⟩ := hctx.1 g3 (by simp [upd])
  have hv3 := below_tr hd hR.below
  clear hctx hR hd hs3
  have P4 := P3.below hv3
  have Q4 := Q3.below hv3
  have O4 := O3.below hv3
  have hw4 := below_tr hw3 hv3
  clear P3 Q3 O3
  have A4 := An
  clear An hv3
  go_wp2_with fail
  have hd := below_drew v3
  refine wp_region_plan (KeepR (v3).heap.size 2 0 0 ⟨#[]⟩) [.it (.slice (some ⟨v2.heap.size, 0, none⟩) 3 3), .it (.int .i64 0), .it (.pointer (some ⟨v2.heap.size, 0, none⟩)), .it (.agg #[.int .u8 2, .int .i64 0, .int .i64 0, .string ⟨#[]⟩]), .it (.slice (some ⟨v2.heap.size, 0, none⟩) 3 3), .it (.int .i64 0), .it (.pointer (some ⟨v2.heap.size, 0, none⟩)), .it (.agg #[.int .u8 2, .int .i64 0, .int .i64 0, .string ⟨#[]⟩]), .it (.tuple #[.agg #[.int .u8 2, .int .i64 0, .int .i64 0, .string ⟨#[]⟩], .int .i64 0]), .it (.tuple #[.agg #[.int .u8 2, .int .i64 0, .int .i64 0, .string ⟨#[]⟩], .int .i64 0]), .it (.agg #[.int .u8 2, .int .i64 0, .int .i64 0, .string ⟨#[]⟩]), .it (.int .i64 0), .of (fun w v => ∃ h, v = .pointer (some ⟨h, 0, none⟩) ∧ (v3).heap.size ≤ h ∧ Soft w h ∧ Cells w h), .on 12 (fun p w _ => ∀ h, p = .pointer (some ⟨h, 0, none⟩) → Boxed w h 2 0 0 ⟨#[]⟩), .it (.int .i64 0)] (by kernel_rfl) (by kernel_rfl) (KeepR.refl _ _ _ _ _) KeepR.trans ?_
  iterate 3 (refine seqP_value (KeepR.refl _ _ _ _ _) _ (by first | rfl | simp) (fun w' hw' hctx => by (go_simp); (try first | with_reducible rfl | simp)) ?_; simp only [Act.put, List.setIfInBounds_toArray, List.set_cons_zero, List.set_cons_succ])
  refine seqP_value (KeepR.refl _ _ _ _ _) _ (by first | rfl | simp) (fun w' hw' hctx => ?_) ?_
  · obtain ⟨c0, c1, c2, c3, c4⟩ := P4.below (below_tr hd hw'.below)
    go_simp
    try first | with_reducible rfl | simp
  simp only [Act.put, List.setIfInBounds_toArray, List.set_cons_zero, List.set_cons_succ]
  iterate 3 (refine seqP_value (KeepR.refl _ _ _ _ _) _ (by first | rfl | simp) (fun w' hw' hctx => by (go_simp); (try first | with_reducible rfl | simp)) ?_; simp only [Act.put, List.setIfInBounds_toArray, List.set_cons_zero, List.set_cons_succ])
  refine seqP_value (KeepR.refl _ _ _ _ _) _ (by first | rfl | simp) (fun w' hw' hctx => ?_) ?_
  · obtain ⟨c0, c1, c2, c3, c4⟩ := P4.below (below_tr hd hw'.below)
    go_simp
    try first | with_reducible rfl | simp
  simp only [Act.put, List.setIfInBounds_toArray, List.set_cons_zero, List.set_cons_succ]
  refine seqP_call 24 #[.agg #[.int .u8 2, .int .i64 0, .int .i64 0, .string ⟨#[]⟩], .agg #[.int .u8 2, .int .i64 0, .int .i64 0, .string ⟨#[]⟩]] (.tuple #[.agg #[.int .u8 2, .int .i64 0, .int .i64 0, .string ⟨#[]⟩], .int .i64 0]) (by first | rfl | simp) (fun w' hw' hctx => ?_) (fun w' hw' hctx => (or_is 2 0 0 ⟨#[]⟩ 2 0 0 ⟨#[]⟩ ⟨2, 0, 0⟩ (by kernel_rfl) w').mono fun e w2 ⟨he, hb⟩ => ⟨he, KeepR.of_below hb hw'.below.size⟩) ?_
  · go_simp
  simp only [Act.put, List.setIfInBounds_toArray, List.set_cons_zero, List.set_cons_succ]
  iterate 3 (refine seqP_value (KeepR.refl _ _ _ _ _) _ (by first | rfl | simp) (fun w' hw' hctx => by (go_simp); (try first | with_reducible rfl | simp)) ?_; simp only [Act.put, List.setIfInBounds_toArray, List.set_cons_zero, List.set_cons_succ])
  refine seqP_make _ (fun w w' v hR hV => by obtain ⟨h, h1, h2, h3, h4⟩ := hV; exact ⟨h, h1, h2, hR.soft _ h3, hR.cells _ h4⟩) (by first | rfl | simp) (fun w' hw' hctx => ?_) (fun v => ?_)
  · exact ⟨_, _, by go_simp; first | with_reducible rfl | rfl, KeepR.of_below (Below.allocs _ _) hw'.below.size, ⟨_, rfl, hw'.below.size, Soft.new _ _ _ _ _ _, ⟨_, _, _, _, Boxed.new _ _ _ _ _ _⟩⟩⟩
  simp only [Act.put, List.setIfInBounds_toArray, List.set_cons_zero, List.set_cons_succ]
  refine seqP_write 12 _ (by decide) (fun w w' v hR hV h hh => hR.same _ (hV h hh)) (by first | rfl | simp) (fun w' hw' hctx => ?_) (fun v' => ?_)
  · obtain ⟨h, rfl, h2, h3, h4⟩ : ∃ h, v = .pointer (some ⟨h, 0, none⟩) ∧ (v3).heap.size ≤ h ∧ Soft w' h ∧ Cells w' h := hctx.1
    have hk := KeepR.put (k := 2) (n := 0) (u := 0) (t := ⟨#[]⟩) h2 h4
    obtain ⟨x0, x1, x2, x3, hbx⟩ := h4
    have hbp := boxed_put4 hbx (2) (0) 0 ⟨#[]⟩
    obtain ⟨b0, b1, b2, b3, b4⟩ := hbx
    obtain ⟨s0, s1, s2, s3, s4⟩ := h3
    refine ⟨put4 w' h (2) (0) 0 ⟨#[]⟩, ?_, hk, fun h' hh' => ?_⟩
    · go_simp
      rfl
    · simp [upd] at hh'
      subst hh'
      exact hbp
  simp only [Act.put]
  refine seqP_value (KeepR.refl _ _ _ _ _) _ (by first | rfl | simp) (fun w' hw' hctx => ?_) ?_
  · go_simp
    try first | with_reducible rfl | simp
  simp only [Act.put, List.setIfInBounds_toArray, List.set_cons_zero, List.set_cons_succ]
  refine seqP_nil (fun v4 hR hctx => ?_)
  obtain ⟨g4, rfl, hg4, hs4, -⟩ : ∃ h, v = .pointer (some ⟨h, 0, none⟩) ∧ (v3).heap.size ≤ h ∧ Soft v4 h ∧ Cells v4 h := hctx.2.1
  have Bn : Boxed v4 g4 (2) (0) 0 ⟨#[]⟩ := hctx.1 g4 (by simp [upd])
  have hv4 := below_tr hd hR.below
  clear hctx hR hd hs4
  have P5 := P4.below hv4
  have Q5 := Q4.below hv4
  have O5 := O4.below hv4
  have A5 := A4.below hv4
  have hw5 := below_tr hw4 hv4
  clear P4 Q4 O4 A4
  have B5 := Bn
  clear Bn hv4
  go_wp2_with fail
  have hn5 := Below.allocs v4 (.cells #[.int .i64 0, .int .i64 2, .int .i64 1] 35)
  have Hn := IntsAt.new v4 0 2 1 35
  have P6 := P5.below hn5
  have Q6 := Q5.below hn5
  have O6 := O5.below hn5
  have A6 := A5.below hn5
  have B6 := B5.below hn5
  have hw6 := below_tr hw5 hn5
  clear P5 Q5 O5 A5 B5
  have H6 := Hn
  clear Hn hn5
  have hd := below_drew (v4.alloc (.cells #[.int .i64 0, .int .i64 2, .int .i64 1] 35))
  refine wp_region_plan (fun w w' => Below w.heap.size w w') [.it (.int .i64 0), .it (.pointer (some ⟨v4.heap.size, 0, none⟩)), .it (.int .i64 0), .it (.int .i64 0), .it (.pointer (some ⟨v4.heap.size, 0, none⟩)), .it (.int .i64 0), .it (.int .i64 0), .it (.int .i64 0), .it (.pointer (some ⟨v4.heap.size, 0, none⟩)), .it (.int .i64 0), .it (.int .i64 0), .it (.pointer (some ⟨v4.heap.size, 0, none⟩)), .it (.int .i64 0), .it (.int .i64 0), .it (.int .i64 0), .it (.int .i64 0)] (by kernel_rfl) (by kernel_rfl) (fun w => Below.refl _ _) (fun _ _ _ => below_tr) ?_
  iterate 2 (refine seqP_value (fun w => Below.refl _ _) _ (by first | rfl | simp) (fun w' hw' hctx => by (go_simp); (try first | with_reducible rfl | simp)) ?_; simp only [Act.put, List.setIfInBounds_toArray, List.set_cons_zero, List.set_cons_succ])
  refine seqP_value (fun w => Below.refl _ _) _ (by first | rfl | simp) (fun w' hw' hctx => ?_) ?_
  · obtain ⟨c0, c1, c2, c3, c4⟩ := H6.below (below_tr hd hw')
    go_simp
    try first | with_reducible rfl | simp
  simp only [Act.put, List.setIfInBounds_toArray, List.set_cons_zero, List.set_cons_succ]
  iterate 2 (refine seqP_value (fun w => Below.refl _ _) _ (by first | rfl | simp) (fun w' hw' hctx => by (go_simp); (try first | with_reducible rfl | simp)) ?_; simp only [Act.put, List.setIfInBounds_toArray, List.set_cons_zero, List.set_cons_succ])
  refine seqP_value (fun w => Below.refl _ _) _ (by first | rfl | simp) (fun w' hw' hctx => ?_) ?_
  · obtain ⟨c0, c1, c2, c3, c4⟩ := H6.below (below_tr hd hw')
    go_simp
    try first | with_reducible rfl | simp
  simp only [Act.put, List.setIfInBounds_toArray, List.set_cons_zero, List.set_cons_succ]
  iterate 3 (refine seqP_value (fun w => Below.refl _ _) _ (by first | rfl | simp) (fun w' hw' hctx => by (go_simp); (try first | with_reducible rfl | simp)) ?_; simp only [Act.put, List.setIfInBounds_toArray, List.set_cons_zero, List.set_cons_succ])
  refine seqP_value (fun w => Below.refl _ _) _ (by first | rfl | simp) (fun w' hw' hctx => ?_) ?_
  · obtain ⟨c0, c1, c2, c3, c4⟩ := H6.below (below_tr hd hw')
    go_simp
    try first | with_reducible rfl | simp
  simp only [Act.put, List.setIfInBounds_toArray, List.set_cons_zero, List.set_cons_succ]
  iterate 2 (refine seqP_value (fun w => Below.refl _ _) _ (by first | rfl | simp) (fun w' hw' hctx => by (go_simp); (try first | with_reducible rfl | simp)) ?_; simp only [Act.put, List.setIfInBounds_toArray, List.set_cons_zero, List.set_cons_succ])
  refine seqP_value (fun w => Below.refl _ _) _ (by first | rfl | simp) (fun w' hw' hctx => ?_) ?_
  · obtain ⟨c0, c1, c2, c3, c4⟩ := H6.below (below_tr hd hw')
    go_simp
    try first | with_reducible rfl | simp
  simp only [Act.put, List.setIfInBounds_toArray, List.set_cons_zero, List.set_cons_succ]
  iterate 3 (refine seqP_value (fun w => Below.refl _ _) _ (by first | rfl | simp) (fun w' hw' hctx => by (go_simp); (try first | with_reducible rfl | simp)) ?_; simp only [Act.put, List.setIfInBounds_toArray, List.set_cons_zero, List.set_cons_succ])
  refine seqP_nil (fun v5 hR hctx => ?_)
  have hv5 := below_tr hd hR
  clear hctx hR hd
  have P7 := P6.below hv5
  have Q7 := Q6.below hv5
  have O7 := O6.below hv5
  have A7 := A6.below hv5
  have B7 := B6.below hv5
  have H7 := H6.below hv5
  have hw7 := below_tr hw6 hv5
  clear P6 Q6 O6 A6 B6 H6
  clear hv5
  clear H7
  go_wp2_with fail
  have hn7 := Below.allocs v5 (.cells #[.int .i64 0, .int .i64 2, .int .i64 1] 35)
  have Jn := IntsAt.new v5 0 2 1 35
  have P8 := P7.below hn7
  have Q8 := Q7.below hn7
  have O8 := O7.below hn7
  have A8 := A7.below hn7
  have B8 := B7.below hn7
  have hw8 := below_tr hw7 hn7
  clear P7 Q7 O7 A7 B7
  have J8 := Jn
  clear Jn hn7
  have hd := below_drew (v5.alloc (.cells #[.int .i64 0, .int .i64 2, .int .i64 1] 35))
  refine wp_region_plan (fun w w' => Below w.heap.size w w') [.it (.int .i64 0), .it (.bool false), .it (.bool false), .it (.int .i64 0), .it (.bool false), .it (.bool false), .it (.bool false), .it (.agg #[.int .u8 2, .int .i64 0, .int .i64 0, .string ⟨#[]⟩]), .it (.slice (some ⟨v2.heap.size, 0, none⟩) 3 3), .it (.int .i64 0), .it (.pointer (some ⟨v5.heap.size, 0, none⟩)), .it (.int .i64 0), .it (.pointer (some ⟨v2.heap.size, 0, none⟩)), .it (.agg #[.int .u8 2, .int .i64 0, .int .i64 0, .string ⟨#[]⟩]), .it (.bool false), .it (.bool false), .it (.bool false), .it (.agg #[.int .u8 2, .int .i64 0, .int .i64 0, .string ⟨#[]⟩]), .it (.slice (some ⟨v2.heap.size, 0, none⟩) 3 3), .it (.int .i64 0), .it (.pointer (some ⟨v5.heap.size, 0, none⟩)), .it (.int .i64 0), .it (.pointer (some ⟨v2.heap.size, 0, none⟩)), .it (.agg #[.int .u8 2, .int .i64 0, .int .i64 0, .string ⟨#[]⟩]), .it (.bool false), .it (.bool false)] (by kernel_rfl) (by kernel_rfl) (fun w => Below.refl _ _) (fun _ _ _ => below_tr) ?_
  iterate 7 (refine seqP_value (fun w => Below.refl _ _) _ (by first | rfl | simp) (fun w' hw' hctx => by (go_simp); (try first | with_reducible rfl | simp)) ?_; simp only [Act.put, List.setIfInBounds_toArray, List.set_cons_zero, List.set_cons_succ])
  refine seqP_value (fun w => Below.refl _ _) _ (by first | rfl | simp) (fun w' hw' hctx => ?_) ?_
  · obtain ⟨c0, c1, c2, c3, c4⟩ := A8.below (below_tr hd hw')
    go_simp
    try first | with_reducible rfl | simp
  simp only [Act.put, List.setIfInBounds_toArray, List.set_cons_zero, List.set_cons_succ]
  iterate 3 (refine seqP_value (fun w => Below.refl _ _) _ (by first | rfl | simp) (fun w' hw' hctx => by (go_simp); (try first | with_reducible rfl | simp)) ?_; simp only [Act.put, List.setIfInBounds_toArray, List.set_cons_zero, List.set_cons_succ])
  refine seqP_value (fun w => Below.refl _ _) _ (by first | rfl | simp) (fun w' hw' hctx => ?_) ?_
  · obtain ⟨c0, c1, c2, c3, c4⟩ := J8.below (below_tr hd hw')
    go_simp
    try first | with_reducible rfl | simp
  simp only [Act.put, List.setIfInBounds_toArray, List.set_cons_zero, List.set_cons_succ]
  refine seqP_value (fun w => Below.refl _ _) _ (by first | rfl | simp) (fun w' hw' hctx => ?_) ?_
  · go_simp
    try first | with_reducible rfl | simp
  simp only [Act.put, List.setIfInBounds_toArray, List.set_cons_zero, List.set_cons_succ]
  refine seqP_value (fun w => Below.refl _ _) _ (by first | rfl | simp) (fun w' hw' hctx => ?_) ?_
  · obtain ⟨c0, c1, c2, c3, c4⟩ := P8.below (below_tr hd hw')
    go_simp
    try first | with_reducible rfl | simp
  simp only [Act.put, List.setIfInBounds_toArray, List.set_cons_zero, List.set_cons_succ]
  iterate 3 (refine seqP_value (fun w => Below.refl _ _) _ (by first | rfl | simp) (fun w' hw' hctx => by (go_simp); (try first | with_reducible rfl | simp)) ?_; simp only [Act.put, List.setIfInBounds_toArray, List.set_cons_zero, List.set_cons_succ])
  refine seqP_value (fun w => Below.refl _ _) _ (by first | rfl | simp) (fun w' hw' hctx => ?_) ?_
  · obtain ⟨c0, c1, c2, c3, c4⟩ := B8.below (below_tr hd hw')
    go_simp
    try first | with_reducible rfl | simp
  simp only [Act.put, List.setIfInBounds_toArray, List.set_cons_zero, List.set_cons_succ]
  iterate 3 (refine seqP_value (fun w => Below.refl _ _) _ (by first | rfl | simp) (fun w' hw' hctx => by (go_simp); (try first | with_reducible rfl | simp)) ?_; simp only [Act.put, List.setIfInBounds_toArray, List.set_cons_zero, List.set_cons_succ])
  refine seqP_value (fun w => Below.refl _ _) _ (by first | rfl | simp) (fun w' hw' hctx => ?_) ?_
  · obtain ⟨c0, c1, c2, c3, c4⟩ := J8.below (below_tr hd hw')
    go_simp
    try first | with_reducible rfl | simp
  simp only [Act.put, List.setIfInBounds_toArray, List.set_cons_zero, List.set_cons_succ]
  refine seqP_value (fun w => Below.refl _ _) _ (by first | rfl | simp) (fun w' hw' hctx => ?_) ?_
  · go_simp
    try first | with_reducible rfl | simp
  simp only [Act.put, List.setIfInBounds_toArray, List.set_cons_zero, List.set_cons_succ]
  refine seqP_value (fun w => Below.refl _ _) _ (by first | rfl | simp) (fun w' hw' hctx => ?_) ?_
  · obtain ⟨c0, c1, c2, c3, c4⟩ := P8.below (below_tr hd hw')
    go_simp
    try first | with_reducible rfl | simp
  simp only [Act.put, List.setIfInBounds_toArray, List.set_cons_zero, List.set_cons_succ]
  iterate 2 (refine seqP_value (fun w => Below.refl _ _) _ (by first | rfl | simp) (fun w' hw' hctx => by (go_simp); (try first | with_reducible rfl | simp)) ?_; simp only [Act.put, List.setIfInBounds_toArray, List.set_cons_zero, List.set_cons_succ])
  refine seqP_nil (fun v6 hR hctx => ?_)
  have hv6 := below_tr hd hR
  clear hctx hR hd
  have P9 := P8.below hv6
  have Q9 := Q8.below hv6
  have O9 := O8.below hv6
  have A9 := A8.below hv6
  have B9 := B8.below hv6
  have J9 := J8.below hv6
  have hw9 := below_tr hw8 hv6
  clear P8 Q8 O8 A8 B8 J8
  clear hv6
  clear A9
  clear B9
  clear J9
  have p' := P9
  obtain ⟨p0, p1, p2, p3, p4⟩ := p'
  have q' := Q9
  obtain ⟨q0, q1, q2, q3, q4⟩ := q'
  have o' := O9
  obtain ⟨o0, o1, o2, o3, o4⟩ := o'
  go_wp2_with fail
  clear p0 p1 p2 p3 p4 q0 q1 q2 q3 q4 o0 o1 o2 o3 o4
  rw [rounds_succ]
  go_wp2_with fail
  have hd := below_drew v6
  refine wp_region_plan (KeepR (v6).heap.size 2 0 0 ⟨#[]⟩) [.it (.slice (some ⟨v2.heap.size, 0, none⟩) 3 3), .it (.int .i64 0), .it (.pointer (some ⟨v2.heap.size, 0, none⟩)), .it (.agg #[.int .u8 2, .int .i64 0, .int .i64 0, .string ⟨#[]⟩]), .it (.slice (some ⟨v2.heap.size, 0, none⟩) 3 3), .it (.int .i64 1), .it (.pointer (some ⟨v2.heap.size, 4, none⟩)), .it (.agg #[.int .u8 2, .int .i64 1, .int .i64 0, .string ⟨#[]⟩]), .it (.tuple #[.agg #[.int .u8 2, .int .i64 0, .int .i64 0, .string ⟨#[]⟩], .int .i64 0]), .it (.tuple #[.agg #[.int .u8 2, .int .i64 0, .int .i64 0, .string ⟨#[]⟩], .int .i64 0]), .it (.agg #[.int .u8 2, .int .i64 0, .int .i64 0, .string ⟨#[]⟩]), .it (.int .i64 0), .of (fun w v => ∃ h, v = .pointer (some ⟨h, 0, none⟩) ∧ (v6).heap.size ≤ h ∧ Soft w h ∧ Cells w h), .on 12 (fun p w _ => ∀ h, p = .pointer (some ⟨h, 0, none⟩) → Boxed w h 2 0 0 ⟨#[]⟩), .it (.int .i64 0)] (by kernel_rfl) (by kernel_rfl) (KeepR.refl _ _ _ _ _) KeepR.trans ?_
  iterate 3 (refine seqP_value (KeepR.refl _ _ _ _ _) _ (by first | rfl | simp) (fun w' hw' hctx => by (go_simp); (try first | with_reducible rfl | simp)) ?_; simp only [Act.put, List.setIfInBounds_toArray, List.set_cons_zero, List.set_cons_succ])
  refine seqP_value (KeepR.refl _ _ _ _ _) _ (by first | rfl | simp) (fun w' hw' hctx => ?_) ?_
  · obtain ⟨c0, c1, c2, c3, c4⟩ := P9.below (below_tr hd hw'.below)
    go_simp
    try first | with_reducible rfl | simp
  simp only [Act.put, List.setIfInBounds_toArray, List.set_cons_zero, List.set_cons_succ]
  iterate 3 (refine seqP_value (KeepR.refl _ _ _ _ _) _ (by first | rfl | simp) (fun w' hw' hctx => by (go_simp); (try first | with_reducible rfl | simp)) ?_; simp only [Act.put, List.setIfInBounds_toArray, List.set_cons_zero, List.set_cons_succ])
  refine seqP_value (KeepR.refl _ _ _ _ _) _ (by first | rfl | simp) (fun w' hw' hctx => ?_) ?_
  · obtain ⟨c0, c1, c2, c3, c4⟩ := Q9.below (below_tr hd hw'.below)
    go_simp
    try first | with_reducible rfl | simp
  simp only [Act.put, List.setIfInBounds_toArray, List.set_cons_zero, List.set_cons_succ]
  refine seqP_call 22 #[.agg #[.int .u8 2, .int .i64 0, .int .i64 0, .string ⟨#[]⟩], .agg #[.int .u8 2, .int .i64 1, .int .i64 0, .string ⟨#[]⟩]] (.tuple #[.agg #[.int .u8 2, .int .i64 0, .int .i64 0, .string ⟨#[]⟩], .int .i64 0]) (by first | rfl | simp) (fun w' hw' hctx => ?_) (fun w' hw' hctx => (and_is 2 0 0 ⟨#[]⟩ 2 1 0 ⟨#[]⟩ ⟨2, 0, 0⟩ (by kernel_rfl) w').mono fun e w2 ⟨he, hb⟩ => ⟨he, KeepR.of_below hb hw'.below.size⟩) ?_
  · go_simp
  simp only [Act.put, List.setIfInBounds_toArray, List.set_cons_zero, List.set_cons_succ]
  iterate 3 (refine seqP_value (KeepR.refl _ _ _ _ _) _ (by first | rfl | simp) (fun w' hw' hctx => by (go_simp); (try first | with_reducible rfl | simp)) ?_; simp only [Act.put, List.setIfInBounds_toArray, List.set_cons_zero, List.set_cons_succ])
  refine seqP_make _ (fun w w' v hR hV => by obtain ⟨h, h1, h2, h3, h4⟩ := hV; exact ⟨h, h1, h2, hR.soft _ h3, hR.cells _ h4⟩) (by first | rfl | simp) (fun w' hw' hctx => ?_) (fun v => ?_)
  · exact ⟨_, _, by go_simp; first | with_reducible rfl | rfl, KeepR.of_below (Below.allocs _ _) hw'.below.size, ⟨_, rfl, hw'.below.size, Soft.new _ _ _ _ _ _, ⟨_, _, _, _, Boxed.new _ _ _ _ _ _⟩⟩⟩
  simp only [Act.put, List.setIfInBounds_toArray, List.set_cons_zero, List.set_cons_succ]
  refine seqP_write 12 _ (by decide) (fun w w' v hR hV h hh => hR.same _ (hV h hh)) (by first | rfl | simp) (fun w' hw' hctx => ?_) (fun v' => ?_)
  · obtain ⟨h, rfl, h2, h3, h4⟩ : ∃ h, v = .pointer (some ⟨h, 0, none⟩) ∧ (v6).heap.size ≤ h ∧ Soft w' h ∧ Cells w' h := hctx.1
    have hk := KeepR.put (k := 2) (n := 0) (u := 0) (t := ⟨#[]⟩) h2 h4
    obtain ⟨x0, x1, x2, x3, hbx⟩ := h4
    have hbp := boxed_put4 hbx (2) (0) 0 ⟨#[]⟩
    obtain ⟨b0, b1, b2, b3, b4⟩ := hbx
    obtain ⟨s0, s1, s2, s3, s4⟩ := h3
    refine ⟨put4 w' h (2) (0) 0 ⟨#[]⟩, ?_, hk, fun h' hh' => ?_⟩
    · go_simp
      rfl
    · simp [upd] at hh'
      subst hh'
      exact hbp
  simp only [Act.put]
  refine seqP_value (KeepR.refl _ _ _ _ _) _ (by first | rfl | simp) (fun w' hw' hctx => ?_) ?_
  · go_simp
    try first | with_reducible rfl | simp
  simp only [Act.put, List.setIfInBounds_toArray, List.set_cons_zero, List.set_cons_succ]
  refine seqP_nil (fun v7 hR hctx => ?_)
  obtain ⟨g7, rfl, hg7, hs7, -⟩ : ∃ h, v = .pointer (some ⟨h, 0, none⟩) ∧ (v6).heap.size ≤ h ∧ Soft v7 h ∧ Cells v7 h := hctx.2.1
  have An : Boxed v7 g7 (2) (0) 0 ⟨#[]⟩ := hctx.1 g7 (by simp [upd])
  have hv7 := below_tr hd hR.below
  clear hctx hR hd hs7
  have P10 := P9.below hv7
  have Q10 := Q9.below hv7
  have O10 := O9.below hv7
  have hw10 := below_tr hw9 hv7
  clear P9 Q9 O9
  have A10 := An
  clear An hv7
  go_wp2_with fail
  have hd := below_drew v7
  refine wp_region_plan (KeepR (v7).heap.size 2 1 0 ⟨#[]⟩) [.it (.slice (some ⟨v2.heap.size, 0, none⟩) 3 3), .it (.int .i64 0), .it (.pointer (some ⟨v2.heap.size, 0, none⟩)), .it (.agg #[.int .u8 2, .int .i64 0, .int .i64 0, .string ⟨#[]⟩]), .it (.slice (some ⟨v2.heap.size, 0, none⟩) 3 3), .it (.int .i64 1), .it (.pointer (some ⟨v2.heap.size, 4, none⟩)), .it (.agg #[.int .u8 2, .int .i64 1, .int .i64 0, .string ⟨#[]⟩]), .it (.tuple #[.agg #[.int .u8 2, .int .i64 1, .int .i64 0, .string ⟨#[]⟩], .int .i64 0]), .it (.tuple #[.agg #[.int .u8 2, .int .i64 1, .int .i64 0, .string ⟨#[]⟩], .int .i64 0]), .it (.agg #[.int .u8 2, .int .i64 1, .int .i64 0, .string ⟨#[]⟩]), .it (.int .i64 0), .of (fun w v => ∃ h, v = .pointer (some ⟨h, 0, none⟩) ∧ (v7).heap.size ≤ h ∧ Soft w h ∧ Cells w h), .on 12 (fun p w _ => ∀ h, p = .pointer (some ⟨h, 0, none⟩) → Boxed w h 2 1 0 ⟨#[]⟩), .it (.int .i64 0)] (by kernel_rfl) (by kernel_rfl) (KeepR.refl _ _ _ _ _) KeepR.trans ?_
  iterate 3 (refine seqP_value (KeepR.refl _ _ _ _ _) _ (by first | rfl | simp) (fun w' hw' hctx => by (go_simp); (try first | with_reducible rfl | simp)) ?_; simp only [Act.put, List.setIfInBounds_toArray, List.set_cons_zero, List.set_cons_succ])
  refine seqP_value (KeepR.refl _ _ _ _ _) _ (by first | rfl | simp) (fun w' hw' hctx => ?_) ?_
  · obtain ⟨c0, c1, c2, c3, c4⟩ := P10.below (below_tr hd hw'.below)
    go_simp
    try first | with_reducible rfl | simp
  simp only [Act.put, List.setIfInBounds_toArray, List.set_cons_zero, List.set_cons_succ]
  iterate 3 (refine seqP_value (KeepR.refl _ _ _ _ _) _ (by first | rfl | simp) (fun w' hw' hctx => by (go_simp); (try first | with_reducible rfl | simp)) ?_; simp only [Act.put, List.setIfInBounds_toArray, List.set_cons_zero, List.set_cons_succ])
  refine seqP_value (KeepR.refl _ _ _ _ _) _ (by first | rfl | simp) (fun w' hw' hctx => ?_) ?_
  · obtain ⟨c0, c1, c2, c3, c4⟩ := Q10.below (below_tr hd hw'.below)
    go_simp
    try first | with_reducible rfl | simp
  simp only [Act.put, List.setIfInBounds_toArray, List.set_cons_zero, List.set_cons_succ]
  refine seqP_call 24 #[.agg #[.int .u8 2, .int .i64 0, .int .i64 0, .string ⟨#[]⟩], .agg #[.int .u8 2, .int .i64 1, .int .i64 0, .string ⟨#[]⟩]] (.tuple #[.agg #[.int .u8 2, .int .i64 1, .int .i64 0, .string ⟨#[]⟩], .int .i64 0]) (by first | rfl | simp) (fun w' hw' hctx => ?_) (fun w' hw' hctx => (or_is 2 0 0 ⟨#[]⟩ 2 1 0 ⟨#[]⟩ ⟨2, 1, 0⟩ (by kernel_rfl) w').mono fun e w2 ⟨he, hb⟩ => ⟨he, KeepR.of_below hb hw'.below.size⟩) ?_
  · go_simp
  simp only [Act.put, List.setIfInBounds_toArray, List.set_cons_zero, List.set_cons_succ]
  iterate 3 (refine seqP_value (KeepR.refl _ _ _ _ _) _ (by first | rfl | simp) (fun w' hw' hctx => by (go_simp); (try first | with_reducible rfl | simp)) ?_; simp only [Act.put, List.setIfInBounds_toArray, List.set_cons_zero, List.set_cons_succ])
  refine seqP_make _ (fun w w' v hR hV => by obtain ⟨h, h1, h2, h3, h4⟩ := hV; exact ⟨h, h1, h2, hR.soft _ h3, hR.cells _ h4⟩) (by first | rfl | simp) (fun w' hw' hctx => ?_) (fun v => ?_)
  · exact ⟨_, _, by go_simp; first | with_reducible rfl | rfl, KeepR.of_below (Below.allocs _ _) hw'.below.size, ⟨_, rfl, hw'.below.size, Soft.new _ _ _ _ _ _, ⟨_, _, _, _, Boxed.new _ _ _ _ _ _⟩⟩⟩
  simp only [Act.put, List.setIfInBounds_toArray, List.set_cons_zero, List.set_cons_succ]
  refine seqP_write 12 _ (by decide) (fun w w' v hR hV h hh => hR.same _ (hV h hh)) (by first | rfl | simp) (fun w' hw' hctx => ?_) (fun v' => ?_)
  · obtain ⟨h, rfl, h2, h3, h4⟩ : ∃ h, v = .pointer (some ⟨h, 0, none⟩) ∧ (v7).heap.size ≤ h ∧ Soft w' h ∧ Cells w' h := hctx.1
    have hk := KeepR.put (k := 2) (n := 1) (u := 0) (t := ⟨#[]⟩) h2 h4
    obtain ⟨x0, x1, x2, x3, hbx⟩ := h4
    have hbp := boxed_put4 hbx (2) (1) 0 ⟨#[]⟩
    obtain ⟨b0, b1, b2, b3, b4⟩ := hbx
    obtain ⟨s0, s1, s2, s3, s4⟩ := h3
    refine ⟨put4 w' h (2) (1) 0 ⟨#[]⟩, ?_, hk, fun h' hh' => ?_⟩
    · go_simp
      rfl
    · simp [upd] at hh'
      subst hh'
      exact hbp
  simp only [Act.put]
  refine seqP_value (KeepR.refl _ _ _ _ _) _ (by first | rfl | simp) (fun w' hw' hctx => ?_) ?_
  · go_simp
    try first | with_reducible rfl | simp
  simp only [Act.put, List.setIfInBounds_toArray, List.set_cons_zero, List.set_cons_succ]
  refine seqP_nil (fun v8 hR hctx => ?_)
  obtain ⟨g8, rfl, hg8, hs8, -⟩ : ∃ h, v = .pointer (some ⟨h, 0, none⟩) ∧ (v7).heap.size ≤ h ∧ Soft v8 h ∧ Cells v8 h := hctx.2.1
  have Bn : Boxed v8 g8 (2) (1) 0 ⟨#[]⟩ := hctx.1 g8 (by simp [upd])
  have hv8 := below_tr hd hR.below
  clear hctx hR hd hs8
  have P11 := P10.below hv8
  have Q11 := Q10.below hv8
  have O11 := O10.below hv8
  have A11 := A10.below hv8
  have hw11 := below_tr hw10 hv8
  clear P10 Q10 O10 A10
  have B11 := Bn
  clear Bn hv8
  go_wp2_with fail
  have hn11 := Below.allocs v8 (.cells #[.int .i64 0, .int .i64 2, .int .i64 1] 35)
  have Hn := IntsAt.new v8 0 2 1 35
  have P12 := P11.below hn11
  have Q12 := Q11.below hn11
  have O12 := O11.below hn11
  have A12 := A11.below hn11
  have B12 := B11.below hn11
  have hw12 := below_tr hw11 hn11
  clear P11 Q11 O11 A11 B11
  have H12 := Hn
  clear Hn hn11
  have hd := below_drew (v8.alloc (.cells #[.int .i64 0, .int .i64 2, .int .i64 1] 35))
  refine wp_region_plan (fun w w' => Below w.heap.size w w') [.it (.int .i64 0), .it (.pointer (some ⟨v8.heap.size, 0, none⟩)), .it (.int .i64 0), .it (.int .i64 1), .it (.pointer (some ⟨v8.heap.size, 1, none⟩)), .it (.int .i64 2), .it (.int .i64 0), .it (.int .i64 0), .it (.pointer (some ⟨v8.heap.size, 0, none⟩)), .it (.int .i64 0), .it (.int .i64 1), .it (.pointer (some ⟨v8.heap.size, 1, none⟩)), .it (.int .i64 2), .it (.int .i64 2), .it (.int .i64 0), .it (.int .i64 2)] (by kernel_rfl) (by kernel_rfl) (fun w => Below.refl _ _) (fun _ _ _ => below_tr) ?_
  iterate 2 (refine seqP_value (fun w => Below.refl _ _) _ (by first | rfl | simp) (fun w' hw' hctx => by (go_simp); (try first | with_reducible rfl | simp)) ?_; simp only [Act.put, List.setIfInBounds_toArray, List.set_cons_zero, List.set_cons_succ])
  refine seqP_value (fun w => Below.refl _ _) _ (by first | rfl | simp) (fun w' hw' hctx => ?_) ?_
  · obtain ⟨c0, c1, c2, c3, c4⟩ := H12.below (below_tr hd hw')
    go_simp
    try first | with_reducible rfl | simp
  simp only [Act.put, List.setIfInBounds_toArray, List.set_cons_zero, List.set_cons_succ]
  iterate 2 (refine seqP_value (fun w => Below.refl _ _) _ (by first | rfl | simp) (fun w' hw' hctx => by (go_simp); (try first | with_reducible rfl | simp)) ?_; simp only [Act.put, List.setIfInBounds_toArray, List.set_cons_zero, List.set_cons_succ])
  refine seqP_value (fun w => Below.refl _ _) _ (by first | rfl | simp) (fun w' hw' hctx => ?_) ?_
  · obtain ⟨c0, c1, c2, c3, c4⟩ := H12.below (below_tr hd hw')
    go_simp
    try first | with_reducible rfl | simp
  simp only [Act.put, List.setIfInBounds_toArray, List.set_cons_zero, List.set_cons_succ]
  iterate 3 (refine seqP_value (fun w => Below.refl _ _) _ (by first | rfl | simp) (fun w' hw' hctx => by (go_simp); (try first | with_reducible rfl | simp)) ?_; simp only [Act.put, List.setIfInBounds_toArray, List.set_cons_zero, List.set_cons_succ])
  refine seqP_value (fun w => Below.refl _ _) _ (by first | rfl | simp) (fun w' hw' hctx => ?_) ?_
  · obtain ⟨c0, c1, c2, c3, c4⟩ := H12.below (below_tr hd hw')
    go_simp
    try first | with_reducible rfl | simp
  simp only [Act.put, List.setIfInBounds_toArray, List.set_cons_zero, List.set_cons_succ]
  iterate 2 (refine seqP_value (fun w => Below.refl _ _) _ (by first | rfl | simp) (fun w' hw' hctx => by (go_simp); (try first | with_reducible rfl | simp)) ?_; simp only [Act.put, List.setIfInBounds_toArray, List.set_cons_zero, List.set_cons_succ])
  refine seqP_value (fun w => Below.refl _ _) _ (by first | rfl | simp) (fun w' hw' hctx => ?_) ?_
  · obtain ⟨c0, c1, c2, c3, c4⟩ := H12.below (below_tr hd hw')
    go_simp
    try first | with_reducible rfl | simp
  simp only [Act.put, List.setIfInBounds_toArray, List.set_cons_zero, List.set_cons_succ]
  iterate 3 (refine seqP_value (fun w => Below.refl _ _) _ (by first | rfl | simp) (fun w' hw' hctx => by (go_simp); (try first | with_reducible rfl | simp)) ?_; simp only [Act.put, List.setIfInBounds_toArray, List.set_cons_zero, List.set_cons_succ])
  refine seqP_nil (fun v9 hR hctx => ?_)
  have hv9 := below_tr hd hR
  clear hctx hR hd
  have P13 := P12.below hv9
  have Q13 := Q12.below hv9
  have O13 := O12.below hv9
  have A13 := A12.below hv9
  have B13 := B12.below hv9
  have H13 := H12.below hv9
  have hw13 := below_tr hw12 hv9
  clear P12 Q12 O12 A12 B12 H12
  clear hv9
  clear H13
  go_wp2_with fail
  have hn13 := Below.allocs v9 (.cells #[.int .i64 0, .int .i64 2, .int .i64 1] 35)
  have Jn := IntsAt.new v9 0 2 1 35
  have P14 := P13.below hn13
  have Q14 := Q13.below hn13
  have O14 := O13.below hn13
  have A14 := A13.below hn13
  have B14 := B13.below hn13
  have hw14 := below_tr hw13 hn13
  clear P13 Q13 O13 A13 B13
  have J14 := Jn
  clear Jn hn13
  have hd := below_drew (v9.alloc (.cells #[.int .i64 0, .int .i64 2, .int .i64 1] 35))
  refine wp_region_plan (fun w w' => Below w.heap.size w w') [.it (.int .i64 0), .it (.bool false), .it (.bool false), .it (.int .i64 0), .it (.bool false), .it (.bool false), .it (.bool false), .it (.agg #[.int .u8 2, .int .i64 0, .int .i64 0, .string ⟨#[]⟩]), .it (.slice (some ⟨v2.heap.size, 0, none⟩) 3 3), .it (.int .i64 0), .it (.pointer (some ⟨v9.heap.size, 0, none⟩)), .it (.int .i64 0), .it (.pointer (some ⟨v2.heap.size, 0, none⟩)), .it (.agg #[.int .u8 2, .int .i64 0, .int .i64 0, .string ⟨#[]⟩]), .it (.bool false), .it (.bool false), .it (.bool false), .it (.agg #[.int .u8 2, .int .i64 1, .int .i64 0, .string ⟨#[]⟩]), .it (.slice (some ⟨v2.heap.size, 0, none⟩) 3 3), .it (.int .i64 2), .it (.pointer (some ⟨v9.heap.size, 2, none⟩)), .it (.int .i64 1), .it (.pointer (some ⟨v2.heap.size, 4, none⟩)), .it (.agg #[.int .u8 2, .int .i64 1, .int .i64 0, .string ⟨#[]⟩]), .it (.bool false), .it (.bool false)] (by kernel_rfl) (by kernel_rfl) (fun w => Below.refl _ _) (fun _ _ _ => below_tr) ?_
  iterate 7 (refine seqP_value (fun w => Below.refl _ _) _ (by first | rfl | simp) (fun w' hw' hctx => by (go_simp); (try first | with_reducible rfl | simp)) ?_; simp only [Act.put, List.setIfInBounds_toArray, List.set_cons_zero, List.set_cons_succ])
  refine seqP_value (fun w => Below.refl _ _) _ (by first | rfl | simp) (fun w' hw' hctx => ?_) ?_
  · obtain ⟨c0, c1, c2, c3, c4⟩ := A14.below (below_tr hd hw')
    go_simp
    try first | with_reducible rfl | simp
  simp only [Act.put, List.setIfInBounds_toArray, List.set_cons_zero, List.set_cons_succ]
  iterate 3 (refine seqP_value (fun w => Below.refl _ _) _ (by first | rfl | simp) (fun w' hw' hctx => by (go_simp); (try first | with_reducible rfl | simp)) ?_; simp only [Act.put, List.setIfInBounds_toArray, List.set_cons_zero, List.set_cons_succ])
  refine seqP_value (fun w => Below.refl _ _) _ (by first | rfl | simp) (fun w' hw' hctx => ?_) ?_
  · obtain ⟨c0, c1, c2, c3, c4⟩ := J14.below (below_tr hd hw')
    go_simp
    try first | with_reducible rfl | simp
  simp only [Act.put, List.setIfInBounds_toArray, List.set_cons_zero, List.set_cons_succ]
  refine seqP_value (fun w => Below.refl _ _) _ (by first | rfl | simp) (fun w' hw' hctx => ?_) ?_
  · go_simp
    try first | with_reducible rfl | simp
  simp only [Act.put, List.setIfInBounds_toArray, List.set_cons_zero, List.set_cons_succ]
  refine seqP_value (fun w => Below.refl _ _) _ (by first | rfl | simp) (fun w' hw' hctx => ?_) ?_
  · obtain ⟨c0, c1, c2, c3, c4⟩ := P14.below (below_tr hd hw')
    go_simp
    try first | with_reducible rfl | simp
  simp only [Act.put, List.setIfInBounds_toArray, List.set_cons_zero, List.set_cons_succ]
  iterate 3 (refine seqP_value (fun w => Below.refl _ _) _ (by first | rfl | simp) (fun w' hw' hctx => by (go_simp); (try first | with_reducible rfl | simp)) ?_; simp only [Act.put, List.setIfInBounds_toArray, List.set_cons_zero, List.set_cons_succ])
  refine seqP_value (fun w => Below.refl _ _) _ (by first | rfl | simp) (fun w' hw' hctx => ?_) ?_
  · obtain ⟨c0, c1, c2, c3, c4⟩ := B14.below (below_tr hd hw')
    go_simp
    try first | with_reducible rfl | simp
  simp only [Act.put, List.setIfInBounds_toArray, List.set_cons_zero, List.set_cons_succ]
  iterate 3 (refine seqP_value (fun w => Below.refl _ _) _ (by first | rfl | simp) (fun w' hw' hctx => by (go_simp); (try first | with_reducible rfl | simp)) ?_; simp only [Act.put, List.setIfInBounds_toArray, List.set_cons_zero, List.set_cons_succ])
  refine seqP_value (fun w => Below.refl _ _) _ (by first | rfl | simp) (fun w' hw' hctx => ?_) ?_
  · obtain ⟨c0, c1, c2, c3, c4⟩ := J14.below (below_tr hd hw')
    go_simp
    try first | with_reducible rfl | simp
  simp only [Act.put, List.setIfInBounds_toArray, List.set_cons_zero, List.set_cons_succ]
  refine seqP_value (fun w => Below.refl _ _) _ (by first | rfl | simp) (fun w' hw' hctx => ?_) ?_
  · go_simp
    try first | with_reducible rfl | simp
  simp only [Act.put, List.setIfInBounds_toArray, List.set_cons_zero, List.set_cons_succ]
  refine seqP_value (fun w => Below.refl _ _) _ (by first | rfl | simp) (fun w' hw' hctx => ?_) ?_
  · obtain ⟨c0, c1, c2, c3, c4⟩ := Q14.below (below_tr hd hw')
    go_simp
    try first | with_reducible rfl | simp
  simp only [Act.put, List.setIfInBounds_toArray, List.set_cons_zero, List.set_cons_succ]
  iterate 2 (refine seqP_value (fun w => Below.refl _ _) _ (by first | rfl | simp) (fun w' hw' hctx => by (go_simp); (try first | with_reducible rfl | simp)) ?_; simp only [Act.put, List.setIfInBounds_toArray, List.set_cons_zero, List.set_cons_succ])
  refine seqP_nil (fun v10 hR hctx => ?_)
  have hv10 := below_tr hd hR
  clear hctx hR hd
  have P15 := P14.below hv10
  have Q15 := Q14.below hv10
  have O15 := O14.below hv10
  have A15 := A14.below hv10
  have B15 := B14.below hv10
  have J15 := J14.below hv10
  have hw15 := below_tr hw14 hv10
  clear P14 Q14 O14 A14 B14 J14
  clear hv10
  clear A15
  clear B15
  clear J15
  have p' := P15
  obtain ⟨p0, p1, p2, p3, p4⟩ := p'
  have q' := Q15
  obtain ⟨q0, q1, q2, q3, q4⟩ := q'
  have o' := O15
  obtain ⟨o0, o1, o2, o3, o4⟩ := o'
  go_wp2_with fail
  clear p0 p1 p2 p3 p4 q0 q1 q2 q3 q4 o0 o1 o2 o3 o4
  rw [rounds_succ]
  go_wp2_with fail
  have hd := below_drew v10
  refine wp_region_plan (KeepR (v10).heap.size 2 0 0 ⟨#[]⟩) [.it (.slice (some ⟨v2.heap.size, 0, none⟩) 3 3), .it (.int .i64 0), .it (.pointer (some ⟨v2.heap.size, 0, none⟩)), .it (.agg #[.int .u8 2, .int .i64 0, .int .i64 0, .string ⟨#[]⟩]), .it (.slice (some ⟨v2.heap.size, 0, none⟩) 3 3), .it (.int .i64 2), .it (.pointer (some ⟨v2.heap.size, 8, none⟩)), .it (.agg #[.int .u8 0, .int .i64 0, .int .i64 0, .string ⟨#[]⟩]), .it (.tuple #[.agg #[.int .u8 2, .int .i64 0, .int .i64 0, .string ⟨#[]⟩], .int .i64 0]), .it (.tuple #[.agg #[.int .u8 2, .int .i64 0, .int .i64 0, .string ⟨#[]⟩], .int .i64 0]), .it (.agg #[.int .u8 2, .int .i64 0, .int .i64 0, .string ⟨#[]⟩]), .it (.int .i64 0), .of (fun w v => ∃ h, v = .pointer (some ⟨h, 0, none⟩) ∧ (v10).heap.size ≤ h ∧ Soft w h ∧ Cells w h), .on 12 (fun p w _ => ∀ h, p = .pointer (some ⟨h, 0, none⟩) → Boxed w h 2 0 0 ⟨#[]⟩), .it (.int .i64 0)] (by kernel_rfl) (by kernel_rfl) (KeepR.refl _ _ _ _ _) KeepR.trans ?_
  iterate 3 (refine seqP_value (KeepR.refl _ _ _ _ _) _ (by first | rfl | simp) (fun w' hw' hctx => by (go_simp); (try first | with_reducible rfl | simp)) ?_; simp only [Act.put, List.setIfInBounds_toArray, List.set_cons_zero, List.set_cons_succ])
  refine seqP_value (KeepR.refl _ _ _ _ _) _ (by first | rfl | simp) (fun w' hw' hctx => ?_) ?_
  · obtain ⟨c0, c1, c2, c3, c4⟩ := P15.below (below_tr hd hw'.below)
    go_simp
    try first | with_reducible rfl | simp
  simp only [Act.put, List.setIfInBounds_toArray, List.set_cons_zero, List.set_cons_succ]
  iterate 3 (refine seqP_value (KeepR.refl _ _ _ _ _) _ (by first | rfl | simp) (fun w' hw' hctx => by (go_simp); (try first | with_reducible rfl | simp)) ?_; simp only [Act.put, List.setIfInBounds_toArray, List.set_cons_zero, List.set_cons_succ])
  refine seqP_value (KeepR.refl _ _ _ _ _) _ (by first | rfl | simp) (fun w' hw' hctx => ?_) ?_
  · obtain ⟨c0, c1, c2, c3, c4⟩ := O15.below (below_tr hd hw'.below)
    go_simp
    try first | with_reducible rfl | simp
  simp only [Act.put, List.setIfInBounds_toArray, List.set_cons_zero, List.set_cons_succ]
  refine seqP_call 22 #[.agg #[.int .u8 2, .int .i64 0, .int .i64 0, .string ⟨#[]⟩], .agg #[.int .u8 0, .int .i64 0, .int .i64 0, .string ⟨#[]⟩]] (.tuple #[.agg #[.int .u8 2, .int .i64 0, .int .i64 0, .string ⟨#[]⟩], .int .i64 0]) (by first | rfl | simp) (fun w' hw' hctx => ?_) (fun w' hw' hctx => (and_is 2 0 0 ⟨#[]⟩ 0 0 0 ⟨#[]⟩ ⟨2, 0, 0⟩ (by kernel_rfl) w').mono fun e w2 ⟨he, hb⟩ => ⟨he, KeepR.of_below hb hw'.below.size⟩) ?_
  · go_simp
  simp only [Act.put, List.setIfInBounds_toArray, List.set_cons_zero, List.set_cons_succ]
  iterate 3 (refine seqP_value (KeepR.refl _ _ _ _ _) _ (by first | rfl | simp) (fun w' hw' hctx => by (go_simp); (try first | with_reducible rfl | simp)) ?_; simp only [Act.put, List.setIfInBounds_toArray, List.set_cons_zero, List.set_cons_succ])
  refine seqP_make _ (fun w w' v hR hV => by obtain ⟨h, h1, h2, h3, h4⟩ := hV; exact ⟨h, h1, h2, hR.soft _ h3, hR.cells _ h4⟩) (by first | rfl | simp) (fun w' hw' hctx => ?_) (fun v => ?_)
  · exact ⟨_, _, by go_simp; first | with_reducible rfl | rfl, KeepR.of_below (Below.allocs _ _) hw'.below.size, ⟨_, rfl, hw'.below.size, Soft.new _ _ _ _ _ _, ⟨_, _, _, _, Boxed.new _ _ _ _ _ _⟩⟩⟩
  simp only [Act.put, List.setIfInBounds_toArray, List.set_cons_zero, List.set_cons_succ]
  refine seqP_write 12 _ (by decide) (fun w w' v hR hV h hh => hR.same _ (hV h hh)) (by first | rfl | simp) (fun w' hw' hctx => ?_) (fun v' => ?_)
  · obtain ⟨h, rfl, h2, h3, h4⟩ : ∃ h, v = .pointer (some ⟨h, 0, none⟩) ∧ (v10).heap.size ≤ h ∧ Soft w' h ∧ Cells w' h := hctx.1
    have hk := KeepR.put (k := 2) (n := 0) (u := 0) (t := ⟨#[]⟩) h2 h4
    obtain ⟨x0, x1, x2, x3, hbx⟩ := h4
    have hbp := boxed_put4 hbx (2) (0) 0 ⟨#[]⟩
    obtain ⟨b0, b1, b2, b3, b4⟩ := hbx
    obtain ⟨s0, s1, s2, s3, s4⟩ := h3
    refine ⟨put4 w' h (2) (0) 0 ⟨#[]⟩, ?_, hk, fun h' hh' => ?_⟩
    · go_simp
      rfl
    · simp [upd] at hh'
      subst hh'
      exact hbp
  simp only [Act.put]
  refine seqP_value (KeepR.refl _ _ _ _ _) _ (by first | rfl | simp) (fun w' hw' hctx => ?_) ?_
  · go_simp
    try first | with_reducible rfl | simp
  simp only [Act.put, List.setIfInBounds_toArray, List.set_cons_zero, List.set_cons_succ]
  refine seqP_nil (fun v11 hR hctx => ?_)
  obtain ⟨g11, rfl, hg11, hs11, -⟩ : ∃ h, v = .pointer (some ⟨h, 0, none⟩) ∧ (v10).heap.size ≤ h ∧ Soft v11 h ∧ Cells v11 h := hctx.2.1
  have An : Boxed v11 g11 (2) (0) 0 ⟨#[]⟩ := hctx.1 g11 (by simp [upd])
  have hv11 := below_tr hd hR.below
  clear hctx hR hd hs11
  have P16 := P15.below hv11
  have Q16 := Q15.below hv11
  have O16 := O15.below hv11
  have hw16 := below_tr hw15 hv11
  clear P15 Q15 O15
  have A16 := An
  clear An hv11
  go_wp2_with fail
  have hd := below_drew v11
  refine wp_region_plan (KeepR (v11).heap.size 0 0 0 ⟨#[]⟩) [.it (.slice (some ⟨v2.heap.size, 0, none⟩) 3 3), .it (.int .i64 0), .it (.pointer (some ⟨v2.heap.size, 0, none⟩)), .it (.agg #[.int .u8 2, .int .i64 0, .int .i64 0, .string ⟨#[]⟩]), .it (.slice (some ⟨v2.heap.size, 0, none⟩) 3 3), .it (.int .i64 2), .it (.pointer (some ⟨v2.heap.size, 8, none⟩)), .it (.agg #[.int .u8 0, .int .i64 0, .int .i64 0, .string ⟨#[]⟩]), .it (.tuple #[.agg #[.int .u8 0, .int .i64 0, .int .i64 0, .string ⟨#[]⟩], .int .i64 0]), .it (.tuple #[.agg #[.int .u8 0, .int .i64 0, .int .i64 0, .string ⟨#[]⟩], .int .i64 0]), .it (.agg #[.int .u8 0, .int .i64 0, .int .i64 0, .string ⟨#[]⟩]), .it (.int .i64 0), .of (fun w v => ∃ h, v = .pointer (some ⟨h, 0, none⟩) ∧ (v11).heap.size ≤ h ∧ Soft w h ∧ Cells w h), .on 12 (fun p w _ => ∀ h, p = .pointer (some ⟨h, 0, none⟩) → Boxed w h 0 0 0 ⟨#[]⟩), .it (.int .i64 0)] (by kernel_rfl) (by kernel_rfl) (KeepR.refl _ _ _ _ _) KeepR.trans ?_
  iterate 3 (refine seqP_value (KeepR.refl _ _ _ _ _) _ (by first | rfl | simp) (fun w' hw' hctx => by (go_simp); (try first | with_reducible rfl | simp)) ?_; simp only [Act.put, List.setIfInBounds_toArray, List.set_cons_zero, List.set_cons_succ])
  refine seqP_value (KeepR.refl _ _ _ _ _) _ (by first | rfl | simp) (fun w' hw' hctx => ?_) ?_
  · obtain ⟨c0, c1, c2, c3, c4⟩ := P16.below (below_tr hd hw'.below)
    go_simp
    try first | with_reducible rfl | simp
  simp only [Act.put, List.setIfInBounds_toArray, List.set_cons_zero, List.set_cons_succ]
  iterate 3 (refine seqP_value (KeepR.refl _ _ _ _ _) _ (by first | rfl | simp) (fun w' hw' hctx => by (go_simp); (try first | with_reducible rfl | simp)) ?_; simp only [Act.put, List.setIfInBounds_toArray, List.set_cons_zero, List.set_cons_succ])
  refine seqP_value (KeepR.refl _ _ _ _ _) _ (by first | rfl | simp) (fun w' hw' hctx => ?_) ?_
  · obtain ⟨c0, c1, c2, c3, c4⟩ := O16.below (below_tr hd hw'.below)
    go_simp
    try first | with_reducible rfl | simp
  simp only [Act.put, List.setIfInBounds_toArray, List.set_cons_zero, List.set_cons_succ]
  refine seqP_call 24 #[.agg #[.int .u8 2, .int .i64 0, .int .i64 0, .string ⟨#[]⟩], .agg #[.int .u8 0, .int .i64 0, .int .i64 0, .string ⟨#[]⟩]] (.tuple #[.agg #[.int .u8 0, .int .i64 0, .int .i64 0, .string ⟨#[]⟩], .int .i64 0]) (by first | rfl | simp) (fun w' hw' hctx => ?_) (fun w' hw' hctx => (or_is 2 0 0 ⟨#[]⟩ 0 0 0 ⟨#[]⟩ ⟨0, 0, 0⟩ (by kernel_rfl) w').mono fun e w2 ⟨he, hb⟩ => ⟨he, KeepR.of_below hb hw'.below.size⟩) ?_
  · go_simp
  simp only [Act.put, List.setIfInBounds_toArray, List.set_cons_zero, List.set_cons_succ]
  iterate 3 (refine seqP_value (KeepR.refl _ _ _ _ _) _ (by first | rfl | simp) (fun w' hw' hctx => by (go_simp); (try first | with_reducible rfl | simp)) ?_; simp only [Act.put, List.setIfInBounds_toArray, List.set_cons_zero, List.set_cons_succ])
  refine seqP_make _ (fun w w' v hR hV => by obtain ⟨h, h1, h2, h3, h4⟩ := hV; exact ⟨h, h1, h2, hR.soft _ h3, hR.cells _ h4⟩) (by first | rfl | simp) (fun w' hw' hctx => ?_) (fun v => ?_)
  · exact ⟨_, _, by go_simp; first | with_reducible rfl | rfl, KeepR.of_below (Below.allocs _ _) hw'.below.size, ⟨_, rfl, hw'.below.size, Soft.new _ _ _ _ _ _, ⟨_, _, _, _, Boxed.new _ _ _ _ _ _⟩⟩⟩
  simp only [Act.put, List.setIfInBounds_toArray, List.set_cons_zero, List.set_cons_succ]
  refine seqP_write 12 _ (by decide) (fun w w' v hR hV h hh => hR.same _ (hV h hh)) (by first | rfl | simp) (fun w' hw' hctx => ?_) (fun v' => ?_)
  · obtain ⟨h, rfl, h2, h3, h4⟩ : ∃ h, v = .pointer (some ⟨h, 0, none⟩) ∧ (v11).heap.size ≤ h ∧ Soft w' h ∧ Cells w' h := hctx.1
    have hk := KeepR.put (k := 0) (n := 0) (u := 0) (t := ⟨#[]⟩) h2 h4
    obtain ⟨x0, x1, x2, x3, hbx⟩ := h4
    have hbp := boxed_put4 hbx (0) (0) 0 ⟨#[]⟩
    obtain ⟨b0, b1, b2, b3, b4⟩ := hbx
    obtain ⟨s0, s1, s2, s3, s4⟩ := h3
    refine ⟨put4 w' h (0) (0) 0 ⟨#[]⟩, ?_, hk, fun h' hh' => ?_⟩
    · go_simp
      rfl
    · simp [upd] at hh'
      subst hh'
      exact hbp
  simp only [Act.put]
  refine seqP_value (KeepR.refl _ _ _ _ _) _ (by first | rfl | simp) (fun w' hw' hctx => ?_) ?_
  · go_simp
    try first | with_reducible rfl | simp
  simp only [Act.put, List.setIfInBounds_toArray, List.set_cons_zero, List.set_cons_succ]
  refine seqP_nil (fun v12 hR hctx => ?_)
  obtain ⟨g12, rfl, hg12, hs12, -⟩ : ∃ h, v = .pointer (some ⟨h, 0, none⟩) ∧ (v11).heap.size ≤ h ∧ Soft v12 h ∧ Cells v12 h := hctx.2.1
  have Bn : Boxed v12 g12 (0) (0) 0 ⟨#[]⟩ := hctx.1 g12 (by simp [upd])
  have hv12 := below_tr hd hR.below
  clear hctx hR hd hs12
  have P17 := P16.below hv12
  have Q17 := Q16.below hv12
  have O17 := O16.below hv12
  have A17 := A16.below hv12
  have hw17 := below_tr hw16 hv12
  clear P16 Q16 O16 A16
  have B17 := Bn
  clear Bn hv12
  go_wp2_with fail
  have hn17 := Below.allocs v12 (.cells #[.int .i64 0, .int .i64 2, .int .i64 1] 35)
  have Hn := IntsAt.new v12 0 2 1 35
  have P18 := P17.below hn17
  have Q18 := Q17.below hn17
  have O18 := O17.below hn17
  have A18 := A17.below hn17
  have B18 := B17.below hn17
  have hw18 := below_tr hw17 hn17
  clear P17 Q17 O17 A17 B17
  have H18 := Hn
  clear Hn hn17
  have hd := below_drew (v12.alloc (.cells #[.int .i64 0, .int .i64 2, .int .i64 1] 35))
  refine wp_region_plan (fun w w' => Below w.heap.size w w') [.it (.int .i64 0), .it (.pointer (some ⟨v12.heap.size, 0, none⟩)), .it (.int .i64 0), .it (.int .i64 2), .it (.pointer (some ⟨v12.heap.size, 2, none⟩)), .it (.int .i64 1), .it (.int .i64 0), .it (.int .i64 0), .it (.pointer (some ⟨v12.heap.size, 0, none⟩)), .it (.int .i64 0), .it (.int .i64 2), .it (.pointer (some ⟨v12.heap.size, 2, none⟩)), .it (.int .i64 1), .it (.int .i64 1), .it (.int .i64 0), .it (.int .i64 1)] (by kernel_rfl) (by kernel_rfl) (fun w => Below.refl _ _) (fun _ _ _ => below_tr) ?_
  iterate 2 (refine seqP_value (fun w => Below.refl _ _) _ (by first | rfl | simp) (fun w' hw' hctx => by (go_simp); (try first | with_reducible rfl | simp)) ?_; simp only [Act.put, List.setIfInBounds_toArray, List.set_cons_zero, List.set_cons_succ])
  refine seqP_value (fun w => Below.refl _ _) _ (by first | rfl | simp) (fun w' hw' hctx => ?_) ?_
  · obtain ⟨c0, c1, c2, c3, c4⟩ := H18.below (below_tr hd hw')
    go_simp
    try first | with_reducible rfl | simp
  simp only [Act.put, List.setIfInBounds_toArray, List.set_cons_zero, List.set_cons_succ]
  iterate 2 (refine seqP_value (fun w => Below.refl _ _) _ (by first | rfl | simp) (fun w' hw' hctx => by (go_simp); (try first | with_reducible rfl | simp)) ?_; simp only [Act.put, List.setIfInBounds_toArray, List.set_cons_zero, List.set_cons_succ])
  refine seqP_value (fun w => Below.refl _ _) _ (by first | rfl | simp) (fun w' hw' hctx => ?_) ?_
  · obtain ⟨c0, c1, c2, c3, c4⟩ := H18.below (below_tr hd hw')
    go_simp
    try first | with_reducible rfl | simp
  simp only [Act.put, List.setIfInBounds_toArray, List.set_cons_zero, List.set_cons_succ]
  iterate 3 (refine seqP_value (fun w => Below.refl _ _) _ (by first | rfl | simp) (fun w' hw' hctx => by (go_simp); (try first | with_reducible rfl | simp)) ?_; simp only [Act.put, List.setIfInBounds_toArray, List.set_cons_zero, List.set_cons_succ])
  refine seqP_value (fun w => Below.refl _ _) _ (by first | rfl | simp) (fun w' hw' hctx => ?_) ?_
  · obtain ⟨c0, c1, c2, c3, c4⟩ := H18.below (below_tr hd hw')
    go_simp
    try first | with_reducible rfl | simp
  simp only [Act.put, List.setIfInBounds_toArray, List.set_cons_zero, List.set_cons_succ]
  iterate 2 (refine seqP_value (fun w => Below.refl _ _) _ (by first | rfl | simp) (fun w' hw' hctx => by (go_simp); (try first | with_reducible rfl | simp)) ?_; simp only [Act.put, List.setIfInBounds_toArray, List.set_cons_zero, List.set_cons_succ])
  refine seqP_value (fun w => Below.refl _ _) _ (by first | rfl | simp) (fun w' hw' hctx => ?_) ?_
  · obtain ⟨c0, c1, c2, c3, c4⟩ := H18.below (below_tr hd hw')
    go_simp
    try first | with_reducible rfl | simp
  simp only [Act.put, List.setIfInBounds_toArray, List.set_cons_zero, List.set_cons_succ]
  iterate 3 (refine seqP_value (fun w => Below.refl _ _) _ (by first | rfl | simp) (fun w' hw' hctx => by (go_simp); (try first | with_reducible rfl | simp)) ?_; simp only [Act.put, List.setIfInBounds_toArray, List.set_cons_zero, List.set_cons_succ])
  refine seqP_nil (fun v13 hR hctx => ?_)
  have hv13 := below_tr hd hR
  clear hctx hR hd
  have P19 := P18.below hv13
  have Q19 := Q18.below hv13
  have O19 := O18.below hv13
  have A19 := A18.below hv13
  have B19 := B18.below hv13
  have H19 := H18.below hv13
  have hw19 := below_tr hw18 hv13
  clear P18 Q18 O18 A18 B18 H18
  clear hv13
  clear H19
  go_wp2_with fail
  have hn19 := Below.allocs v13 (.cells #[.int .i64 0, .int .i64 2, .int .i64 1] 35)
  have Jn := IntsAt.new v13 0 2 1 35
  have P20 := P19.below hn19
  have Q20 := Q19.below hn19
  have O20 := O19.below hn19
  have A20 := A19.below hn19
  have B20 := B19.below hn19
  have hw20 := below_tr hw19 hn19
  clear P19 Q19 O19 A19 B19
  have J20 := Jn
  clear Jn hn19
  have hd := below_drew (v13.alloc (.cells #[.int .i64 0, .int .i64 2, .int .i64 1] 35))
  refine wp_region_plan (fun w w' => Below w.heap.size w w') [.it (.int .i64 0), .it (.bool false), .it (.bool false), .it (.int .i64 0), .it (.bool false), .it (.bool false), .it (.bool false), .it (.agg #[.int .u8 2, .int .i64 0, .int .i64 0, .string ⟨#[]⟩]), .it (.slice (some ⟨v2.heap.size, 0, none⟩) 3 3), .it (.int .i64 0), .it (.pointer (some ⟨v13.heap.size, 0, none⟩)), .it (.int .i64 0), .it (.pointer (some ⟨v2.heap.size, 0, none⟩)), .it (.agg #[.int .u8 2, .int .i64 0, .int .i64 0, .string ⟨#[]⟩]), .it (.bool false), .it (.bool false), .it (.bool false), .it (.agg #[.int .u8 0, .int .i64 0, .int .i64 0, .string ⟨#[]⟩]), .it (.slice (some ⟨v2.heap.size, 0, none⟩) 3 3), .it (.int .i64 1), .it (.pointer (some ⟨v13.heap.size, 1, none⟩)), .it (.int .i64 2), .it (.pointer (some ⟨v2.heap.size, 8, none⟩)), .it (.agg #[.int .u8 0, .int .i64 0, .int .i64 0, .string ⟨#[]⟩]), .it (.bool false), .it (.bool false)] (by kernel_rfl) (by kernel_rfl) (fun w => Below.refl _ _) (fun _ _ _ => below_tr) ?_
  iterate 7 (refine seqP_value (fun w => Below.refl _ _) _ (by first | rfl | simp) (fun w' hw' hctx => by (go_simp); (try first | with_reducible rfl | simp)) ?_; simp only [Act.put, List.setIfInBounds_toArray, List.set_cons_zero, List.set_cons_succ])
  refine seqP_value (fun w => Below.refl _ _) _ (by first | rfl | simp) (fun w' hw' hctx => ?_) ?_
  · obtain ⟨c0, c1, c2, c3, c4⟩ := A20.below (below_tr hd hw')
    go_simp
    try first | with_reducible rfl | simp
  simp only [Act.put, List.setIfInBounds_toArray, List.set_cons_zero, List.set_cons_succ]
  iterate 3 (refine seqP_value (fun w => Below.refl _ _) _ (by first | rfl | simp) (fun w' hw' hctx => by (go_simp); (try first | with_reducible rfl | simp)) ?_; simp only [Act.put, List.setIfInBounds_toArray, List.set_cons_zero, List.set_cons_succ])
  refine seqP_value (fun w => Below.refl _ _) _ (by first | rfl | simp) (fun w' hw' hctx => ?_) ?_
  · obtain ⟨c0, c1, c2, c3, c4⟩ := J20.below (below_tr hd hw')
    go_simp
    try first | with_reducible rfl | simp
  simp only [Act.put, List.setIfInBounds_toArray, List.set_cons_zero, List.set_cons_succ]
  refine seqP_value (fun w => Below.refl _ _) _ (by first | rfl | simp) (fun w' hw' hctx => ?_) ?_
  · go_simp
    try first | with_reducible rfl | simp
  simp only [Act.put, List.setIfInBounds_toArray, List.set_cons_zero, List.set_cons_succ]
  refine seqP_value (fun w => Below.refl _ _) _ (by first | rfl | simp) (fun w' hw' hctx => ?_) ?_
  · obtain ⟨c0, c1, c2, c3, c4⟩ := P20.below (below_tr hd hw')
    go_simp
    try first | with_reducible rfl | simp
  simp only [Act.put, List.setIfInBounds_toArray, List.set_cons_zero, List.set_cons_succ]
  iterate 3 (refine seqP_value (fun w => Below.refl _ _) _ (by first | rfl | simp) (fun w' hw' hctx => by (go_simp); (try first | with_reducible rfl | simp)) ?_; simp only [Act.put, List.setIfInBounds_toArray, List.set_cons_zero, List.set_cons_succ])
  refine seqP_value (fun w => Below.refl _ _) _ (by first | rfl | simp) (fun w' hw' hctx => ?_) ?_
  · obtain ⟨c0, c1, c2, c3, c4⟩ := B20.below (below_tr hd hw')
    go_simp
    try first | with_reducible rfl | simp
  simp only [Act.put, List.setIfInBounds_toArray, List.set_cons_zero, List.set_cons_succ]
  iterate 3 (refine seqP_value (fun w => Below.refl _ _) _ (by first | rfl | simp) (fun w' hw' hctx => by (go_simp); (try first | with_reducible rfl | simp)) ?_; simp only [Act.put, List.setIfInBounds_toArray, List.set_cons_zero, List.set_cons_succ])
  refine seqP_value (fun w => Below.refl _ _) _ (by first | rfl | simp) (fun w' hw' hctx => ?_) ?_
  · obtain ⟨c0, c1, c2, c3, c4⟩ := J20.below (below_tr hd hw')
    go_simp
    try first | with_reducible rfl | simp
  simp only [Act.put, List.setIfInBounds_toArray, List.set_cons_zero, List.set_cons_succ]
  refine seqP_value (fun w => Below.refl _ _) _ (by first | rfl | simp) (fun w' hw' hctx => ?_) ?_
  · go_simp
    try first | with_reducible rfl | simp
  simp only [Act.put, List.setIfInBounds_toArray, List.set_cons_zero, List.set_cons_succ]
  refine seqP_value (fun w => Below.refl _ _) _ (by first | rfl | simp) (fun w' hw' hctx => ?_) ?_
  · obtain ⟨c0, c1, c2, c3, c4⟩ := O20.below (below_tr hd hw')
    go_simp
    try first | with_reducible rfl | simp
  simp only [Act.put, List.setIfInBounds_toArray, List.set_cons_zero, List.set_cons_succ]
  iterate 2 (refine seqP_value (fun w => Below.refl _ _) _ (by first | rfl | simp) (fun w' hw' hctx => by (go_simp); (try first | with_reducible rfl | simp)) ?_; simp only [Act.put, List.setIfInBounds_toArray, List.set_cons_zero, List.set_cons_succ])
  refine seqP_nil (fun v14 hR hctx => ?_)
  have hv14 := below_tr hd hR
  clear hctx hR hd
  have P21 := P20.below hv14
  have Q21 := Q20.below hv14
  have O21 := O20.below hv14
  have A21 := A20.below hv14
  have B21 := B20.below hv14
  have J21 := J20.below hv14
  have hw21 := below_tr hw20 hv14
  clear P20 Q20 O20 A20 B20 J20
  clear hv14
  clear A21
  clear B21
  clear J21
  have p' := P21
  obtain ⟨p0, p1, p2, p3, p4⟩ := p'
  have q' := Q21
  obtain ⟨q0, q1, q2, q3, q4⟩ := q'
  have o' := O21
  obtain ⟨o0, o1, o2, o3, o4⟩ := o'
  go_wp2_with fail
  clear p0 p1 p2 p3 p4 q0 q1 q2 q3 q4 o0 o1 o2 o3 o4
  rw [rounds_succ]
  go_wp2_with fail
  rw [rounds_succ]
  go_wp2_with fail
  refine wp_loop_rounds 4 ?_
  rw [rounds_succ]
  go_wp2_with fail
  have hd := below_drew v14
  refine wp_region_plan (KeepR (v14).heap.size 2 0 0 ⟨#[]⟩) [.it (.slice (some ⟨v2.heap.size, 0, none⟩) 3 3), .it (.int .i64 1), .it (.pointer (some ⟨v2.heap.size, 4, none⟩)), .it (.agg #[.int .u8 2, .int .i64 1, .int .i64 0, .string ⟨#[]⟩]), .it (.slice (some ⟨v2.heap.size, 0, none⟩) 3 3), .it (.int .i64 0), .it (.pointer (some ⟨v2.heap.size, 0, none⟩)), .it (.agg #[.int .u8 2, .int .i64 0, .int .i64 0, .string ⟨#[]⟩]), .it (.tuple #[.agg #[.int .u8 2, .int .i64 0, .int .i64 0, .string ⟨#[]⟩], .int .i64 0]), .it (.tuple #[.agg #[.int .u8 2, .int .i64 0, .int .i64 0, .string ⟨#[]⟩], .int .i64 0]), .it (.agg #[.int .u8 2, .int .i64 0, .int .i64 0, .string ⟨#[]⟩]), .it (.int .i64 0), .of (fun w v => ∃ h, v = .pointer (some ⟨h, 0, none⟩) ∧ (v14).heap.size ≤ h ∧ Soft w h ∧ Cells w h), .on 12 (fun p w _ => ∀ h, p = .pointer (some ⟨h, 0, none⟩) → Boxed w h 2 0 0 ⟨#[]⟩), .it (.int .i64 0)] (by kernel_rfl) (by kernel_rfl) (KeepR.refl _ _ _ _ _) KeepR.trans ?_
  iterate 3 (refine seqP_value (KeepR.refl _ _ _ _ _) _ (by first | rfl | simp) (fun w' hw' hctx => by (go_simp); (try first | with_reducible rfl | simp)) ?_; simp only [Act.put, List.setIfInBounds_toArray, List.set_cons_zero, List.set_cons_succ])
  refine seqP_value (KeepR.refl _ _ _ _ _) _ (by first | rfl | simp) (fun w' hw' hctx => ?_) ?_
  · obtain ⟨c0, c1, c2, c3, c4⟩ := Q21.below (below_tr hd hw'.below)
    go_simp
    try first | with_reducible rfl | simp
  simp only [Act.put, List.setIfInBounds_toArray, List.set_cons_zero, List.set_cons_succ]
  iterate 3 (refine seqP_value (KeepR.refl _ _ _ _ _) _ (by first | rfl | simp) (fun w' hw' hctx => by (go_simp); (try first | with_reducible rfl | simp)) ?_; simp only [Act.put, List.setIfInBounds_toArray, List.set_cons_zero, List.set_cons_succ])
  refine seqP_value (KeepR.refl _ _ _ _ _) _ (by first | rfl | simp) (fun w' hw' hctx => ?_) ?_
  · obtain ⟨c0, c1, c2, c3, c4⟩ := P21.below (below_tr hd hw'.below)
    go_simp
    try first | with_reducible rfl | simp
  simp only [Act.put, List.setIfInBounds_toArray, List.set_cons_zero, List.set_cons_succ]
  refine seqP_call 22 #[.agg #[.int .u8 2, .int .i64 1, .int .i64 0, .string ⟨#[]⟩], .agg #[.int .u8 2, .int .i64 0, .int .i64 0, .string ⟨#[]⟩]] (.tuple #[.agg #[.int .u8 2, .int .i64 0, .int .i64 0, .string ⟨#[]⟩], .int .i64 0]) (by first | rfl | simp) (fun w' hw' hctx => ?_) (fun w' hw' hctx => (and_is 2 1 0 ⟨#[]⟩ 2 0 0 ⟨#[]⟩ ⟨2, 0, 0⟩ (by kernel_rfl) w').mono fun e w2 ⟨he, hb⟩ => ⟨he, KeepR.of_below hb hw'.below.size⟩) ?_
  · go_simp
  simp only [Act.put, List.setIfInBounds_toArray, List.set_cons_zero, List.set_cons_succ]
  iterate 3 (refine seqP_value (KeepR.refl _ _ _ _ _) _ (by first | rfl | simp) (fun w' hw' hctx => by (go_simp); (try first | with_reducible rfl | simp)) ?_; simp only [Act.put, List.setIfInBounds_toArray, List.set_cons_zero, List.set_cons_succ])
  refine seqP_make _ (fun w w' v hR hV => by obtain ⟨h, h1, h2, h3, h4⟩ := hV; exact ⟨h, h1, h2, hR.soft _ h3, hR.cells _ h4⟩) (by first | rfl | simp) (fun w' hw' hctx => ?_) (fun v => ?_)
  · exact ⟨_, _, by go_simp; first | with_reducible rfl | rfl, KeepR.of_below (Below.allocs _ _) hw'.below.size, ⟨_, rfl, hw'.below.size, Soft.new _ _ _ _ _ _, ⟨_, _, _, _, Boxed.new _ _ _ _ _ _⟩⟩⟩
  simp only [Act.put, List.setIfInBounds_toArray, List.set_cons_zero, List.set_cons_succ]
  refine seqP_write 12 _ (by decide) (fun w w' v hR hV h hh => hR.same _ (hV h hh)) (by first | rfl | simp) (fun w' hw' hctx => ?_) (fun v' => ?_)
  · obtain ⟨h, rfl, h2, h3, h4⟩ : ∃ h, v = .pointer (some ⟨h, 0, none⟩) ∧ (v14).heap.size ≤ h ∧ Soft w' h ∧ Cells w' h := hctx.1
    have hk := KeepR.put (k := 2) (n := 0) (u := 0) (t := ⟨#[]⟩) h2 h4
    obtain ⟨x0, x1, x2, x3, hbx⟩ := h4
    have hbp := boxed_put4 hbx (2) (0) 0 ⟨#[]⟩
    obtain ⟨b0, b1, b2, b3, b4⟩ := hbx
    obtain ⟨s0, s1, s2, s3, s4⟩ := h3
    refine ⟨put4 w' h (2) (0) 0 ⟨#[]⟩, ?_, hk, fun h' hh' => ?_⟩
    · go_simp
      rfl
    · simp [upd] at hh'
      subst hh'
      exact hbp
  simp only [Act.put]
  refine seqP_value (KeepR.refl _ _ _ _ _) _ (by first | rfl | simp) (fun w' hw' hctx => ?_) ?_
  · go_simp
    try first | with_reducible rfl | simp
  simp only [Act.put, List.setIfInBounds_toArray, List.set_cons_zero, List.set_cons_succ]
  refine seqP_nil (fun v15 hR hctx => ?_)
  obtain ⟨g15, rfl, hg15, hs15, -⟩ : ∃ h, v = .pointer (some ⟨h, 0, none⟩) ∧ (v14).heap.size ≤ h ∧ Soft v15 h ∧ Cells v15 h := hctx.2.1
  have An : Boxed v15 g15 (2) (0) 0 ⟨#[]⟩ := hctx.1 g15 (by simp [upd])
  have hv15 := below_tr hd hR.below
  clear hctx hR hd hs15
  have P22 := P21.below hv15
  have Q22 := Q21.below hv15
  have O22 := O21.below hv15
  have hw22 := below_tr hw21 hv15
  clear P21 Q21 O21
  have A22 := An
  clear An hv15
  go_wp2_with fail
  have hd := below_drew v15
  refine wp_region_plan (KeepR (v15).heap.size 2 1 0 ⟨#[]⟩) [.it (.slice (some ⟨v2.heap.size, 0, none⟩) 3 3), .it (.int .i64 1), .it (.pointer (some ⟨v2.heap.size, 4, none⟩)), .it (.agg #[.int .u8 2, .int .i64 1, .int .i64 0, .string ⟨#[]⟩]), .it (.slice (some ⟨v2.heap.size, 0, none⟩) 3 3), .it (.int .i64 0), .it (.pointer (some ⟨v2.heap.size, 0, none⟩)), .it (.agg #[.int .u8 2, .int .i64 0, .int .i64 0, .string ⟨#[]⟩]), .it (.tuple #[.agg #[.int .u8 2, .int .i64 1, .int .i64 0, .string ⟨#[]⟩], .int .i64 0]), .it (.tuple #[.agg #[.int .u8 2, .int .i64 1, .int .i64 0, .string ⟨#[]⟩], .int .i64 0]), .it (.agg #[.int .u8 2, .int .i64 1, .int .i64 0, .string ⟨#[]⟩]), .it (.int .i64 0), .of (fun w v => ∃ h, v = .pointer (some ⟨h, 0, none⟩) ∧ (v15).heap.size ≤ h ∧ Soft w h ∧ Cells w h), .on 12 (fun p w _ => ∀ h, p = .pointer (some ⟨h, 0, none⟩) → Boxed w h 2 1 0 ⟨#[]⟩), .it (.int .i64 0)] (by kernel_rfl) (by kernel_rfl) (KeepR.refl _ _ _ _ _) KeepR.trans ?_
  iterate 3 (refine seqP_value (KeepR.refl _ _ _ _ _) _ (by first | rfl | simp) (fun w' hw' hctx => by (go_simp); (try first | with_reducible rfl | simp)) ?_; simp only [Act.put, List.setIfInBounds_toArray, List.set_cons_zero, List.set_cons_succ])
  refine seqP_value (KeepR.refl _ _ _ _ _) _ (by first | rfl | simp) (fun w' hw' hctx => ?_) ?_
  · obtain ⟨c0, c1, c2, c3, c4⟩ := Q22.below (below_tr hd hw'.below)
    go_simp
    try first | with_reducible rfl | simp
  simp only [Act.put, List.setIfInBounds_toArray, List.set_cons_zero, List.set_cons_succ]
  iterate 3 (refine seqP_value (KeepR.refl _ _ _ _ _) _ (by first | rfl | simp) (fun w' hw' hctx => by (go_simp); (try first | with_reducible rfl | simp)) ?_; simp only [Act.put, List.setIfInBounds_toArray, List.set_cons_zero, List.set_cons_succ])
  refine seqP_value (KeepR.refl _ _ _ _ _) _ (by first | rfl | simp) (fun w' hw' hctx => ?_) ?_
  · obtain ⟨c0, c1, c2, c3, c4⟩ := P22.below (below_tr hd hw'.below)
    go_simp
    try first | with_reducible rfl | simp
  simp only [Act.put, List.setIfInBounds_toArray, List.set_cons_zero, List.set_cons_succ]
  refine seqP_call 24 #[.agg #[.int .u8 2, .int .i64 1, .int .i64 0, .string ⟨#[]⟩], .agg #[.int .u8 2, .int .i64 0, .int .i64 0, .string ⟨#[]⟩]] (.tuple #[.agg #[.int .u8 2, .int .i64 1, .int .i64 0, .string ⟨#[]⟩], .int .i64 0]) (by first | rfl | simp) (fun w' hw' hctx => ?_) (fun w' hw' hctx => (or_is 2 1 0 ⟨#[]⟩ 2 0 0 ⟨#[]⟩ ⟨2, 1, 0⟩ (by kernel_rfl) w').mono fun e w2 ⟨he, hb⟩ => ⟨he, KeepR.of_below hb hw'.below.size⟩) ?_
  · go_simp
  simp only [Act.put, List.setIfInBounds_toArray, List.set_cons_zero, List.set_cons_succ]
  iterate 3 (refine seqP_value (KeepR.refl _ _ _ _ _) _ (by first | rfl | simp) (fun w' hw' hctx => by (go_simp); (try first | with_reducible rfl | simp)) ?_; simp only [Act.put, List.setIfInBounds_toArray, List.set_cons_zero, List.set_cons_succ])
  refine seqP_make _ (fun w w' v hR hV => by obtain ⟨h, h1, h2, h3, h4⟩ := hV; exact ⟨h, h1, h2, hR.soft _ h3, hR.cells _ h4⟩) (by first | rfl | simp) (fun w' hw' hctx => ?_) (fun v => ?_)
  · exact ⟨_, _, by go_simp; first | with_reducible rfl | rfl, KeepR.of_below (Below.allocs _ _) hw'.below.size, ⟨_, rfl, hw'.below.size, Soft.new _ _ _ _ _ _, ⟨_, _, _, _, Boxed.new _ _ _ _ _ _⟩⟩⟩
  simp only [Act.put, List.setIfInBounds_toArray, List.set_cons_zero, List.set_cons_succ]
  refine seqP_write 12 _ (by decide) (fun w w' v hR hV h hh => hR.same _ (hV h hh)) (by first | rfl | simp) (fun w' hw' hctx => ?_) (fun v' => ?_)
  · obtain ⟨h, rfl, h2, h3, h4⟩ : ∃ h, v = .pointer (some ⟨h, 0, none⟩) ∧ (v15).heap.size ≤ h ∧ Soft w' h ∧ Cells w' h := hctx.1
    have hk := KeepR.put (k := 2) (n := 1) (u := 0) (t := ⟨#[]⟩) h2 h4
    obtain ⟨x0, x1, x2, x3, hbx⟩ := h4
    have hbp := boxed_put4 hbx (2) (1) 0 ⟨#[]⟩
    obtain ⟨b0, b1, b2, b3, b4⟩ := hbx
    obtain ⟨s0, s1, s2, s3, s4⟩ := h3
    refine ⟨put4 w' h (2) (1) 0 ⟨#[]⟩, ?_, hk, fun h' hh' => ?_⟩
    · go_simp
      rfl
    · simp [upd] at hh'
      subst hh'
      exact hbp
  simp only [Act.put]
  refine seqP_value (KeepR.refl _ _ _ _ _) _ (by first | rfl | simp) (fun w' hw' hctx => ?_) ?_
  · go_simp
    try first | with_reducible rfl | simp
  simp only [Act.put, List.setIfInBounds_toArray, List.set_cons_zero, List.set_cons_succ]
  refine seqP_nil (fun v16 hR hctx => ?_)
  obtain ⟨g16, rfl, hg16, hs16, -⟩ : ∃ h, v = .pointer (some ⟨h, 0, none⟩) ∧ (v15).heap.size ≤ h ∧ Soft v16 h ∧ Cells v16 h := hctx.2.1
  have Bn : Boxed v16 g16 (2) (1) 0 ⟨#[]⟩ := hctx.1 g16 (by simp [upd])
  have hv16 := below_tr hd hR.below
  clear hctx hR hd hs16
  have P23 := P22.below hv16
  have Q23 := Q22.below hv16
  have O23 := O22.below hv16
  have A23 := A22.below hv16
  have hw23 := below_tr hw22 hv16
  clear P22 Q22 O22 A22
  have B23 := Bn
  clear Bn hv16
  go_wp2_with fail
  have hn23 := Below.allocs v16 (.cells #[.int .i64 0, .int .i64 2, .int .i64 1] 35)
  have Hn := IntsAt.new v16 0 2 1 35
  have P24 := P23.below hn23
  have Q24 := Q23.below hn23
  have O24 := O23.below hn23
  have A24 := A23.below hn23
  have B24 := B23.below hn23
  have hw24 := below_tr hw23 hn23
  clear P23 Q23 O23 A23 B23
  have H24 := Hn
  clear Hn hn23
  have hd := below_drew (v16.alloc (.cells #[.int .i64 0, .int .i64 2, .int .i64 1] 35))
  refine wp_region_plan (fun w w' => Below w.heap.size w w') [.it (.int .i64 1), .it (.pointer (some ⟨v16.heap.size, 1, none⟩)), .it (.int .i64 2), .it (.int .i64 0), .it (.pointer (some ⟨v16.heap.size, 0, none⟩)), .it (.int .i64 0), .it (.int .i64 0), .it (.int .i64 1), .it (.pointer (some ⟨v16.heap.size, 1, none⟩)), .it (.int .i64 2), .it (.int .i64 0), .it (.pointer (some ⟨v16.heap.size, 0, none⟩)), .it (.int .i64 0), .it (.int .i64 2), .it (.int .i64 0), .it (.int .i64 2)] (by kernel_rfl) (by kernel_rfl) (fun w => Below.refl _ _) (fun _ _ _ => below_tr) ?_
  iterate 2 (refine seqP_value (fun w => Below.refl _ _) _ (by first | rfl | simp) (fun w' hw' hctx => by (go_simp); (try first | with_reducible rfl | simp)) ?_; simp only [Act.put, List.setIfInBounds_toArray, List.set_cons_zero, List.set_cons_succ])
  refine seqP_value (fun w => Below.refl _ _) _ (by first | rfl | simp) (fun w' hw' hctx => ?_) ?_
  · obtain ⟨c0, c1, c2, c3, c4⟩ := H24.below (below_tr hd hw')
    go_simp
    try first | with_reducible rfl | simp
  simp only [Act.put, List.setIfInBounds_toArray, List.set_cons_zero, List.set_cons_succ]
  iterate 2 (refine seqP_value (fun w => Below.refl _ _) _ (by first | rfl | simp) (fun w' hw' hctx => by (go_simp); (try first | with_reducible rfl | simp)) ?_; simp only [Act.put, List.setIfInBounds_toArray, List.set_cons_zero, List.set_cons_succ])
  refine seqP_value (fun w => Below.refl _ _) _ (by first | rfl | simp) (fun w' hw' hctx => ?_) ?_
  · obtain ⟨c0, c1, c2, c3, c4⟩ := H24.below (below_tr hd hw')
    go_simp
    try first | with_reducible rfl | simp
  simp only [Act.put, List.setIfInBounds_toArray, List.set_cons_zero, List.set_cons_succ]
  iterate 3 (refine seqP_value (fun w => Below.refl _ _) _ (by first | rfl | simp) (fun w' hw' hctx => by (go_simp); (try first | with_reducible rfl | simp)) ?_; simp only [Act.put, List.setIfInBounds_toArray, List.set_cons_zero, List.set_cons_succ])
  refine seqP_value (fun w => Below.refl _ _) _ (by first | rfl | simp) (fun w' hw' hctx => ?_) ?_
  · obtain ⟨c0, c1, c2, c3, c4⟩ := H24.below (below_tr hd hw')
    go_simp
    try first | with_reducible rfl | simp
  simp only [Act.put, List.setIfInBounds_toArray, List.set_cons_zero, List.set_cons_succ]
  iterate 2 (refine seqP_value (fun w => Below.refl _ _) _ (by first | rfl | simp) (fun w' hw' hctx => by (go_simp); (try first | with_reducible rfl | simp)) ?_; simp only [Act.put, List.setIfInBounds_toArray, List.set_cons_zero, List.set_cons_succ])
  refine seqP_value (fun w => Below.refl _ _) _ (by first | rfl | simp) (fun w' hw' hctx => ?_) ?_
  · obtain ⟨c0, c1, c2, c3, c4⟩ := H24.below (below_tr hd hw')
    go_simp
    try first | with_reducible rfl | simp
  simp only [Act.put, List.setIfInBounds_toArray, List.set_cons_zero, List.set_cons_succ]
  iterate 3 (refine seqP_value (fun w => Below.refl _ _) _ (by first | rfl | simp) (fun w' hw' hctx => by (go_simp); (try first | with_reducible rfl | simp)) ?_; simp only [Act.put, List.setIfInBounds_toArray, List.set_cons_zero, List.set_cons_succ])
  refine seqP_nil (fun v17 hR hctx => ?_)
  have hv17 := below_tr hd hR
  clear hctx hR hd
  have P25 := P24.below hv17
  have Q25 := Q24.below hv17
  have O25 := O24.below hv17
  have A25 := A24.below hv17
  have B25 := B24.below hv17
  have H25 := H24.below hv17
  have hw25 := below_tr hw24 hv17
  clear P24 Q24 O24 A24 B24 H24
  clear hv17
  clear H25
  go_wp2_with fail
  have hn25 := Below.allocs v17 (.cells #[.int .i64 0, .int .i64 2, .int .i64 1] 35)
  have Jn := IntsAt.new v17 0 2 1 35
  have P26 := P25.below hn25
  have Q26 := Q25.below hn25
  have O26 := O25.below hn25
  have A26 := A25.below hn25
  have B26 := B25.below hn25
  have hw26 := below_tr hw25 hn25
  clear P25 Q25 O25 A25 B25
  have J26 := Jn
  clear Jn hn25
  have hd := below_drew (v17.alloc (.cells #[.int .i64 0, .int .i64 2, .int .i64 1] 35))
  refine wp_region_plan (fun w w' => Below w.heap.size w w') [.it (.int .i64 0), .it (.bool false), .it (.bool false), .it (.int .i64 0), .it (.bool false), .it (.bool false), .it (.bool false), .it (.agg #[.int .u8 2, .int .i64 0, .int .i64 0, .string ⟨#[]⟩]), .it (.slice (some ⟨v2.heap.size, 0, none⟩) 3 3), .it (.int .i64 0), .it (.pointer (some ⟨v17.heap.size, 0, none⟩)), .it (.int .i64 0), .it (.pointer (some ⟨v2.heap.size, 0, none⟩)), .it (.agg #[.int .u8 2, .int .i64 0, .int .i64 0, .string ⟨#[]⟩]), .it (.bool false), .it (.bool false), .it (.bool false), .it (.agg #[.int .u8 2, .int .i64 1, .int .i64 0, .string ⟨#[]⟩]), .it (.slice (some ⟨v2.heap.size, 0, none⟩) 3 3), .it (.int .i64 2), .it (.pointer (some ⟨v17.heap.size, 2, none⟩)), .it (.int .i64 1), .it (.pointer (some ⟨v2.heap.size, 4, none⟩)), .it (.agg #[.int .u8 2, .int .i64 1, .int .i64 0, .string ⟨#[]⟩]), .it (.bool false), .it (.bool false)] (by kernel_rfl) (by kernel_rfl) (fun w => Below.refl _ _) (fun _ _ _ => below_tr) ?_
  iterate 7 (refine seqP_value (fun w => Below.refl _ _) _ (by first | rfl | simp) (fun w' hw' hctx => by (go_simp); (try first | with_reducible rfl | simp)) ?_; simp only [Act.put, List.setIfInBounds_toArray, List.set_cons_zero, List.set_cons_succ])
  refine seqP_value (fun w => Below.refl _ _) _ (by first | rfl | simp) (fun w' hw' hctx => ?_) ?_
  · obtain ⟨c0, c1, c2, c3, c4⟩ := A26.below (below_tr hd hw')
    go_simp
    try first | with_reducible rfl | simp
  simp only [Act.put, List.setIfInBounds_toArray, List.set_cons_zero, List.set_cons_succ]
  iterate 3 (refine seqP_value (fun w => Below.refl _ _) _ (by first | rfl | simp) (fun w' hw' hctx => by (go_simp); (try first | with_reducible rfl | simp)) ?_; simp only [Act.put, List.setIfInBounds_toArray, List.set_cons_zero, List.set_cons_succ])
  refine seqP_value (fun w => Below.refl _ _) _ (by first | rfl | simp) (fun w' hw' hctx => ?_) ?_
  · obtain ⟨c0, c1, c2, c3, c4⟩ := J26.below (below_tr hd hw')
    go_simp
    try first | with_reducible rfl | simp
  simp only [Act.put, List.setIfInBounds_toArray, List.set_cons_zero, List.set_cons_succ]
  refine seqP_value (fun w => Below.refl _ _) _ (by first | rfl | simp) (fun w' hw' hctx => ?_) ?_
  · go_simp
    try first | with_reducible rfl | simp
  simp only [Act.put, List.setIfInBounds_toArray, List.set_cons_zero, List.set_cons_succ]
  refine seqP_value (fun w => Below.refl _ _) _ (by first | rfl | simp) (fun w' hw' hctx => ?_) ?_
  · obtain ⟨c0, c1, c2, c3, c4⟩ := P26.below (below_tr hd hw')
    go_simp
    try first | with_reducible rfl | simp
  simp only [Act.put, List.setIfInBounds_toArray, List.set_cons_zero, List.set_cons_succ]
  iterate 3 (refine seqP_value (fun w => Below.refl _ _) _ (by first | rfl | simp) (fun w' hw' hctx => by (go_simp); (try first | with_reducible rfl | simp)) ?_; simp only [Act.put, List.setIfInBounds_toArray, List.set_cons_zero, List.set_cons_succ])
  refine seqP_value (fun w => Below.refl _ _) _ (by first | rfl | simp) (fun w' hw' hctx => ?_) ?_
  · obtain ⟨c0, c1, c2, c3, c4⟩ := B26.below (below_tr hd hw')
    go_simp
    try first | with_reducible rfl | simp
  simp only [Act.put, List.setIfInBounds_toArray, List.set_cons_zero, List.set_cons_succ]
  iterate 3 (refine seqP_value (fun w => Below.refl _ _) _ (by first | rfl | simp) (fun w' hw' hctx => by (go_simp); (try first | with_reducible rfl | simp)) ?_; simp only [Act.put, List.setIfInBounds_toArray, List.set_cons_zero, List.set_cons_succ])
  refine seqP_value (fun w => Below.refl _ _) _ (by first | rfl | simp) (fun w' hw' hctx => ?_) ?_
  · obtain ⟨c0, c1, c2, c3, c4⟩ := J26.below (below_tr hd hw')
    go_simp
    try first | with_reducible rfl | simp
  simp only [Act.put, List.setIfInBounds_toArray, List.set_cons_zero, List.set_cons_succ]
  refine seqP_value (fun w => Below.refl _ _) _ (by first | rfl | simp) (fun w' hw' hctx => ?_) ?_
  · go_simp
    try first | with_reducible rfl | simp
  simp only [Act.put, List.setIfInBounds_toArray, List.set_cons_zero, List.set_cons_succ]
  refine seqP_value (fun w => Below.refl _ _) _ (by first | rfl | simp) (fun w' hw' hctx => ?_) ?_
  · obtain ⟨c0, c1, c2, c3, c4⟩ := Q26.below (below_tr hd hw')
    go_simp
    try first | with_reducible rfl | simp
  simp only [Act.put, List.setIfInBounds_toArray, List.set_cons_zero, List.set_cons_succ]
  iterate 2 (refine seqP_value (fun w => Below.refl _ _) _ (by first | rfl | simp) (fun w' hw' hctx => by (go_simp); (try first | with_reducible rfl | simp)) ?_; simp only [Act.put, List.setIfInBounds_toArray, List.set_cons_zero, List.set_cons_succ])
  refine seqP_nil (fun v18 hR hctx => ?_)
  have hv18 := below_tr hd hR
  clear hctx hR hd
  have P27 := P26.below hv18
  have Q27 := Q26.below hv18
  have O27 := O26.below hv18
  have A27 := A26.below hv18
  have B27 := B26.below hv18
  have J27 := J26.below hv18
  have hw27 := below_tr hw26 hv18
  clear P26 Q26 O26 A26 B26 J26
  clear hv18
  clear A27
  clear B27
  clear J27
  have p' := P27
  obtain ⟨p0, p1, p2, p3, p4⟩ := p'
  have q' := Q27
  obtain ⟨q0, q1, q2, q3, q4⟩ := q'
  have o' := O27
  obtain ⟨o0, o1, o2, o3, o4⟩ := o'
  go_wp2_with fail
  clear p0 p1 p2 p3 p4 q0 q1 q2 q3 q4 o0 o1 o2 o3 o4
  rw [rounds_succ]
  go_wp2_with fail
  have hd := below_drew v18
  refine wp_region_plan (KeepR (v18).heap.size 2 1 0 ⟨#[]⟩) [.it (.slice (some ⟨v2.heap.size, 0, none⟩) 3 3), .it (.int .i64 1), .it (.pointer (some ⟨v2.heap.size, 4, none⟩)), .it (.agg #[.int .u8 2, .int .i64 1, .int .i64 0, .string ⟨#[]⟩]), .it (.slice (some ⟨v2.heap.size, 0, none⟩) 3 3), .it (.int .i64 1), .it (.pointer (some ⟨v2.heap.size, 4, none⟩)), .it (.agg #[.int .u8 2, .int .i64 1, .int .i64 0, .string ⟨#[]⟩]), .it (.tuple #[.agg #[.int .u8 2, .int .i64 1, .int .i64 0, .string ⟨#[]⟩], .int .i64 0]), .it (.tuple #[.agg #[.int .u8 2, .int .i64 1, .int .i64 0, .string ⟨#[]⟩], .int .i64 0]), .it (.agg #[.int .u8 2, .int .i64 1, .int .i64 0, .string ⟨#[]⟩]), .it (.int .i64 0), .of (fun w v => ∃ h, v = .pointer (some ⟨h, 0, none⟩) ∧ (v18).heap.size ≤ h ∧ Soft w h ∧ Cells w h), .on 12 (fun p w _ => ∀ h, p = .pointer (some ⟨h, 0, none⟩) → Boxed w h 2 1 0 ⟨#[]⟩), .it (.int .i64 0)] (by kernel_rfl) (by kernel_rfl) (KeepR.refl _ _ _ _ _) KeepR.trans ?_
  iterate 3 (refine seqP_value (KeepR.refl _ _ _ _ _) _ (by first | rfl | simp) (fun w' hw' hctx => by (go_simp); (try first | with_reducible rfl | simp)) ?_; simp only [Act.put, List.setIfInBounds_toArray, List.set_cons_zero, List.set_cons_succ])
  refine seqP_value (KeepR.refl _ _ _ _ _) _ (by first | rfl | simp) (fun w' hw' hctx => ?_) ?_
  · obtain ⟨c0, c1, c2, c3, c4⟩ := Q27.below (below_tr hd hw'.below)
    go_simp
    try first | with_reducible rfl | simp
  simp only [Act.put, List.setIfInBounds_toArray, List.set_cons_zero, List.set_cons_succ]
  iterate 3 (refine seqP_value (KeepR.refl _ _ _ _ _) _ (by first | rfl | simp) (fun w' hw' hctx => by (go_simp); (try first | with_reducible rfl | simp)) ?_; simp only [Act.put, List.setIfInBounds_toArray, List.set_cons_zero, List.set_cons_succ])
  refine seqP_value (KeepR.refl _ _ _ _ _) _ (by first | rfl | simp) (fun w' hw' hctx => ?_) ?_
  · obtain ⟨c0, c1, c2, c3, c4⟩ := Q27.below (below_tr hd hw'.below)
    go_simp
    try first | with_reducible rfl | simp
  simp only [Act.put, List.setIfInBounds_toArray, List.set_cons_zero, List.set_cons_succ]
  refine seqP_call 22 #[.agg #[.int .u8 2, .int .i64 1, .int .i64 0, .string ⟨#[]⟩], .agg #[.int .u8 2, .int .i64 1, .int .i64 0, .string ⟨#[]⟩]] (.tuple #[.agg #[.int .u8 2, .int .i64 1, .int .i64 0, .string ⟨#[]⟩], .int .i64 0]) (by first | rfl | simp) (fun w' hw' hctx => ?_) (fun w' hw' hctx => (and_is 2 1 0 ⟨#[]⟩ 2 1 0 ⟨#[]⟩ ⟨2, 1, 0⟩ (by kernel_rfl) w').mono fun e w2 ⟨he, hb⟩ => ⟨he, KeepR.of_below hb hw'.below.size⟩) ?_
  · go_simp
  simp only [Act.put, List.setIfInBounds_toArray, List.set_cons_zero, List.set_cons_succ]
  iterate 3 (refine seqP_value (KeepR.refl _ _ _ _ _) _ (by first | rfl | simp) (fun w' hw' hctx => by (go_simp); (try first | with_reducible rfl | simp)) ?_; simp only [Act.put, List.setIfInBounds_toArray, List.set_cons_zero, List.set_cons_succ])
  refine seqP_make _ (fun w w' v hR hV => by obtain ⟨h, h1, h2, h3, h4⟩ := hV; exact ⟨h, h1, h2, hR.soft _ h3, hR.cells _ h4⟩) (by first | rfl | simp) (fun w' hw' hctx => ?_) (fun v => ?_)
  · exact ⟨_, _, by go_simp; first | with_reducible rfl | rfl, KeepR.of_below (Below.allocs _ _) hw'.below.size, ⟨_, rfl, hw'.below.size, Soft.new _ _ _ _ _ _, ⟨_, _, _, _, Boxed.new _ _ _ _ _ _⟩⟩⟩
  simp only [Act.put, List.setIfInBounds_toArray, List.set_cons_zero, List.set_cons_succ]
  refine seqP_write 12 _ (by decide) (fun w w' v hR hV h hh => hR.same _ (hV h hh)) (by first | rfl | simp) (fun w' hw' hctx => ?_) (fun v' => ?_)
  · obtain ⟨h, rfl, h2, h3, h4⟩ : ∃ h, v = .pointer (some ⟨h, 0, none⟩) ∧ (v18).heap.size ≤ h ∧ Soft w' h ∧ Cells w' h := hctx.1
    have hk := KeepR.put (k := 2) (n := 1) (u := 0) (t := ⟨#[]⟩) h2 h4
    obtain ⟨x0, x1, x2, x3, hbx⟩ := h4
    have hbp := boxed_put4 hbx (2) (1) 0 ⟨#[]⟩
    obtain ⟨b0, b1, b2, b3, b4⟩ := hbx
    obtain ⟨s0, s1, s2, s3, s4⟩ := h3
    refine ⟨put4 w' h (2) (1) 0 ⟨#[]⟩, ?_, hk, fun h' hh' => ?_⟩
    · go_simp
      rfl
    · simp [upd] at hh'
      subst hh'
      exact hbp
  simp only [Act.put]
  refine seqP_value (KeepR.refl _ _ _ _ _) _ (by first | rfl | simp) (fun w' hw' hctx => ?_) ?_
  · go_simp
    try first | with_reducible rfl | simp
  simp only [Act.put, List.setIfInBounds_toArray, List.set_cons_zero, List.set_cons_succ]
  refine seqP_nil (fun v19 hR hctx => ?_)
  obtain ⟨g19, rfl, hg19, hs19, -⟩ : ∃ h, v = .pointer (some ⟨h, 0, none⟩) ∧ (v18).heap.size ≤ h ∧ Soft v19 h ∧ Cells v19 h := hctx.2.1
  have An : Boxed v19 g19 (2) (1) 0 ⟨#[]⟩ := hctx.1 g19 (by simp [upd])
  have hv19 := below_tr hd hR.below
  clear hctx hR hd hs19
  have P28 := P27.below hv19
  have Q28 := Q27.below hv19
  have O28 := O27.below hv19
  have hw28 := below_tr hw27 hv19
  clear P27 Q27 O27
  have A28 := An
  clear An hv19
  go_wp2_with fail
  have hd := below_drew v19
  refine wp_region_plan (KeepR (v19).heap.size 2 1 0 ⟨#[]⟩) [.it (.slice (some ⟨v2.heap.size, 0, none⟩) 3 3), .it (.int .i64 1), .it (.pointer (some ⟨v2.heap.size, 4, none⟩)), .it (.agg #[.int .u8 2, .int .i64 1, .int .i64 0, .string ⟨#[]⟩]), .it (.slice (some ⟨v2.heap.size, 0, none⟩) 3 3), .it (.int .i64 1), .it (.pointer (some ⟨v2.heap.size, 4, none⟩)), .it (.agg #[.int .u8 2, .int .i64 1, .int .i64 0, .string ⟨#[]⟩]), .it (.tuple #[.agg #[.int .u8 2, .int .i64 1, .int .i64 0, .string ⟨#[]⟩], .int .i64 0]), .it (.tuple #[.agg #[.int .u8 2, .int .i64 1, .int .i64 0, .string ⟨#[]⟩], .int .i64 0]), .it (.agg #[.int .u8 2, .int .i64 1, .int .i64 0, .string ⟨#[]⟩]), .it (.int .i64 0), .of (fun w v => ∃ h, v = .pointer (some ⟨h, 0, none⟩) ∧ (v19).heap.size ≤ h ∧ Soft w h ∧ Cells w h), .on 12 (fun p w _ => ∀ h, p = .pointer (some ⟨h, 0, none⟩) → Boxed w h 2 1 0 ⟨#[]⟩), .it (.int .i64 0)] (by kernel_rfl) (by kernel_rfl) (KeepR.refl _ _ _ _ _) KeepR.trans ?_
  iterate 3 (refine seqP_value (KeepR.refl _ _ _ _ _) _ (by first | rfl | simp) (fun w' hw' hctx => by (go_simp); (try first | with_reducible rfl | simp)) ?_; simp only [Act.put, List.setIfInBounds_toArray, List.set_cons_zero, List.set_cons_succ])
  refine seqP_value (KeepR.refl _ _ _ _ _) _ (by first | rfl | simp) (fun w' hw' hctx => ?_) ?_
  · obtain ⟨c0, c1, c2, c3, c4⟩ := Q28.below (below_tr hd hw'.below)
    go_simp
    try first | with_reducible rfl | simp
  simp only [Act.put, List.setIfInBounds_toArray, List.set_cons_zero, List.set_cons_succ]
  iterate 3 (refine seqP_value (KeepR.refl _ _ _ _ _) _ (by first | rfl | simp) (fun w' hw' hctx => by (go_simp); (try first | with_reducible rfl | simp)) ?_; simp only [Act.put, List.setIfInBounds_toArray, List.set_cons_zero, List.set_cons_succ])
  refine seqP_value (KeepR.refl _ _ _ _ _) _ (by first | rfl | simp) (fun w' hw' hctx => ?_) ?_
  · obtain ⟨c0, c1, c2, c3, c4⟩ := Q28.below (below_tr hd hw'.below)
    go_simp
    try first | with_reducible rfl | simp
  simp only [Act.put, List.setIfInBounds_toArray, List.set_cons_zero, List.set_cons_succ]
  refine seqP_call 24 #[.agg #[.int .u8 2, .int .i64 1, .int .i64 0, .string ⟨#[]⟩], .agg #[.int .u8 2, .int .i64 1, .int .i64 0, .string ⟨#[]⟩]] (.tuple #[.agg #[.int .u8 2, .int .i64 1, .int .i64 0, .string ⟨#[]⟩], .int .i64 0]) (by first | rfl | simp) (fun w' hw' hctx => ?_) (fun w' hw' hctx => (or_is 2 1 0 ⟨#[]⟩ 2 1 0 ⟨#[]⟩ ⟨2, 1, 0⟩ (by kernel_rfl) w').mono fun e w2 ⟨he, hb⟩ => ⟨he, KeepR.of_below hb hw'.below.size⟩) ?_
  · go_simp
  simp only [Act.put, List.setIfInBounds_toArray, List.set_cons_zero, List.set_cons_succ]
  iterate 3 (refine seqP_value (KeepR.refl _ _ _ _ _) _ (by first | rfl | simp) (fun w' hw' hctx => by (go_simp); (try first | with_reducible rfl | simp)) ?_; simp only [Act.put, List.setIfInBounds_toArray, List.set_cons_zero, List.set_cons_succ])
  refine seqP_make _ (fun w w' v hR hV => by obtain ⟨h, h1, h2, h3, h4⟩ := hV; exact ⟨h, h1, h2, hR.soft _ h3, hR.cells _ h4⟩) (by first | rfl | simp) (fun w' hw' hctx => ?_) (fun v => ?_)
  · exact ⟨_, _, by go_simp; first | with_reducible rfl | rfl, KeepR.of_below (Below.allocs _ _) hw'.below.size, ⟨_, rfl, hw'.below.size, Soft.new _ _ _ _ _ _, ⟨_, _, _, _, Boxed.new _ _ _ _ _ _⟩⟩⟩
  simp only [Act.put, List.setIfInBounds_toArray, List.set_cons_zero, List.set_cons_succ]
  refine seqP_write 12 _ (by decide) (fun w w' v hR hV h hh => hR.same _ (hV h hh)) (by first | rfl | simp) (fun w' hw' hctx => ?_) (fun v' => ?_)
  · obtain ⟨h, rfl, h2, h3, h4⟩ : ∃ h, v = .pointer (some ⟨h, 0, none⟩) ∧ (v19).heap.size ≤ h ∧ Soft w' h ∧ Cells w' h := hctx.1
    have hk := KeepR.put (k := 2) (n := 1) (u := 0) (t := ⟨#[]⟩) h2 h4
    obtain ⟨x0, x1, x2, x3, hbx⟩ := h4
    have hbp := boxed_put4 hbx (2) (1) 0 ⟨#[]⟩
    obtain ⟨b0, b1, b2, b3, b4⟩ := hbx
    obtain ⟨s0, s1, s2, s3, s4⟩ := h3
    refine ⟨put4 w' h (2) (1) 0 ⟨#[]⟩, ?_, hk, fun h' hh' => ?_⟩
    · go_simp
      rfl
    · simp [upd] at hh'
      subst hh'
      exact hbp
  simp only [Act.put]
  refine seqP_value (KeepR.refl _ _ _ _ _) _ (by first | rfl | simp) (fun w' hw' hctx => ?_) ?_
  · go_simp
    try first | with_reducible rfl | simp
  simp only [Act.put, List.setIfInBounds_toArray, List.set_cons_zero, List.set_cons_succ]
  refine seqP_nil (fun v20 hR hctx => ?_)
  obtain ⟨g20, rfl, hg20, hs20, -⟩ : ∃ h, v = .pointer (some ⟨h, 0, none⟩) ∧ (v19).heap.size ≤ h ∧ Soft v20 h ∧ Cells v20 h := hctx.2.1
  have Bn : Boxed v20 g20 (2) (1) 0 ⟨#[]⟩ := hctx.1 g20 (by simp [upd])
  have hv20 := below_tr hd hR.below
  clear hctx hR hd hs20
  have P29 := P28.below hv20
  have Q29 := Q28.below hv20
  have O29 := O28.below hv20
  have A29 := A28.below hv20
  have hw29 := below_tr hw28 hv20
  clear P28 Q28 O28 A28
  have B29 := Bn
  clear Bn hv20
  go_wp2_with fail
  have hn29 := Below.allocs v20 (.cells #[.int .i64 0, .int .i64 2, .int .i64 1] 35)
  have Hn := IntsAt.new v20 0 2 1 35
  have P30 := P29.below hn29
  have Q30 := Q29.below hn29
  have O30 := O29.below hn29
  have A30 := A29.below hn29
  have B30 := B29.below hn29
  have hw30 := below_tr hw29 hn29
  clear P29 Q29 O29 A29 B29
  have H30 := Hn
  clear Hn hn29
  have hd := below_drew (v20.alloc (.cells #[.int .i64 0, .int .i64 2, .int .i64 1] 35))
  refine wp_region_plan (fun w w' => Below w.heap.size w w') [.it (.int .i64 1), .it (.pointer (some ⟨v20.heap.size, 1, none⟩)), .it (.int .i64 2), .it (.int .i64 1), .it (.pointer (some ⟨v20.heap.size, 1, none⟩)), .it (.int .i64 2), .it (.int .i64 2), .it (.int .i64 1), .it (.pointer (some ⟨v20.heap.size, 1, none⟩)), .it (.int .i64 2), .it (.int .i64 1), .it (.pointer (some ⟨v20.heap.size, 1, none⟩)), .it (.int .i64 2), .it (.int .i64 2), .it (.int .i64 2), .it (.int .i64 2)] (by kernel_rfl) (by kernel_rfl) (fun w => Below.refl _ _) (fun _ _ _ => below_tr) ?_
  iterate 2 (refine seqP_value (fun w => Below.refl _ _) _ (by first | rfl | simp) (fun w' hw' hctx => by (go_simp); (try first | with_reducible rfl | simp)) ?_; simp only [Act.put, List.setIfInBounds_toArray, List.set_cons_zero, List.set_cons_succ])
  refine seqP_value (fun w => Below.refl _ _) _ (by first | rfl | simp) (fun w' hw' hctx => ?_) ?_
  · obtain ⟨c0, c1, c2, c3, c4⟩ := H30.below (below_tr hd hw')
    go_simp
    try first | with_reducible rfl | simp
  simp only [Act.put, List.setIfInBounds_toArray, List.set_cons_zero, List.set_cons_succ]
  iterate 2 (refine seqP_value (fun w => Below.refl _ _) _ (by first | rfl | simp) (fun w' hw' hctx => by (go_simp); (try first | with_reducible rfl | simp)) ?_; simp only [Act.put, List.setIfInBounds_toArray, List.set_cons_zero, List.set_cons_succ])
  refine seqP_value (fun w => Below.refl _ _) _ (by first | rfl | simp) (fun w' hw' hctx => ?_) ?_
  · obtain ⟨c0, c1, c2, c3, c4⟩ := H30.below (below_tr hd hw')
    go_simp
    try first | with_reducible rfl | simp
  simp only [Act.put, List.setIfInBounds_toArray, List.set_cons_zero, List.set_cons_succ]
  iterate 3 (refine seqP_value (fun w => Below.refl _ _) _ (by first | rfl | simp) (fun w' hw' hctx => by (go_simp); (try first | with_reducible rfl | simp)) ?_; simp only [Act.put, List.setIfInBounds_toArray, List.set_cons_zero, List.set_cons_succ])
  refine seqP_value (fun w => Below.refl _ _) _ (by first | rfl | simp) (fun w' hw' hctx => ?_) ?_
  · obtain ⟨c0, c1, c2, c3, c4⟩ := H30.below (below_tr hd hw')
    go_simp
    try first | with_reducible rfl | simp
  simp only [Act.put, List.setIfInBounds_toArray, List.set_cons_zero, List.set_cons_succ]
  iterate 2 (refine seqP_value (fun w => Below.refl _ _) _ (by first | rfl | simp) (fun w' hw' hctx => by (go_simp); (try first | with_reducible rfl | simp)) ?_; simp only [Act.put, List.setIfInBounds_toArray, List.set_cons_zero, List.set_cons_succ])
  refine seqP_value (fun w => Below.refl _ _) _ (by first | rfl | simp) (fun w' hw' hctx => ?_) ?_
  · obtain ⟨c0, c1, c2, c3, c4⟩ := H30.below (below_tr hd hw')
    go_simp
    try first | with_reducible rfl | simp
  simp only [Act.put, List.setIfInBounds_toArray, List.set_cons_zero, List.set_cons_succ]
  iterate 3 (refine seqP_value (fun w => Below.refl _ _) _ (by first | rfl | simp) (fun w' hw' hctx => by (go_simp); (try first | with_reducible rfl | simp)) ?_; simp only [Act.put, List.setIfInBounds_toArray, List.set_cons_zero, List.set_cons_succ])
  refine seqP_nil (fun v21 hR hctx => ?_)
  have hv21 := below_tr hd hR
  clear hctx hR hd
  have P31 := P30.below hv21
  have Q31 := Q30.below hv21
  have O31 := O30.below hv21
  have A31 := A30.below hv21
  have B31 := B30.below hv21
  have H31 := H30.below hv21
  have hw31 := below_tr hw30 hv21
  clear P30 Q30 O30 A30 B30 H30
  clear hv21
  clear H31
  go_wp2_with fail
  have hn31 := Below.allocs v21 (.cells #[.int .i64 0, .int .i64 2, .int .i64 1] 35)
  have Jn := IntsAt.new v21 0 2 1 35
  have P32 := P31.below hn31
  have Q32 := Q31.below hn31
  have O32 := O31.below hn31
  have A32 := A31.below hn31
  have B32 := B31.below hn31
  have hw32 := below_tr hw31 hn31
  clear P31 Q31 O31 A31 B31
  have J32 := Jn
  clear Jn hn31
  have hd := below_drew (v21.alloc (.cells #[.int .i64 0, .int .i64 2, .int .i64 1] 35))
  refine wp_region_plan (fun w w' => Below w.heap.size w w') [.it (.int .i64 0), .it (.bool false), .it (.bool false), .it (.int .i64 0), .it (.bool false), .it (.bool false), .it (.bool false), .it (.agg #[.int .u8 2, .int .i64 1, .int .i64 0, .string ⟨#[]⟩]), .it (.slice (some ⟨v2.heap.size, 0, none⟩) 3 3), .it (.int .i64 2), .it (.pointer (some ⟨v21.heap.size, 2, none⟩)), .it (.int .i64 1), .it (.pointer (some ⟨v2.heap.size, 4, none⟩)), .it (.agg #[.int .u8 2, .int .i64 1, .int .i64 0, .string ⟨#[]⟩]), .it (.bool false), .it (.bool false), .it (.bool false), .it (.agg #[.int .u8 2, .int .i64 1, .int .i64 0, .string ⟨#[]⟩]), .it (.slice (some ⟨v2.heap.size, 0, none⟩) 3 3), .it (.int .i64 2), .it (.pointer (some ⟨v21.heap.size, 2, none⟩)), .it (.int .i64 1), .it (.pointer (some ⟨v2.heap.size, 4, none⟩)), .it (.agg #[.int .u8 2, .int .i64 1, .int .i64 0, .string ⟨#[]⟩]), .it (.bool false), .it (.bool false)] (by kernel_rfl) (by kernel_rfl) (fun w => Below.refl _ _) (fun _ _ _ => below_tr) ?_
  iterate 7 (refine seqP_value (fun w => Below.refl _ _) _ (by first | rfl | simp) (fun w' hw' hctx => by (go_simp); (try first | with_reducible rfl | simp)) ?_; simp only [Act.put, List.setIfInBounds_toArray, List.set_cons_zero, List.set_cons_succ])
  refine seqP_value (fun w => Below.refl _ _) _ (by first | rfl | simp) (fun w' hw' hctx => ?_) ?_
  · obtain ⟨c0, c1, c2, c3, c4⟩ := A32.below (below_tr hd hw')
    go_simp
    try first | with_reducible rfl | simp
  simp only [Act.put, List.setIfInBounds_toArray, List.set_cons_zero, List.set_cons_succ]
  iterate 3 (refine seqP_value (fun w => Below.refl _ _) _ (by first | rfl | simp) (fun w' hw' hctx => by (go_simp); (try first | with_reducible rfl | simp)) ?_; simp only [Act.put, List.setIfInBounds_toArray, List.set_cons_zero, List.set_cons_succ])
  refine seqP_value (fun w => Below.refl _ _) _ (by first | rfl | simp) (fun w' hw' hctx => ?_) ?_
  · obtain ⟨c0, c1, c2, c3, c4⟩ := J32.below (below_tr hd hw')
    go_simp
    try first | with_reducible rfl | simp
  simp only [Act.put, List.setIfInBounds_toArray, List.set_cons_zero, List.set_cons_succ]
  refine seqP_value (fun w => Below.refl _ _) _ (by first | rfl | simp) (fun w' hw' hctx => ?_) ?_
  · go_simp
    try first | with_reducible rfl | simp
  simp only [Act.put, List.setIfInBounds_toArray, List.set_cons_zero, List.set_cons_succ]
  refine seqP_value (fun w => Below.refl _ _) _ (by first | rfl | simp) (fun w' hw' hctx => ?_) ?_
  · obtain ⟨c0, c1, c2, c3, c4⟩ := Q32.below (below_tr hd hw')
    go_simp
    try first | with_reducible rfl | simp
  simp only [Act.put, List.setIfInBounds_toArray, List.set_cons_zero, List.set_cons_succ]
  iterate 3 (refine seqP_value (fun w => Below.refl _ _) _ (by first | rfl | simp) (fun w' hw' hctx => by (go_simp); (try first | with_reducible rfl | simp)) ?_; simp only [Act.put, List.setIfInBounds_toArray, List.set_cons_zero, List.set_cons_succ])
  refine seqP_value (fun w => Below.refl _ _) _ (by first | rfl | simp) (fun w' hw' hctx => ?_) ?_
  · obtain ⟨c0, c1, c2, c3, c4⟩ := B32.below (below_tr hd hw')
    go_simp
    try first | with_reducible rfl | simp
  simp only [Act.put, List.setIfInBounds_toArray, List.set_cons_zero, List.set_cons_succ]
  iterate 3 (refine seqP_value (fun w => Below.refl _ _) _ (by first | rfl | simp) (fun w' hw' hctx => by (go_simp); (try first | with_reducible rfl | simp)) ?_; simp only [Act.put, List.setIfInBounds_toArray, List.set_cons_zero, List.set_cons_succ])
  refine seqP_value (fun w => Below.refl _ _) _ (by first | rfl | simp) (fun w' hw' hctx => ?_) ?_
  · obtain ⟨c0, c1, c2, c3, c4⟩ := J32.below (below_tr hd hw')
    go_simp
    try first | with_reducible rfl | simp
  simp only [Act.put, List.setIfInBounds_toArray, List.set_cons_zero, List.set_cons_succ]
  refine seqP_value (fun w => Below.refl _ _) _ (by first | rfl | simp) (fun w' hw' hctx => ?_) ?_
  · go_simp
    try first | with_reducible rfl | simp
  simp only [Act.put, List.setIfInBounds_toArray, List.set_cons_zero, List.set_cons_succ]
  refine seqP_value (fun w => Below.refl _ _) _ (by first | rfl | simp) (fun w' hw' hctx => ?_) ?_
  · obtain ⟨c0, c1, c2, c3, c4⟩ := Q32.below (below_tr hd hw')
    go_simp
    try first | with_reducible rfl | simp
  simp only [Act.put, List.setIfInBounds_toArray, List.set_cons_zero, List.set_cons_succ]
  iterate 2 (refine seqP_value (fun w => Below.refl _ _) _ (by first | rfl | simp) (fun w' hw' hctx => by (go_simp); (try first | with_reducible rfl | simp)) ?_; simp only [Act.put, List.setIfInBounds_toArray, List.set_cons_zero, List.set_cons_succ])
  refine seqP_nil (fun v22 hR hctx => ?_)
  have hv22 := below_tr hd hR
  clear hctx hR hd
  have P33 := P32.below hv22
  have Q33 := Q32.below hv22
  have O33 := O32.below hv22
  have A33 := A32.below hv22
  have B33 := B32.below hv22
  have J33 := J32.below hv22
  have hw33 := below_tr hw32 hv22
  clear P32 Q32 O32 A32 B32 J32
  clear hv22
  clear A33
  clear B33
  clear J33
  have p' := P33
  obtain ⟨p0, p1, p2, p3, p4⟩ := p'
  have q' := Q33
  obtain ⟨q0, q1, q2, q3, q4⟩ := q'
  have o' := O33
  obtain ⟨o0, o1, o2, o3, o4⟩ := o'
  go_wp2_with fail
  clear p0 p1 p2 p3 p4 q0 q1 q2 q3 q4 o0 o1 o2 o3 o4
  rw [rounds_succ]
  go_wp2_with fail
  have hd := below_drew v22
  refine wp_region_plan (KeepR (v22).heap.size 0 0 0 ⟨#[]⟩) [.it (.slice (some ⟨v2.heap.size, 0, none⟩) 3 3), .it (.int .i64 1), .it (.pointer (some ⟨v2.heap.size, 4, none⟩)), .it (.agg #[.int .u8 2, .int .i64 1, .int .i64 0, .string ⟨#[]⟩]), .it (.slice (some ⟨v2.heap.size, 0, none⟩) 3 3), .it (.int .i64 2), .it (.pointer (some ⟨v2.heap.size, 8, none⟩)), .it (.agg #[.int .u8 0, .int .i64 0, .int .i64 0, .string ⟨#[]⟩]), .it (.tuple #[.agg #[.int .u8 0, .int .i64 0, .int .i64 0, .string ⟨#[]⟩], .int .i64 0]), .it (.tuple #[.agg #[.int .u8 0, .int .i64 0, .int .i64 0, .string ⟨#[]⟩], .int .i64 0]), .it (.agg #[.int .u8 0, .int .i64 0, .int .i64 0, .string ⟨#[]⟩]), .it (.int .i64 0), .of (fun w v => ∃ h, v = .pointer (some ⟨h, 0, none⟩) ∧ (v22).heap.size ≤ h ∧ Soft w h ∧ Cells w h), .on 12 (fun p w _ => ∀ h, p = .pointer (some ⟨h, 0, none⟩) → Boxed w h 0 0 0 ⟨#[]⟩), .it (.int .i64 0)] (by kernel_rfl) (by kernel_rfl) (KeepR.refl _ _ _ _ _) KeepR.trans ?_
  iterate 3 (refine seqP_value (KeepR.refl _ _ _ _ _) _ (by first | rfl | simp) (fun w' hw' hctx => by (go_simp); (try first | with_reducible rfl | simp)) ?_; simp only [Act.put, List.setIfInBounds_toArray, List.set_cons_zero, List.set_cons_succ])
  refine seqP_value (KeepR.refl _ _ _ _ _) _ (by first | rfl | simp) (fun w' hw' hctx => ?_) ?_
  · obtain ⟨c0, c1, c2, c3, c4⟩ := Q33.below (below_tr hd hw'.below)
    go_simp
    try first | with_reducible rfl | simp
  simp only [Act.put, List.setIfInBounds_toArray, List.set_cons_zero, List.set_cons_succ]
  iterate 3 (refine seqP_value (KeepR.refl _ _ _ _ _) _ (by first | rfl | simp) (fun w' hw' hctx => by (go_simp); (try first | with_reducible rfl | simp)) ?_; simp only [Act.put, List.setIfInBounds_toArray, List.set_cons_zero, List.set_cons_succ])
  refine seqP_value (KeepR.refl _ _ _ _ _) _ (by first | rfl | simp) (fun w' hw' hctx => ?_) ?_
  · obtain ⟨c0, c1, c2, c3, c4⟩ := O33.below (below_tr hd hw'.below)
    go_simp
    try first | with_reducible rfl | simp
  simp only [Act.put, List.setIfInBounds_toArray, List.set_cons_zero, List.set_cons_succ]
  refine seqP_call 22 #[.agg #[.int .u8 2, .int .i64 1, .int .i64 0, .string ⟨#[]⟩], .agg #[.int .u8 0, .int .i64 0, .int .i64 0, .string ⟨#[]⟩]] (.tuple #[.agg #[.int .u8 0, .int .i64 0, .int .i64 0, .string ⟨#[]⟩], .int .i64 0]) (by first | rfl | simp) (fun w' hw' hctx => ?_) (fun w' hw' hctx => (and_is 2 1 0 ⟨#[]⟩ 0 0 0 ⟨#[]⟩ ⟨0, 0, 0⟩ (by kernel_rfl) w').mono fun e w2 ⟨he, hb⟩ => ⟨he, KeepR.of_below hb hw'.below.size⟩) ?_
  · go_simp
  simp only [Act.put, List.setIfInBounds_toArray, List.set_cons_zero, List.set_cons_succ]
  iterate 3 (refine seqP_value (KeepR.refl _ _ _ _ _) _ (by first | rfl | simp) (fun w' hw' hctx => by (go_simp); (try first | with_reducible rfl | simp)) ?_; simp only [Act.put, List.setIfInBounds_toArray, List.set_cons_zero, List.set_cons_succ])
  refine seqP_make _ (fun w w' v hR hV => by obtain ⟨h, h1, h2, h3, h4⟩ := hV; exact ⟨h, h1, h2, hR.soft _ h3, hR.cells _ h4⟩) (by first | rfl | simp) (fun w' hw' hctx => ?_) (fun v => ?_)
  · exact ⟨_, _, by go_simp; first | with_reducible rfl | rfl, KeepR.of_below (Below.allocs _ _) hw'.below.size, ⟨_, rfl, hw'.below.size, Soft.new _ _ _ _ _ _, ⟨_, _, _, _, Boxed.new _ _ _ _ _ _⟩⟩⟩
  simp only [Act.put, List.setIfInBounds_toArray, List.set_cons_zero, List.set_cons_succ]
  refine seqP_write 12 _ (by decide) (fun w w' v hR hV h hh => hR.same _ (hV h hh)) (by first | rfl | simp) (fun w' hw' hctx => ?_) (fun v' => ?_)
  · obtain ⟨h, rfl, h2, h3, h4⟩ : ∃ h, v = .pointer (some ⟨h, 0, none⟩) ∧ (v22).heap.size ≤ h ∧ Soft w' h ∧ Cells w' h := hctx.1
    have hk := KeepR.put (k := 0) (n := 0) (u := 0) (t := ⟨#[]⟩) h2 h4
    obtain ⟨x0, x1, x2, x3, hbx⟩ := h4
    have hbp := boxed_put4 hbx (0) (0) 0 ⟨#[]⟩
    obtain ⟨b0, b1, b2, b3, b4⟩ := hbx
    obtain ⟨s0, s1, s2, s3, s4⟩ := h3
    refine ⟨put4 w' h (0) (0) 0 ⟨#[]⟩, ?_, hk, fun h' hh' => ?_⟩
    · go_simp
      rfl
    · simp [upd] at hh'
      subst hh'
      exact hbp
  simp only [Act.put]
  refine seqP_value (KeepR.refl _ _ _ _ _) _ (by first | rfl | simp) (fun w' hw' hctx => ?_) ?_
  · go_simp
    try first | with_reducible rfl | simp
  simp only [Act.put, List.setIfInBounds_toArray, List.set_cons_zero, List.set_cons_succ]
  refine seqP_nil (fun v23 hR hctx => ?_)
  obtain ⟨g23, rfl, hg23, hs23, -⟩ : ∃ h, v = .pointer (some ⟨h, 0, none⟩) ∧ (v22).heap.size ≤ h ∧ Soft v23 h ∧ Cells v23 h := hctx.2.1
  have An : Boxed v23 g23 (0) (0) 0 ⟨#[]⟩ := hctx.1 g23 (by simp [upd])
  have hv23 := below_tr hd hR.below
  clear hctx hR hd hs23
  have P34 := P33.below hv23
  have Q34 := Q33.below hv23
  have O34 := O33.below hv23
  have hw34 := below_tr hw33 hv23
  clear P33 Q33 O33
  have A34 := An
  clear An hv23
  go_wp2_with fail
  have hd := below_drew v23
  refine wp_region_plan (KeepR (v23).heap.size 2 1 0 ⟨#[]⟩) [.it (.slice (some ⟨v2.heap.size, 0, none⟩) 3 3), .it (.int .i64 1), .it (.pointer (some ⟨v2.heap.size, 4, none⟩)), .it (.agg #[.int .u8 2, .int .i64 1, .int .i64 0, .string ⟨#[]⟩]), .it (.slice (some ⟨v2.heap.size, 0, none⟩) 3 3), .it (.int .i64 2), .it (.pointer (some ⟨v2.heap.size, 8, none⟩)), .it (.agg #[.int .u8 0, .int .i64 0, .int .i64 0, .string ⟨#[]⟩]), .it (.tuple #[.agg #[.int .u8 2, .int .i64 1, .int .i64 0, .string ⟨#[]⟩], .int .i64 0]), .it (.tuple #[.agg #[.int .u8 2, .int .i64 1, .int .i64 0, .string ⟨#[]⟩], .int .i64 0]), .it (.agg #[.int .u8 2, .int .i64 1, .int .i64 0, .string ⟨#[]⟩]), .it (.int .i64 0), .of (fun w v => ∃ h, v = .pointer (some ⟨h, 0, none⟩) ∧ (v23).heap.size ≤ h ∧ Soft w h ∧ Cells w h), .on 12 (fun p w _ => ∀ h, p = .pointer (some ⟨h, 0, none⟩) → Boxed w h 2 1 0 ⟨#[]⟩), .it (.int .i64 0)] (by kernel_rfl) (by kernel_rfl) (KeepR.refl _ _ _ _ _) KeepR.trans ?_
  iterate 3 (refine seqP_value (KeepR.refl _ _ _ _ _) _ (by first | rfl | simp) (fun w' hw' hctx => by (go_simp); (try first | with_reducible rfl | simp)) ?_; simp only [Act.put, List.setIfInBounds_toArray, List.set_cons_zero, List.set_cons_succ])
  refine seqP_value (KeepR.refl _ _ _ _ _) _ (by first | rfl | simp) (fun w' hw' hctx => ?_) ?_
  · obtain ⟨c0, c1, c2, c3, c4⟩ := Q34.below (below_tr hd hw'.below)
    go_simp
    try first | with_reducible rfl | simp
  simp only [Act.put, List.setIfInBounds_toArray, List.set_cons_zero, List.set_cons_succ]
  iterate 3 (refine seqP_value (KeepR.refl _ _ _ _ _) _ (by first | rfl | simp) (fun w' hw' hctx => by (go_simp); (try first | with_reducible rfl | simp)) ?_; simp only [Act.put, List.setIfInBounds_toArray, List.set_cons_zero, List.set_cons_succ])
  refine seqP_value (KeepR.refl _ _ _ _ _) _ (by first | rfl | simp) (fun w' hw' hctx => ?_) ?_
  · obtain ⟨c0, c1, c2, c3, c4⟩ := O34.below (below_tr hd hw'.below)
    go_simp
    try first | with_reducible rfl | simp
  simp only [Act.put, List.setIfInBounds_toArray, List.set_cons_zero, List.set_cons_succ]
  refine seqP_call 24 #[.agg #[.int .u8 2, .int .i64 1, .int .i64 0, .string ⟨#[]⟩], .agg #[.int .u8 0, .int .i64 0, .int .i64 0, .string ⟨#[]⟩]] (.tuple #[.agg #[.int .u8 2, .int .i64 1, .int .i64 0, .string ⟨#[]⟩], .int .i64 0]) (by first | rfl | simp) (fun w' hw' hctx => ?_) (fun w' hw' hctx => (or_is 2 1 0 ⟨#[]⟩ 0 0 0 ⟨#[]⟩ ⟨2, 1, 0⟩ (by kernel_rfl) w').mono fun e w2 ⟨he, hb⟩ => ⟨he, KeepR.of_below hb hw'.below.size⟩) ?_
  · go_simp
  simp only [Act.put, List.setIfInBounds_toArray, List.set_cons_zero, List.set_cons_succ]
  iterate 3 (refine seqP_value (KeepR.refl _ _ _ _ _) _ (by first | rfl | simp) (fun w' hw' hctx => by (go_simp); (try first | with_reducible rfl | simp)) ?_; simp only [Act.put, List.setIfInBounds_toArray, List.set_cons_zero, List.set_cons_succ])
  refine seqP_make _ (fun w w' v hR hV => by obtain ⟨h, h1, h2, h3, h4⟩ := hV; exact ⟨h, h1, h2, hR.soft _ h3, hR.cells _ h4⟩) (by first | rfl | simp) (fun w' hw' hctx => ?_) (fun v => ?_)
  · exact ⟨_, _, by go_simp; first | with_reducible rfl | rfl, KeepR.of_below (Below.allocs _ _) hw'.below.size, ⟨_, rfl, hw'.below.size, Soft.new _ _ _ _ _ _, ⟨_, _, _, _, Boxed.new _ _ _ _ _ _⟩⟩⟩
  simp only [Act.put, List.setIfInBounds_toArray, List.set_cons_zero, List.set_cons_succ]
  refine seqP_write 12 _ (by decide) (fun w w' v hR hV h hh => hR.same _ (hV h hh)) (by first | rfl | simp) (fun w' hw' hctx => ?_) (fun v' => ?_)
  · obtain ⟨h, rfl, h2, h3, h4⟩ : ∃ h, v = .pointer (some ⟨h, 0, none⟩) ∧ (v23).heap.size ≤ h ∧ Soft w' h ∧ Cells w' h := hctx.1
    have hk := KeepR.put (k := 2) (n := 1) (u := 0) (t := ⟨#[]⟩) h2 h4
    obtain ⟨x0, x1, x2, x3, hbx⟩ := h4
    have hbp := boxed_put4 hbx (2) (1) 0 ⟨#[]⟩
    obtain ⟨b0, b1, b2, b3, b4⟩ := hbx
    obtain ⟨s0, s1, s2, s3, s4⟩ := h3
    refine ⟨put4 w' h (2) (1) 0 ⟨#[]⟩, ?_, hk, fun h' hh' => ?_⟩
    · go_simp
      rfl
    · simp [upd] at hh'
      subst hh'
      exact hbp
  simp only [Act.put]
  refine seqP_value (KeepR.refl _ _ _ _ _) _ (by first | rfl | simp) (fun w' hw' hctx => ?_) ?_
  · go_simp
    try first | with_reducible rfl | simp
  simp only [Act.put, List.setIfInBounds_toArray, List.set_cons_zero, List.set_cons_succ]
  refine seqP_nil (fun v24 hR hctx => ?_)
  obtain ⟨g24, rfl, hg24, hs24, -⟩ : ∃ h, v = .pointer (some ⟨h, 0, none⟩) ∧ (v23).heap.size ≤ h ∧ Soft v24 h ∧ Cells v24 h := hctx.2.1
  have Bn : Boxed v24 g24 (2) (1) 0 ⟨#[]⟩ := hctx.1 g24 (by simp [upd])
  have hv24 := below_tr hd hR.below
  clear hctx hR hd hs24
  have P35 := P34.below hv24
  have Q35 := Q34.below hv24
  have O35 := O34.below hv24
  have A35 := A34.below hv24
  have hw35 := below_tr hw34 hv24
  clear P34 Q34 O34 A34
  have B35 := Bn
  clear Bn hv24
  go_wp2_with fail
  have hn35 := Below.allocs v24 (.cells #[.int .i64 0, .int .i64 2, .int .i64 1] 35)
  have Hn := IntsAt.new v24 0 2 1 35
  have P36 := P35.below hn35
  have Q36 := Q35.below hn35
  have O36 := O35.below hn35
  have A36 := A35.below hn35
  have B36 := B35.below hn35
  have hw36 := below_tr hw35 hn35
  clear P35 Q35 O35 A35 B35
  have H36 := Hn
  clear Hn hn35
  have hd := below_drew (v24.alloc (.cells #[.int .i64 0, .int .i64 2, .int .i64 1] 35))
  refine wp_region_plan (fun w w' => Below w.heap.size w w') [.it (.int .i64 1), .it (.pointer (some ⟨v24.heap.size, 1, none⟩)), .it (.int .i64 2), .it (.int .i64 2), .it (.pointer (some ⟨v24.heap.size, 2, none⟩)), .it (.int .i64 1), .it (.int .i64 1), .it (.int .i64 1), .it (.pointer (some ⟨v24.heap.size, 1, none⟩)), .it (.int .i64 2), .it (.int .i64 2), .it (.pointer (some ⟨v24.heap.size, 2, none⟩)), .it (.int .i64 1), .it (.int .i64 2), .it (.int .i64 1), .it (.int .i64 2)] (by kernel_rfl) (by kernel_rfl) (fun w => Below.refl _ _) (fun _ _ _ => below_tr) ?_
  iterate 2 (refine seqP_value (fun w => Below.refl _ _) _ (by first | rfl | simp) (fun w' hw' hctx => by (go_simp); (try first | with_reducible rfl | simp)) ?_; simp only [Act.put, List.setIfInBounds_toArray, List.set_cons_zero, List.set_cons_succ])
  refine seqP_value (fun w => Below.refl _ _) _ (by first | rfl | simp) (fun w' hw' hctx => ?_) ?_
  · obtain ⟨c0, c1, c2, c3, c4⟩ := H36.below (below_tr hd hw')
    go_simp
    try first | with_reducible rfl | simp
  simp only [Act.put, List.setIfInBounds_toArray, List.set_cons_zero, List.set_cons_succ]
  iterate 2 (refine seqP_value (fun w => Below.refl _ _) _ (by first | rfl | simp) (fun w' hw' hctx => by (go_simp); (try first | with_reducible rfl | simp)) ?_; simp only [Act.put, List.setIfInBounds_toArray, List.set_cons_zero, List.set_cons_succ])
  refine seqP_value (fun w => Below.refl _ _) _ (by first | rfl | simp) (fun w' hw' hctx => ?_) ?_
  · obtain ⟨c0, c1, c2, c3, c4⟩ := H36.below (below_tr hd hw')
    go_simp
    try first | with_reducible rfl | simp
  simp only [Act.put, List.setIfInBounds_toArray, List.set_cons_zero, List.set_cons_succ]
  iterate 3 (refine seqP_value (fun w => Below.refl _ _) _ (by first | rfl | simp) (fun w' hw' hctx => by (go_simp); (try first | with_reducible rfl | simp)) ?_; simp only [Act.put, List.setIfInBounds_toArray, List.set_cons_zero, List.set_cons_succ])
  refine seqP_value (fun w => Below.refl _ _) _ (by first | rfl | simp) (fun w' hw' hctx => ?_) ?_
  · obtain ⟨c0, c1, c2, c3, c4⟩ := H36.below (below_tr hd hw')
    go_simp
    try first | with_reducible rfl | simp
  simp only [Act.put, List.setIfInBounds_toArray, List.set_cons_zero, List.set_cons_succ]
  iterate 2 (refine seqP_value (fun w => Below.refl _ _) _ (by first | rfl | simp) (fun w' hw' hctx => by (go_simp); (try first | with_reducible rfl | simp)) ?_; simp only [Act.put, List.setIfInBounds_toArray, List.set_cons_zero, List.set_cons_succ])
  refine seqP_value (fun w => Below.refl _ _) _ (by first | rfl | simp) (fun w' hw' hctx => ?_) ?_
  · obtain ⟨c0, c1, c2, c3, c4⟩ := H36.below (below_tr hd hw')
    go_simp
    try first | with_reducible rfl | simp
  simp only [Act.put, List.setIfInBounds_toArray, List.set_cons_zero, List.set_cons_succ]
  iterate 3 (refine seqP_value (fun w => Below.refl _ _) _ (by first | rfl | simp) (fun w' hw' hctx => by (go_simp); (try first | with_reducible rfl | simp)) ?_; simp only [Act.put, List.setIfInBounds_toArray, List.set_cons_zero, List.set_cons_succ])
  refine seqP_nil (fun v25 hR hctx => ?_)
  have hv25 := below_tr hd hR
  clear hctx hR hd
  have P37 := P36.below hv25
  have Q37 := Q36.below hv25
  have O37 := O36.below hv25
  have A37 := A36.below hv25
  have B37 := B36.below hv25
  have H37 := H36.below hv25
  have hw37 := below_tr hw36 hv25
  clear P36 Q36 O36 A36 B36 H36
  clear hv25
  clear H37
  go_wp2_with fail
  have hn37 := Below.allocs v25 (.cells #[.int .i64 0, .int .i64 2, .int .i64 1] 35)
  have Jn := IntsAt.new v25 0 2 1 35
  have P38 := P37.below hn37
  have Q38 := Q37.below hn37
  have O38 := O37.below hn37
  have A38 := A37.below hn37
  have B38 := B37.below hn37
  have hw38 := below_tr hw37 hn37
  clear P37 Q37 O37 A37 B37
  have J38 := Jn
  clear Jn hn37
  have hd := below_drew (v25.alloc (.cells #[.int .i64 0, .int .i64 2, .int .i64 1] 35))
  refine wp_region_plan (fun w w' => Below w.heap.size w w') [.it (.int .i64 0), .it (.bool false), .it (.bool false), .it (.int .i64 0), .it (.bool false), .it (.bool false), .it (.bool false), .it (.agg #[.int .u8 0, .int .i64 0, .int .i64 0, .string ⟨#[]⟩]), .it (.slice (some ⟨v2.heap.size, 0, none⟩) 3 3), .it (.int .i64 1), .it (.pointer (some ⟨v25.heap.size, 1, none⟩)), .it (.int .i64 2), .it (.pointer (some ⟨v2.heap.size, 8, none⟩)), .it (.agg #[.int .u8 0, .int .i64 0, .int .i64 0, .string ⟨#[]⟩]), .it (.bool false), .it (.bool false), .it (.bool false), .it (.agg #[.int .u8 2, .int .i64 1, .int .i64 0, .string ⟨#[]⟩]), .it (.slice (some ⟨v2.heap.size, 0, none⟩) 3 3), .it (.int .i64 2), .it (.pointer (some ⟨v25.heap.size, 2, none⟩)), .it (.int .i64 1), .it (.pointer (some ⟨v2.heap.size, 4, none⟩)), .it (.agg #[.int .u8 2, .int .i64 1, .int .i64 0, .string ⟨#[]⟩]), .it (.bool false), .it (.bool false)] (by kernel_rfl) (by kernel_rfl) (fun w => Below.refl _ _) (fun _ _ _ => below_tr) ?_
  iterate 7 (refine seqP_value (fun w => Below.refl _ _) _ (by first | rfl | simp) (fun w' hw' hctx => by (go_simp); (try first | with_reducible rfl | simp)) ?_; simp only [Act.put, List.setIfInBounds_toArray, List.set_cons_zero, List.set_cons_succ])
  refine seqP_value (fun w => Below.refl _ _) _ (by first | rfl | simp) (fun w' hw' hctx => ?_) ?_
  · obtain ⟨c0, c1, c2, c3, c4⟩ := A38.below (below_tr hd hw')
    go_simp
    try first | with_reducible rfl | simp
  simp only [Act.put, List.setIfInBounds_toArray, List.set_cons_zero, List.set_cons_succ]
  iterate 3 (refine seqP_value (fun w => Below.refl _ _) _ (by first | rfl | simp) (fun w' hw' hctx => by (go_simp); (try first | with_reducible rfl | simp)) ?_; simp only [Act.put, List.setIfInBounds_toArray, List.set_cons_zero, List.set_cons_succ])
  refine seqP_value (fun w => Below.refl _ _) _ (by first | rfl | simp) (fun w' hw' hctx => ?_) ?_
  · obtain ⟨c0, c1, c2, c3, c4⟩ := J38.below (below_tr hd hw')
    go_simp
    try first | with_reducible rfl | simp
  simp only [Act.put, List.setIfInBounds_toArray, List.set_cons_zero, List.set_cons_succ]
  refine seqP_value (fun w => Below.refl _ _) _ (by first | rfl | simp) (fun w' hw' hctx => ?_) ?_
  · go_simp
    try first | with_reducible rfl | simp
  simp only [Act.put, List.setIfInBounds_toArray, List.set_cons_zero, List.set_cons_succ]
  refine seqP_value (fun w => Below.refl _ _) _ (by first | rfl | simp) (fun w' hw' hctx => ?_) ?_
  · obtain ⟨c0, c1, c2, c3, c4⟩ := O38.below (below_tr hd hw')
    go_simp
    try first | with_reducible rfl | simp
  simp only [Act.put, List.setIfInBounds_toArray, List.set_cons_zero, List.set_cons_succ]
  iterate 3 (refine seqP_value (fun w => Below.refl _ _) _ (by first | rfl | simp) (fun w' hw' hctx => by (go_simp); (try first | with_reducible rfl | simp)) ?_; simp only [Act.put, List.setIfInBounds_toArray, List.set_cons_zero, List.set_cons_succ])
  refine seqP_value (fun w => Below.refl _ _) _ (by first | rfl | simp) (fun w' hw' hctx => ?_) ?_
  · obtain ⟨c0, c1, c2, c3, c4⟩ := B38.below (below_tr hd hw')
    go_simp
    try first | with_reducible rfl | simp
  simp only [Act.put, List.setIfInBounds_toArray, List.set_cons_zero, List.set_cons_succ]
  iterate 3 (refine seqP_value (fun w => Below.refl _ _) _ (by first | rfl | simp) (fun w' hw' hctx => by (go_simp); (try first | with_reducible rfl | simp)) ?_; simp only [Act.put, List.setIfInBounds_toArray, List.set_cons_zero, List.set_cons_succ])
  refine seqP_value (fun w => Below.refl _ _) _ (by first | rfl | simp) (fun w' hw' hctx => ?_) ?_
  · obtain ⟨c0, c1, c2, c3, c4⟩ := J38.below (below_tr hd hw')
    go_simp
    try first | with_reducible rfl | simp
  simp only [Act.put, List.setIfInBounds_toArray, List.set_cons_zero, List.set_cons_succ]
  refine seqP_value (fun w => Below.refl _ _) _ (by first | rfl | simp) (fun w' hw' hctx => ?_) ?_
  · go_simp
    try first | with_reducible rfl | simp
  simp only [Act.put, List.setIfInBounds_toArray, List.set_cons_zero, List.set_cons_succ]
  refine seqP_value (fun w => Below.refl _ _) _ (by first | rfl | simp) (fun w' hw' hctx => ?_) ?_
  · obtain ⟨c0, c1, c2, c3, c4⟩ := Q38.below (below_tr hd hw')
    go_simp
    try first | with_reducible rfl | simp
  simp only [Act.put, List.setIfInBounds_toArray, List.set_cons_zero, List.set_cons_succ]
  iterate 2 (refine seqP_value (fun w => Below.refl _ _) _ (by first | rfl | simp) (fun w' hw' hctx => by (go_simp); (try first | with_reducible rfl | simp)) ?_; simp only [Act.put, List.setIfInBounds_toArray, List.set_cons_zero, List.set_cons_succ])
  refine seqP_nil (fun v26 hR hctx => ?_)
  have hv26 := below_tr hd hR
  clear hctx hR hd
  have P39 := P38.below hv26
  have Q39 := Q38.below hv26
  have O39 := O38.below hv26
  have A39 := A38.below hv26
  have B39 := B38.below hv26
  have J39 := J38.below hv26
  have hw39 := below_tr hw38 hv26
  clear P38 Q38 O38 A38 B38 J38
  clear hv26
  clear A39
  clear B39
  clear J39
  have p' := P39
  obtain ⟨p0, p1, p2, p3, p4⟩ := p'
  have q' := Q39
  obtain ⟨q0, q1, q2, q3, q4⟩ := q'
  have o' := O39
  obtain ⟨o0, o1, o2, o3, o4⟩ := o'
  go_wp2_with fail
  clear p0 p1 p2 p3 p4 q0 q1 q2 q3 q4 o0 o1 o2 o3 o4
  rw [rounds_succ]
  go_wp2_with fail
  rw [rounds_succ]
  go_wp2_with fail
  refine wp_loop_rounds 4 ?_
  rw [rounds_succ]
  go_wp2_with fail
  have hd := below_drew v26
  refine wp_region_plan (KeepR (v26).heap.size 2 0 0 ⟨#[]⟩) [.it (.slice (some ⟨v2.heap.size, 0, none⟩) 3 3), .it (.int .i64 2), .it (.pointer (some ⟨v2.heap.size, 8, none⟩)), .it (.agg #[.int .u8 0, .int .i64 0, .int .i64 0, .string ⟨#[]⟩]), .it (.slice (some ⟨v2.heap.size, 0, none⟩) 3 3), .it (.int .i64 0), .it (.pointer (some ⟨v2.heap.size, 0, none⟩)), .it (.agg #[.int .u8 2, .int .i64 0, .int .i64 0, .string ⟨#[]⟩]), .it (.tuple #[.agg #[.int .u8 2, .int .i64 0, .int .i64 0, .string ⟨#[]⟩], .int .i64 0]), .it (.tuple #[.agg #[.int .u8 2, .int .i64 0, .int .i64 0, .string ⟨#[]⟩], .int .i64 0]), .it (.agg #[.int .u8 2, .int .i64 0, .int .i64 0, .string ⟨#[]⟩]), .it (.int .i64 0), .of (fun w v => ∃ h, v = .pointer (some ⟨h, 0, none⟩) ∧ (v26).heap.size ≤ h ∧ Soft w h ∧ Cells w h), .on 12 (fun p w _ => ∀ h, p = .pointer (some ⟨h, 0, none⟩) → Boxed w h 2 0 0 ⟨#[]⟩), .it (.int .i64 0)] (by kernel_rfl) (by kernel_rfl) (KeepR.refl _ _ _ _ _) KeepR.trans ?_
  iterate 3 (refine seqP_value (KeepR.refl _ _ _ _ _) _ (by first | rfl | simp) (fun w' hw' hctx => by (go_simp); (try first | with_reducible rfl | simp)) ?_; simp only [Act.put, List.setIfInBounds_toArray, List.set_cons_zero, List.set_cons_succ])
  refine seqP_value (KeepR.refl _ _ _ _ _) _ (by first | rfl | simp) (fun w' hw' hctx => ?_) ?_
  · obtain ⟨c0, c1, c2, c3, c4⟩ := O39.below (below_tr hd hw'.below)
    go_simp
    try first | with_reducible rfl | simp
  simp only [Act.put, List.setIfInBounds_toArray, List.set_cons_zero, List.set_cons_succ]
  iterate 3 (refine seqP_value (KeepR.refl _ _ _ _ _) _ (by first | rfl | simp) (fun w' hw' hctx => by (go_simp); (try first | with_reducible rfl | simp)) ?_; simp only [Act.put, List.setIfInBounds_toArray, List.set_cons_zero, List.set_cons_succ])
  refine seqP_value (KeepR.refl _ _ _ _ _) _ (by first | rfl | simp) (fun w' hw' hctx => ?_) ?_
  · obtain ⟨c0, c1, c2, c3, c4⟩ := P39.below (below_tr hd hw'.below)
    go_simp
    try first | with_reducible rfl | simp
  simp only [Act.put, List.setIfInBounds_toArray, List.set_cons_zero, List.set_cons_succ]
  refine seqP_call 22 #[.agg #[.int .u8 0, .int .i64 0, .int .i64 0, .string ⟨#[]⟩], .agg #[.int .u8 2, .int .i64 0, .int .i64 0, .string ⟨#[]⟩]] (.tuple #[.agg #[.int .u8 2, .int .i64 0, .int .i64 0, .string ⟨#[]⟩], .int .i64 0]) (by first | rfl | simp) (fun w' hw' hctx => ?_) (fun w' hw' hctx => (and_is 0 0 0 ⟨#[]⟩ 2 0 0 ⟨#[]⟩ ⟨2, 0, 0⟩ (by kernel_rfl) w').mono fun e w2 ⟨he, hb⟩ => ⟨he, KeepR.of_below hb hw'.below.size⟩) ?_
  · go_simp
  simp only [Act.put, List.setIfInBounds_toArray, List.set_cons_zero, List.set_cons_succ]
  iterate 3 (refine seqP_value (KeepR.refl _ _ _ _ _) _ (by first | rfl | simp) (fun w' hw' hctx => by (go_simp); (try first | with_reducible rfl | simp)) ?_; simp only [Act.put, List.setIfInBounds_toArray, List.set_cons_zero, List.set_cons_succ])
  refine seqP_make _ (fun w w' v hR hV => by obtain ⟨h, h1, h2, h3, h4⟩ := hV; exact ⟨h, h1, h2, hR.soft _ h3, hR.cells _ h4⟩) (by first | rfl | simp) (fun w' hw' hctx => ?_) (fun v => ?_)
  · exact ⟨_, _, by go_simp; first | with_reducible rfl | rfl, KeepR.of_below (Below.allocs _ _) hw'.below.size, ⟨_, rfl, hw'.below.size, Soft.new _ _ _ _ _ _, ⟨_, _, _, _, Boxed.new _ _ _ _ _ _⟩⟩⟩
  simp only [Act.put, List.setIfInBounds_toArray, List.set_cons_zero, List.set_cons_succ]
  refine seqP_write 12 _ (by decide) (fun w w' v hR hV h hh => hR.same _ (hV h hh)) (by first | rfl | simp) (fun w' hw' hctx => ?_) (fun v' => ?_)
  · obtain ⟨h, rfl, h2, h3, h4⟩ : ∃ h, v = .pointer (some ⟨h, 0, none⟩) ∧ (v26).heap.size ≤ h ∧ Soft w' h ∧ Cells w' h := hctx.1
    have hk := KeepR.put (k := 2) (n := 0) (u := 0) (t := ⟨#[]⟩) h2 h4
    obtain ⟨x0, x1, x2, x3, hbx⟩ := h4
    have hbp := boxed_put4 hbx (2) (0) 0 ⟨#[]⟩
    obtain ⟨b0, b1, b2, b3, b4⟩ := hbx
    obtain ⟨s0, s1, s2, s3, s4⟩ := h3
    refine ⟨put4 w' h (2) (0) 0 ⟨#[]⟩, ?_, hk, fun h' hh' => ?_⟩
    · go_simp
      rfl
    · simp [upd] at hh'
      subst hh'
      exact hbp
  simp only [Act.put]
  refine seqP_value (KeepR.refl _ _ _ _ _) _ (by first | rfl | simp) (fun w' hw' hctx => ?_) ?_
  · go_simp
    try first | with_reducible rfl | simp
  simp only [Act.put, List.setIfInBounds_toArray, List.set_cons_zero, List.set_cons_succ]
  refine seqP_nil (fun v27 hR hctx => ?_)
  obtain ⟨g27, rfl, hg27, hs27, -⟩ : ∃ h, v = .pointer (some ⟨h, 0, none⟩) ∧ (v26).heap.size ≤ h ∧ Soft v27 h ∧ Cells v27 h := hctx.2.1
  have An : Boxed v27 g27 (2) (0) 0 ⟨#[]⟩ := hctx.1 g27 (by simp [upd])
  have hv27 := below_tr hd hR.below
  clear hctx hR hd hs27
  have P40 := P39.below hv27
  have Q40 := Q39.below hv27
  have O40 := O39.below hv27
  have hw40 := below_tr hw39 hv27
  clear P39 Q39 O39
  have A40 := An
  clear An hv27
  go_wp2_with fail
  have hd := below_drew v27
  refine wp_region_plan (KeepR (v27).heap.size 0 0 0 ⟨#[]⟩) [.it (.slice (some ⟨v2.heap.size, 0, none⟩) 3 3), .it (.int .i64 2), .it (.pointer (some ⟨v2.heap.size, 8, none⟩)), .it (.agg #[.int .u8 0, .int .i64 0, .int .i64 0, .string ⟨#[]⟩]), .it (.slice (some ⟨v2.heap.size, 0, none⟩) 3 3), .it (.int .i64 0), .it (.pointer (some ⟨v2.heap.size, 0, none⟩)), .it (.agg #[.int .u8 2, .int .i64 0, .int .i64 0, .string ⟨#[]⟩]), .it (.tuple #[.agg #[.int .u8 0, .int .i64 0, .int .i64 0, .string ⟨#[]⟩], .int .i64 0]), .it (.tuple #[.agg #[.int .u8 0, .int .i64 0, .int .i64 0, .string ⟨#[]⟩], .int .i64 0]), .it (.agg #[.int .u8 0, .int .i64 0, .int .i64 0, .string ⟨#[]⟩]), .it (.int .i64 0), .of (fun w v => ∃ h, v = .pointer (some ⟨h, 0, none⟩) ∧ (v27).heap.size ≤ h ∧ Soft w h ∧ Cells w h), .on 12 (fun p w _ => ∀ h, p = .pointer (some ⟨h, 0, none⟩) → Boxed w h 0 0 0 ⟨#[]⟩), .it (.int .i64 0)] (by kernel_rfl) (by kernel_rfl) (KeepR.refl _ _ _ _ _) KeepR.trans ?_
  iterate 3 (refine seqP_value (KeepR.refl _ _ _ _ _) _ (by first | rfl | simp) (fun w' hw' hctx => by (go_simp); (try first | with_reducible rfl | simp)) ?_; simp only [Act.put, List.setIfInBounds_toArray, List.set_cons_zero, List.set_cons_succ])
  refine seqP_value (KeepR.refl _ _ _ _ _) _ (by first | rfl | simp) (fun w' hw' hctx => ?_) ?_
  · obtain ⟨c0, c1, c2, c3, c4⟩ := O40.below (below_tr hd hw'.below)
    go_simp
    try first | with_reducible rfl | simp
  simp only [Act.put, List.setIfInBounds_toArray, List.set_cons_zero, List.set_cons_succ]
  iterate 3 (refine seqP_value (KeepR.refl _ _ _ _ _) _ (by first | rfl | simp) (fun w' hw' hctx => by (go_simp); (try first | with_reducible rfl | simp)) ?_; simp only [Act.put, List.setIfInBounds_toArray, List.set_cons_zero, List.set_cons_succ])
  refine seqP_value (KeepR.refl _ _ _ _ _) _ (by first | rfl | simp) (fun w' hw' hctx => ?_) ?_
  · obtain ⟨c0, c1, c2, c3, c4⟩ := P40.below (below_tr hd hw'.below)
    go_simp
    try first | with_reducible rfl | simp
  simp only [Act.put, List.setIfInBounds_toArray, List.set_cons_zero, List.set_cons_succ]
  refine seqP_call 24 #[.agg #[.int .u8 0, .int .i64 0, .int .i64 0, .string ⟨#[]⟩], .agg #[.int .u8 2, .int .i64 0, .int .i64 0, .string ⟨#[]⟩]] (.tuple #[.agg #[.int .u8 0, .int .i64 0, .int .i64 0, .string ⟨#[]⟩], .int .i64 0]) (by first | rfl | simp) (fun w' hw' hctx => ?_) (fun w' hw' hctx => (or_is 0 0 0 ⟨#[]⟩ 2 0 0 ⟨#[]⟩ ⟨0, 0, 0⟩ (by kernel_rfl) w').mono fun e w2 ⟨he, hb⟩ => ⟨he, KeepR.of_below hb hw'.below.size⟩) ?_
  · go_simp
  simp only [Act.put, List.setIfInBounds_toArray, List.set_cons_zero, List.set_cons_succ]
  iterate 3 (refine seqP_value (KeepR.refl _ _ _ _ _) _ (by first | rfl | simp) (fun w' hw' hctx => by (go_simp); (try first | with_reducible rfl | simp)) ?_; simp only [Act.put, List.setIfInBounds_toArray, List.set_cons_zero, List.set_cons_succ])
  refine seqP_make _ (fun w w' v hR hV => by obtain ⟨h, h1, h2, h3, h4⟩ := hV; exact ⟨h, h1, h2, hR.soft _ h3, hR.cells _ h4⟩) (by first | rfl | simp) (fun w' hw' hctx => ?_) (fun v => ?_)
  · exact ⟨_, _, by go_simp; first | with_reducible rfl | rfl, KeepR.of_below (Below.allocs _ _) hw'.below.size, ⟨_, rfl, hw'.below.size, Soft.new _ _ _ _ _ _, ⟨_, _, _, _, Boxed.new _ _ _ _ _ _⟩⟩⟩
  simp only [Act.put, List.setIfInBounds_toArray, List.set_cons_zero, List.set_cons_succ]
  refine seqP_write 12 _ (by decide) (fun w w' v hR hV h hh => hR.same _ (hV h hh)) (by first | rfl | simp) (fun w' hw' hctx => ?_) (fun v' => ?_)
  · obtain ⟨h, rfl, h2, h3, h4⟩ : ∃ h, v = .pointer (some ⟨h, 0, none⟩) ∧ (v27).heap.size ≤ h ∧ Soft w' h ∧ Cells w' h := hctx.1
    have hk := KeepR.put (k := 0) (n := 0) (u := 0) (t := ⟨#[]⟩) h2 h4
    obtain ⟨x0, x1, x2, x3, hbx⟩ := h4
    have hbp := boxed_put4 hbx (0) (0) 0 ⟨#[]⟩
    obtain ⟨b0, b1, b2, b3, b4⟩ := hbx
    obtain ⟨s0, s1, s2, s3, s4⟩ := h3
    refine ⟨put4 w' h (0) (0) 0 ⟨#[]⟩, ?_, hk, fun h' hh' => ?_⟩
    · go_simp
      rfl
    · simp [upd] at hh'
      subst hh'
      exact hbp
  simp only [Act.put]
  refine seqP_value (KeepR.refl _ _ _ _ _) _ (by first | rfl | simp) (fun w' hw' hctx => ?_) ?_
  · go_simp
    try first | with_reducible rfl | simp
  simp only [Act.put, List.setIfInBounds_toArray, List.set_cons_zero, List.set_cons_succ]
  refine seqP_nil (fun v28 hR hctx => ?_)
  obtain ⟨g28, rfl, hg28, hs28, -⟩ : ∃ h, v = .pointer (some ⟨h, 0, none⟩) ∧ (v27).heap.size ≤ h ∧ Soft v28 h ∧ Cells v28 h := hctx.2.1
  have Bn : Boxed v28 g28 (0) (0) 0 ⟨#[]⟩ := hctx.1 g28 (by simp [upd])
  have hv28 := below_tr hd hR.below
  clear hctx hR hd hs28
  have P41 := P40.below hv28
  have Q41 := Q40.below hv28
  have O41 := O40.below hv28
  have A41 := A40.below hv28
  have hw41 := below_tr hw40 hv28
  clear P40 Q40 O40 A40
  have B41 := Bn
  clear Bn hv28
  go_wp2_with fail
  have hn41 := Below.allocs v28 (.cells #[.int .i64 0, .int .i64 2, .int .i64 1] 35)
  have Hn := IntsAt.new v28 0 2 1 35
  have P42 := P41.below hn41
  have Q42 := Q41.below hn41
  have O42 := O41.below hn41
  have A42 := A41.below hn41
  have B42 := B41.below hn41
  have hw42 := below_tr hw41 hn41
  clear P41 Q41 O41 A41 B41
  have H42 := Hn
  clear Hn hn41
  have hd := below_drew (v28.alloc (.cells #[.int .i64 0, .int .i64 2, .int .i64 1] 35))
  refine wp_region_plan (fun w w' => Below w.heap.size w w') [.it (.int .i64 2), .it (.pointer (some ⟨v28.heap.size, 2, none⟩)), .it (.int .i64 1), .it (.int .i64 0), .it (.pointer (some ⟨v28.heap.size, 0, none⟩)), .it (.int .i64 0), .it (.int .i64 0), .it (.int .i64 2), .it (.pointer (some ⟨v28.heap.size, 2, none⟩)), .it (.int .i64 1), .it (.int .i64 0), .it (.pointer (some ⟨v28.heap.size, 0, none⟩)), .it (.int .i64 0), .it (.int .i64 1), .it (.int .i64 0), .it (.int .i64 1)] (by kernel_rfl) (by kernel_rfl) (fun w => Below.refl _ _) (fun _ _ _ => below_tr) ?_
  iterate 2 (refine seqP_value (fun w => Below.refl _ _) _ (by first | rfl | simp) (fun w' hw' hctx => by (go_simp); (try first | with_reducible rfl | simp)) ?_; simp only [Act.put, List.setIfInBounds_toArray, List.set_cons_zero, List.set_cons_succ])
  refine seqP_value (fun w => Below.refl _ _) _ (by first | rfl | simp) (fun w' hw' hctx => ?_) ?_
  · obtain ⟨c0, c1, c2, c3, c4⟩ := H42.below (below_tr hd hw')
    go_simp
    try first | with_reducible rfl | simp
  simp only [Act.put, List.setIfInBounds_toArray, List.set_cons_zero, List.set_cons_succ]
  iterate 2 (refine seqP_value (fun w => Below.refl _ _) _ (by first | rfl | simp) (fun w' hw' hctx => by (go_simp); (try first | with_reducible rfl | simp)) ?_; simp only [Act.put, List.setIfInBounds_toArray, List.set_cons_zero, List.set_cons_succ])
  refine seqP_value (fun w => Below.refl _ _) _ (by first | rfl | simp) (fun w' hw' hctx => ?_) ?_
  · obtain ⟨c0, c1, c2, c3, c4⟩ := H42.below (below_tr hd hw')
    go_simp
    try first | with_reducible rfl | simp
  simp only [Act.put, List.setIfInBounds_toArray, List.set_cons_zero, List.set_cons_succ]
  iterate 3 (refine seqP_value (fun w => Below.refl _ _) _ (by first | rfl | simp) (fun w' hw' hctx => by (go_simp); (try first | with_reducible rfl | simp)) ?_; simp only [Act.put, List.setIfInBounds_toArray, List.set_cons_zero, List.set_cons_succ])
  refine seqP_value (fun w => Below.refl _ _) _ (by first | rfl | simp) (fun w' hw' hctx => ?_) ?_
  · obtain ⟨c0, c1, c2, c3, c4⟩ := H42.below (below_tr hd hw')
    go_simp
    try first | with_reducible rfl | simp
  simp only [Act.put, List.setIfInBounds_toArray, List.set_cons_zero, List.set_cons_succ]
  iterate 2 (refine seqP_value (fun w => Below.refl _ _) _ (by first | rfl | simp) (fun w' hw' hctx => by (go_simp); (try first | with_reducible rfl | simp)) ?_; simp only [Act.put, List.setIfInBounds_toArray, List.set_cons_zero, List.set_cons_succ])
  refine seqP_value (fun w => Below.refl _ _) _ (by first | rfl | simp) (fun w' hw' hctx => ?_) ?_
  · obtain ⟨c0, c1, c2, c3, c4⟩ := H42.below (below_tr hd hw')
    go_simp
    try first | with_reducible rfl | simp
  simp only [Act.put, List.setIfInBounds_toArray, List.set_cons_zero, List.set_cons_succ]
  iterate 3 (refine seqP_value (fun w => Below.refl _ _) _ (by first | rfl | simp) (fun w' hw' hctx => by (go_simp); (try first | with_reducible rfl | simp)) ?_; simp only [Act.put, List.setIfInBounds_toArray, List.set_cons_zero, List.set_cons_succ])
  refine seqP_nil (fun v29 hR hctx => ?_)
  have hv29 := below_tr hd hR
  clear hctx hR hd
  have P43 := P42.below hv29
  have Q43 := Q42.below hv29
  have O43 := O42.below hv29
  have A43 := A42.below hv29
  have B43 := B42.below hv29
  have H43 := H42.below hv29
  have hw43 := below_tr hw42 hv29
  clear P42 Q42 O42 A42 B42 H42
  clear hv29
  clear H43
  go_wp2_with fail
  have hn43 := Below.allocs v29 (.cells #[.int .i64 0, .int .i64 2, .int .i64 1] 35)
  have Jn := IntsAt.new v29 0 2 1 35
  have P44 := P43.below hn43
  have Q44 := Q43.below hn43
  have O44 := O43.below hn43
  have A44 := A43.below hn43
  have B44 := B43.below hn43
  have hw44 := below_tr hw43 hn43
  clear P43 Q43 O43 A43 B43
  have J44 := Jn
  clear Jn hn43
  have hd := below_drew (v29.alloc (.cells #[.int .i64 0, .int .i64 2, .int .i64 1] 35))
  refine wp_region_plan (fun w w' => Below w.heap.size w w') [.it (.int .i64 0), .it (.bool false), .it (.bool false), .it (.int .i64 0), .it (.bool false), .it (.bool false), .it (.bool false), .it (.agg #[.int .u8 2, .int .i64 0, .int .i64 0, .string ⟨#[]⟩]), .it (.slice (some ⟨v2.heap.size, 0, none⟩) 3 3), .it (.int .i64 0), .it (.pointer (some ⟨v29.heap.size, 0, none⟩)), .it (.int .i64 0), .it (.pointer (some ⟨v2.heap.size, 0, none⟩)), .it (.agg #[.int .u8 2, .int .i64 0, .int .i64 0, .string ⟨#[]⟩]), .it (.bool false), .it (.bool false), .it (.bool false), .it (.agg #[.int .u8 0, .int .i64 0, .int .i64 0, .string ⟨#[]⟩]), .it (.slice (some ⟨v2.heap.size, 0, none⟩) 3 3), .it (.int .i64 1), .it (.pointer (some ⟨v29.heap.size, 1, none⟩)), .it (.int .i64 2), .it (.pointer (some ⟨v2.heap.size, 8, none⟩)), .it (.agg #[.int .u8 0, .int .i64 0, .int .i64 0, .string ⟨#[]⟩]), .it (.bool false), .it (.bool false)] (by kernel_rfl) (by kernel_rfl) (fun w => Below.refl _ _) (fun _ _ _ => below_tr) ?_
  iterate 7 (refine seqP_value (fun w => Below.refl _ _) _ (by first | rfl | simp) (fun w' hw' hctx => by (go_simp); (try first | with_reducible rfl | simp)) ?_; simp only [Act.put, List.setIfInBounds_toArray, List.set_cons_zero, List.set_cons_succ])
  refine seqP_value (fun w => Below.refl _ _) _ (by first | rfl | simp) (fun w' hw' hctx => ?_) ?_
  · obtain ⟨c0, c1, c2, c3, c4⟩ := A44.below (below_tr hd hw')
    go_simp
    try first | with_reducible rfl | simp
  simp only [Act.put, List.setIfInBounds_toArray, List.set_cons_zero, List.set_cons_succ]
  iterate 3 (refine seqP_value (fun w => Below.refl _ _) _ (by first | rfl | simp) (fun w' hw' hctx => by (go_simp); (try first | with_reducible rfl | simp)) ?_; simp only [Act.put, List.setIfInBounds_toArray, List.set_cons_zero, List.set_cons_succ])
  refine seqP_value (fun w => Below.refl _ _) _ (by first | rfl | simp) (fun w' hw' hctx => ?_) ?_
  · obtain ⟨c0, c1, c2, c3, c4⟩ := J44.below (below_tr hd hw')
    go_simp
    try first | with_reducible rfl | simp
  simp only [Act.put, List.setIfInBounds_toArray, List.set_cons_zero, List.set_cons_succ]
  refine seqP_value (fun w => Below.refl _ _) _ (by first | rfl | simp) (fun w' hw' hctx => ?_) ?_
  · go_simp
    try first | with_reducible rfl | simp
  simp only [Act.put, List.setIfInBounds_toArray, List.set_cons_zero, List.set_cons_succ]
  refine seqP_value (fun w => Below.refl _ _) _ (by first | rfl | simp) (fun w' hw' hctx => ?_) ?_
  · obtain ⟨c0, c1, c2, c3, c4⟩ := P44.below (below_tr hd hw')
    go_simp
    try first | with_reducible rfl | simp
  simp only [Act.put, List.setIfInBounds_toArray, List.set_cons_zero, List.set_cons_succ]
  iterate 3 (refine seqP_value (fun w => Below.refl _ _) _ (by first | rfl | simp) (fun w' hw' hctx => by (go_simp); (try first | with_reducible rfl | simp)) ?_; simp only [Act.put, List.setIfInBounds_toArray, List.set_cons_zero, List.set_cons_succ])
  refine seqP_value (fun w => Below.refl _ _) _ (by first | rfl | simp) (fun w' hw' hctx => ?_) ?_
  · obtain ⟨c0, c1, c2, c3, c4⟩ := B44.below (below_tr hd hw')
    go_simp
    try first | with_reducible rfl | simp
  simp only [Act.put, List.setIfInBounds_toArray, List.set_cons_zero, List.set_cons_succ]
  iterate 3 (refine seqP_value (fun w => Below.refl _ _) _ (by first | rfl | simp) (fun w' hw' hctx => by (go_simp); (try first | with_reducible rfl | simp)) ?_; simp only [Act.put, List.setIfInBounds_toArray, List.set_cons_zero, List.set_cons_succ])
  refine seqP_value (fun w => Below.refl _ _) _ (by first | rfl | simp) (fun w' hw' hctx => ?_) ?_
  · obtain ⟨c0, c1, c2, c3, c4⟩ := J44.below (below_tr hd hw')
    go_simp
    try first | with_reducible rfl | simp
  simp only [Act.put, List.setIfInBounds_toArray, List.set_cons_zero, List.set_cons_succ]
  refine seqP_value (fun w => Below.refl _ _) _ (by first | rfl | simp) (fun w' hw' hctx => ?_) ?_
  · go_simp
    try first | with_reducible rfl | simp
  simp only [Act.put, List.setIfInBounds_toArray, List.set_cons_zero, List.set_cons_succ]
  refine seqP_value (fun w => Below.refl _ _) _ (by first | rfl | simp) (fun w' hw' hctx => ?_) ?_
  · obtain ⟨c0, c1, c2, c3, c4⟩ := O44.below (below_tr hd hw')
    go_simp
    try first | with_reducible rfl | simp
  simp only [Act.put, List.setIfInBounds_toArray, List.set_cons_zero, List.set_cons_succ]
  iterate 2 (refine seqP_value (fun w => Below.refl _ _) _ (by first | rfl | simp) (fun w' hw' hctx => by (go_simp); (try first | with_reducible rfl | simp)) ?_; simp only [Act.put, List.setIfInBounds_toArray, List.set_cons_zero, List.set_cons_succ])
  refine seqP_nil (fun v30 hR hctx => ?_)
  have hv30 := below_tr hd hR
  clear hctx hR hd
  have P45 := P44.below hv30
  have Q45 := Q44.below hv30
  have O45 := O44.below hv30
  have A45 := A44.below hv30
  have B45 := B44.below hv30
  have J45 := J44.below hv30
  have hw45 := below_tr hw44 hv30
  clear P44 Q44 O44 A44 B44 J44
  clear hv30
  clear A45
  clear B45
  clear J45
  have p' := P45
  obtain ⟨p0, p1, p2, p3, p4⟩ := p'
  have q' := Q45
  obtain ⟨q0, q1, q2, q3, q4⟩ := q'
  have o' := O45
  obtain ⟨o0, o1, o2, o3, o4⟩ := o'
  go_wp2_with fail
  clear p0 p1 p2 p3 p4 q0 q1 q2 q3 q4 o0 o1 o2 o3 o4
  rw [rounds_succ]
  go_wp2_with fail
  have hd := below_drew v30
  refine wp_region_plan (KeepR (v30).heap.size 0 0 0 ⟨#[]⟩) [.it (.slice (some ⟨v2.heap.size, 0, none⟩) 3 3), .it (.int .i64 2), .it (.pointer (some ⟨v2.heap.size, 8, none⟩)), .it (.agg #[.int .u8 0, .int .i64 0, .int .i64 0, .string ⟨#[]⟩]), .it (.slice (some ⟨v2.heap.size, 0, none⟩) 3 3), .it (.int .i64 1), .it (.pointer (some ⟨v2.heap.size, 4, none⟩)), .it (.agg #[.int .u8 2, .int .i64 1, .int .i64 0, .string ⟨#[]⟩]), .it (.tuple #[.agg #[.int .u8 0, .int .i64 0, .int .i64 0, .string ⟨#[]⟩], .int .i64 0]), .it (.tuple #[.agg #[.int .u8 0, .int .i64 0, .int .i64 0, .string ⟨#[]⟩], .int .i64 0]), .it (.agg #[.int .u8 0, .int .i64 0, .int .i64 0, .string ⟨#[]⟩]), .it (.int .i64 0), .of (fun w v => ∃ h, v = .pointer (some ⟨h, 0, none⟩) ∧ (v30).heap.size ≤ h ∧ Soft w h ∧ Cells w h), .on 12 (fun p w _ => ∀ h, p = .pointer (some ⟨h, 0, none⟩) → Boxed w h 0 0 0 ⟨#[]⟩), .it (.int .i64 0)] (by kernel_rfl) (by kernel_rfl) (KeepR.refl _ _ _ _ _) KeepR.trans ?_
  iterate 3 (refine seqP_value (KeepR.refl _ _ _ _ _) _ (by first | rfl | simp) (fun w' hw' hctx => by (go_simp); (try first | with_reducible rfl | simp)) ?_; simp only [Act.put, List.setIfInBounds_toArray, List.set_cons_zero, List.set_cons_succ])
  refine seqP_value (KeepR.refl _ _ _ _ _) _ (by first | rfl | simp) (fun w' hw' hctx => ?_) ?_
  · obtain ⟨c0, c1, c2, c3, c4⟩ := O45.below (below_tr hd hw'.below)
    go_simp
    try first | with_reducible rfl | simp
  simp only [Act.put, List.setIfInBounds_toArray, List.set_cons_zero, List.set_cons_succ]
  iterate 3 (refine seqP_value (KeepR.refl _ _ _ _ _) _ (by first | rfl | simp) (fun w' hw' hctx => by (go_simp); (try first | with_reducible rfl | simp)) ?_; simp only [Act.put, List.setIfInBounds_toArray, List.set_cons_zero, List.set_cons_succ])
  refine seqP_value (KeepR.refl _ _ _ _ _) _ (by first | rfl | simp) (fun w' hw' hctx => ?_) ?_
  · obtain ⟨c0, c1, c2, c3, c4⟩ := Q45.below (below_tr hd hw'.below)
    go_simp
    try first | with_reducible rfl | simp
  simp only [Act.put, List.setIfInBounds_toArray, List.set_cons_zero, List.set_cons_succ]
  refine seqP_call 22 #[.agg #[.int .u8 0, .int .i64 0, .int .i64 0, .string ⟨#[]⟩], .agg #[.int .u8 2, .int .i64 1, .int .i64 0, .string ⟨#[]⟩]] (.tuple #[.agg #[.int .u8 0, .int .i64 0, .int .i64 0, .string ⟨#[]⟩], .int .i64 0]) (by first | rfl | simp) (fun w' hw' hctx => ?_) (fun w' hw' hctx => (and_is 0 0 0 ⟨#[]⟩ 2 1 0 ⟨#[]⟩ ⟨0, 0, 0⟩ (by kernel_rfl) w').mono fun e w2 ⟨he, hb⟩ => ⟨he, KeepR.of_below hb hw'.below.size⟩) ?_
  · go_simp
  simp only [Act.put, List.setIfInBounds_toArray, List.set_cons_zero, List.set_cons_succ]
  iterate 3 (refine seqP_value (KeepR.refl _ _ _ _ _) _ (by first | rfl | simp) (fun w' hw' hctx => by (go_simp); (try first | with_reducible rfl | simp)) ?_; simp only [Act.put, List.setIfInBounds_toArray, List.set_cons_zero, List.set_cons_succ])
  refine seqP_make _ (fun w w' v hR hV => by obtain ⟨h, h1, h2, h3, h4⟩ := hV; exact ⟨h, h1, h2, hR.soft _ h3, hR.cells _ h4⟩) (by first | rfl | simp) (fun w' hw' hctx => ?_) (fun v => ?_)
  · exact ⟨_, _, by go_simp; first | with_reducible rfl | rfl, KeepR.of_below (Below.allocs _ _) hw'.below.size, ⟨_, rfl, hw'.below.size, Soft.new _ _ _ _ _ _, ⟨_, _, _, _, Boxed.new _ _ _ _ _ _⟩⟩⟩
  simp only [Act.put, List.setIfInBounds_toArray, List.set_cons_zero, List.set_cons_succ]
  refine seqP_write 12 _ (by decide) (fun w w' v hR hV h hh => hR.same _ (hV h hh)) (by first | rfl | simp) (fun w' hw' hctx => ?_) (fun v' => ?_)
  · obtain ⟨h, rfl, h2, h3, h4⟩ : ∃ h, v = .pointer (some ⟨h, 0, none⟩) ∧ (v30).heap.size ≤ h ∧ Soft w' h ∧ Cells w' h := hctx.1
    have hk := KeepR.put (k := 0) (n := 0) (u := 0) (t := ⟨#[]⟩) h2 h4
    obtain ⟨x0, x1, x2, x3, hbx⟩ := h4
    have hbp := boxed_put4 hbx (0) (0) 0 ⟨#[]⟩
    obtain ⟨b0, b1, b2, b3, b4⟩ := hbx
    obtain ⟨s0, s1, s2, s3, s4⟩ := h3
    refine ⟨put4 w' h (0) (0) 0 ⟨#[]⟩, ?_, hk, fun h' hh' => ?_⟩
    · go_simp
      rfl
    · simp [upd] at hh'
      subst hh'
      exact hbp
  simp only [Act.put]
  refine seqP_value (KeepR.refl _ _ _ _ _) _ (by first | rfl | simp) (fun w' hw' hctx => ?_) ?_
  · go_simp
    try first | with_reducible rfl | simp
  simp only [Act.put, List.setIfInBounds_toArray, List.set_cons_zero, List.set_cons_succ]
  refine seqP_nil (fun v31 hR hctx => ?_)
  obtain ⟨g31, rfl, hg31, hs31, -⟩ : ∃ h, v = .pointer (some ⟨h, 0, none⟩) ∧ (v30).heap.size ≤ h ∧ Soft v31 h ∧ Cells v31 h := hctx.2.1
  have An : Boxed v31 g31 (0) (0) 0 ⟨#[]⟩ := hctx.1 g31 (by simp [upd])
  have hv31 := below_tr hd hR.below
  clear hctx hR hd hs31
  have P46 := P45.below hv31
  have Q46 := Q45.below hv31
  have O46 := O45.below hv31
  have hw46 := below_tr hw45 hv31
  clear P45 Q45 O45
  have A46 := An
  clear An hv31
  go_wp2_with fail
  have hd := below_drew v31
  refine wp_region_plan (KeepR (v31).heap.size 2 1 0 ⟨#[]⟩) [.it (.slice (some ⟨v2.heap.size, 0, none⟩) 3 3), .it (.int .i64 2), .it (.pointer (some ⟨v2.heap.size, 8, none⟩)), .it (.agg #[.int .u8 0, .int .i64 0, .int .i64 0, .string ⟨#[]⟩]), .it (.slice (some ⟨v2.heap.size, 0, none⟩) 3 3), .it (.int .i64 1), .it (.pointer (some ⟨v2.heap.size, 4, none⟩)), .it (.agg #[.int .u8 2, .int .i64 1, .int .i64 0, .string ⟨#[]⟩]), .it (.tuple #[.agg #[.int .u8 2, .int .i64 1, .int .i64 0, .string ⟨#[]⟩], .int .i64 0]), .it (.tuple #[.agg #[.int .u8 2, .int .i64 1, .int .i64 0, .string ⟨#[]⟩], .int .i64 0]), .it (.agg #[.int .u8 2, .int .i64 1, .int .i64 0, .string ⟨#[]⟩]), .it (.int .i64 0), .of (fun w v => ∃ h, v = .pointer (some ⟨h, 0, none⟩) ∧ (v31).heap.size ≤ h ∧ Soft w h ∧ Cells w h), .on 12 (fun p w _ => ∀ h, p = .pointer (some ⟨h, 0, none⟩) → Boxed w h 2 1 0 ⟨#[]⟩), .it (.int .i64 0)] (by kernel_rfl) (by kernel_rfl) (KeepR.refl _ _ _ _ _) KeepR.trans ?_
  iterate 3 (refine seqP_value (KeepR.refl _ _ _ _ _) _ (by first | rfl | simp) (fun w' hw' hctx => by (go_simp); (try first | with_reducible rfl | simp)) ?_; simp only [Act.put, List.setIfInBounds_toArray, List.set_cons_zero, List.set_cons_succ])
  refine seqP_value (KeepR.refl _ _ _ _ _) _ (by first | rfl | simp) (fun w' hw' hctx => ?_) ?_
  · obtain ⟨c0, c1, c2, c3, c4⟩ := O46.below (below_tr hd hw'.below)
    go_simp
    try first | with_reducible rfl | simp
  simp only [Act.put, List.setIfInBounds_toArray, List.set_cons_zero, List.set_cons_succ]
  iterate 3 (refine seqP_value (KeepR.refl _ _ _ _ _) _ (by first | rfl | simp) (fun w' hw' hctx => by (go_simp); (try first | with_reducible rfl | simp)) ?_; simp only [Act.put, List.setIfInBounds_toArray, List.set_cons_zero, List.set_cons_succ])
  refine seqP_value (KeepR.refl _ _ _ _ _) _ (by first | rfl | simp) (fun w' hw' hctx => ?_) ?_
  · obtain ⟨c0, c1, c2, c3, c4⟩ := Q46.below (below_tr hd hw'.below)
    go_simp
    try first | with_reducible rfl | simp
  simp only [Act.put, List.setIfInBounds_toArray, List.set_cons_zero, List.set_cons_succ]
  refine seqP_call 24 #[.agg #[.int .u8 0, .int .i64 0, .int .i64 0, .string ⟨#[]⟩], .agg #[.int .u8 2, .int .i64 1, .int .i64 0, .string ⟨#[]⟩]] (.tuple #[.agg #[.int .u8 2, .int .i64 1, .int .i64 0, .string ⟨#[]⟩], .int .i64 0]) (by first | rfl | simp) (fun w' hw' hctx => ?_) (fun w' hw' hctx => (or_is 0 0 0 ⟨#[]⟩ 2 1 0 ⟨#[]⟩ ⟨2, 1, 0⟩ (by kernel_rfl) w').mono fun e w2 ⟨he, hb⟩ => ⟨he, KeepR.of_below hb hw'.below.size⟩) ?_
  · go_simp
  simp only [Act.put, List.setIfInBounds_toArray, List.set_cons_zero, List.set_cons_succ]
  iterate 3 (refine seqP_value (KeepR.refl _ _ _ _ _) _ (by first | rfl | simp) (fun w' hw' hctx => by (go_simp); (try first | with_reducible rfl | simp)) ?_; simp only [Act.put, List.setIfInBounds_toArray, List.set_cons_zero, List.set_cons_succ])
  refine seqP_make _ (fun w w' v hR hV => by obtain ⟨h, h1, h2, h3, h4⟩ := hV; exact ⟨h, h1, h2, hR.soft _ h3, hR.cells _ h4⟩) (by first | rfl | simp) (fun w' hw' hctx => ?_) (fun v => ?_)
  · exact ⟨_, _, by go_simp; first | with_reducible rfl | rfl, KeepR.of_below (Below.allocs _ _) hw'.below.size, ⟨_, rfl, hw'.below.size, Soft.new _ _ _ _ _ _, ⟨_, _, _, _, Boxed.new _ _ _ _ _ _⟩⟩⟩
  simp only [Act.put, List.setIfInBounds_toArray, List.set_cons_zero, List.set_cons_succ]
  refine seqP_write 12 _ (by decide) (fun w w' v hR hV h hh => hR.same _ (hV h hh)) (by first | rfl | simp) (fun w' hw' hctx => ?_) (fun v' => ?_)
  · obtain ⟨h, rfl, h2, h3, h4⟩ : ∃ h, v = .pointer (some ⟨h, 0, none⟩) ∧ (v31).heap.size ≤ h ∧ Soft w' h ∧ Cells w' h := hctx.1
    have hk := KeepR.put (k := 2) (n := 1) (u := 0) (t := ⟨#[]⟩) h2 h4
    obtain ⟨x0, x1, x2, x3, hbx⟩ := h4
    have hbp := boxed_put4 hbx (2) (1) 0 ⟨#[]⟩
    obtain ⟨b0, b1, b2, b3, b4⟩ := hbx
    obtain ⟨s0, s1, s2, s3, s4⟩ := h3
    refine ⟨put4 w' h (2) (1) 0 ⟨#[]⟩, ?_, hk, fun h' hh' => ?_⟩
    · go_simp
      rfl
    · simp [upd] at hh'
      subst hh'
      exact hbp
  simp only [Act.put]
  refine seqP_value (KeepR.refl _ _ _ _ _) _ (by first | rfl | simp) (fun w' hw' hctx => ?_) ?_
  · go_simp
    try first | with_reducible rfl | simp
  simp only [Act.put, List.setIfInBounds_toArray, List.set_cons_zero, List.set_cons_succ]
  refine seqP_nil (fun v32 hR hctx => ?_)
  obtain ⟨g32, rfl, hg32, hs32, -⟩ : ∃ h, v = .pointer (some ⟨h, 0, none⟩) ∧ (v31).heap.size ≤ h ∧ Soft v32 h ∧ Cells v32 h := hctx.2.1
  have Bn : Boxed v32 g32 (2) (1) 0 ⟨#[]⟩ := hctx.1 g32 (by simp [upd])
  have hv32 := below_tr hd hR.below
  clear hctx hR hd hs32
  have P47 := P46.below hv32
  have Q47 := Q46.below hv32
  have O47 := O46.below hv32
  have A47 := A46.below hv32
  have hw47 := below_tr hw46 hv32
  clear P46 Q46 O46 A46
  have B47 := Bn
  clear Bn hv32
  go_wp2_with fail
  have hn47 := Below.allocs v32 (.cells #[.int .i64 0, .int .i64 2, .int .i64 1] 35)
  have Hn := IntsAt.new v32 0 2 1 35
  have P48 := P47.below hn47
  have Q48 := Q47.below hn47
  have O48 := O47.below hn47
  have A48 := A47.below hn47
  have B48 := B47.below hn47
  have hw48 := below_tr hw47 hn47
  clear P47 Q47 O47 A47 B47
  have H48 := Hn
  clear Hn hn47
  have hd := below_drew (v32.alloc (.cells #[.int .i64 0, .int .i64 2, .int .i64 1] 35))
  refine wp_region_plan (fun w w' => Below w.heap.size w w') [.it (.int .i64 2), .it (.pointer (some ⟨v32.heap.size, 2, none⟩)), .it (.int .i64 1), .it (.int .i64 1), .it (.pointer (some ⟨v32.heap.size, 1, none⟩)), .it (.int .i64 2), .it (.int .i64 1), .it (.int .i64 2), .it (.pointer (some ⟨v32.heap.size, 2, none⟩)), .it (.int .i64 1), .it (.int .i64 1), .it (.pointer (some ⟨v32.heap.size, 1, none⟩)), .it (.int .i64 2), .it (.int .i64 2), .it (.int .i64 1), .it (.int .i64 2)] (by kernel_rfl) (by kernel_rfl) (fun w => Below.refl _ _) (fun _ _ _ => below_tr) ?_
  iterate 2 (refine seqP_value (fun w => Below.refl _ _) _ (by first | rfl | simp) (fun w' hw' hctx => by (go_simp); (try first | with_reducible rfl | simp)) ?_; simp only [Act.put, List.setIfInBounds_toArray, List.set_cons_zero, List.set_cons_succ])
  refine seqP_value (fun w => Below.refl _ _) _ (by first | rfl | simp) (fun w' hw' hctx => ?_) ?_
  · obtain ⟨c0, c1, c2, c3, c4⟩ := H48.below (below_tr hd hw')
    go_simp
    try first | with_reducible rfl | simp
  simp only [Act.put, List.setIfInBounds_toArray, List.set_cons_zero, List.set_cons_succ]
  iterate 2 (refine seqP_value (fun w => Below.refl _ _) _ (by first | rfl | simp) (fun w' hw' hctx => by (go_simp); (try first | with_reducible rfl | simp)) ?_; simp only [Act.put, List.setIfInBounds_toArray, List.set_cons_zero, List.set_cons_succ])
  refine seqP_value (fun w => Below.refl _ _) _ (by first | rfl | simp) (fun w' hw' hctx => ?_) ?_
  · obtain ⟨c0, c1, c2, c3, c4⟩ := H48.below (below_tr hd hw')
    go_simp
    try first | with_reducible rfl | simp
  simp only [Act.put, List.setIfInBounds_toArray, List.set_cons_zero, List.set_cons_succ]
  iterate 3 (refine seqP_value (fun w => Below.refl _ _) _ (by first | rfl | simp) (fun w' hw' hctx => by (go_simp); (try first | with_reducible rfl | simp)) ?_; simp only [Act.put, List.setIfInBounds_toArray, List.set_cons_zero, List.set_cons_succ])
  refine seqP_value (fun w => Below.refl _ _) _ (by first | rfl | simp) (fun w' hw' hctx => ?_) ?_
  · obtain ⟨c0, c1, c2, c3, c4⟩ := H48.below (below_tr hd hw')
    go_simp
    try first | with_reducible rfl | simp
  simp only [Act.put, List.setIfInBounds_toArray, List.set_cons_zero, List.set_cons_succ]
  iterate 2 (refine seqP_value (fun w => Below.refl _ _) _ (by first | rfl | simp) (fun w' hw' hctx => by (go_simp); (try first | with_reducible rfl | simp)) ?_; simp only [Act.put, List.setIfInBounds_toArray, List.set_cons_zero, List.set_cons_succ])
  refine seqP_value (fun w => Below.refl _ _) _ (by first | rfl | simp) (fun w' hw' hctx => ?_) ?_
  · obtain ⟨c0, c1, c2, c3, c4⟩ := H48.below (below_tr hd hw')
    go_simp
    try first | with_reducible rfl | simp
  simp only [Act.put, List.setIfInBounds_toArray, List.set_cons_zero, List.set_cons_succ]
  iterate 3 (refine seqP_value (fun w => Below.refl _ _) _ (by first | rfl | simp) (fun w' hw' hctx => by (go_simp); (try first | with_reducible rfl | simp)) ?_; simp only [Act.put, List.setIfInBounds_toArray, List.set_cons_zero, List.set_cons_succ])
  refine seqP_nil (fun v33 hR hctx => ?_)
  have hv33 := below_tr hd hR
  clear hctx hR hd
  have P49 := P48.below hv33
  have Q49 := Q48.below hv33
  have O49 := O48.below hv33
  have A49 := A48.below hv33
  have B49 := B48.below hv33
  have H49 := H48.below hv33
  have hw49 := below_tr hw48 hv33
  clear P48 Q48 O48 A48 B48 H48
  clear hv33
  clear H49
  go_wp2_with fail
  have hn49 := Below.allocs v33 (.cells #[.int .i64 0, .int .i64 2, .int .i64 1] 35)
  have Jn := IntsAt.new v33 0 2 1 35
  have P50 := P49.below hn49
  have Q50 := Q49.below hn49
  have O50 := O49.below hn49
  have A50 := A49.below hn49
  have B50 := B49.below hn49
  have hw50 := below_tr hw49 hn49
  clear P49 Q49 O49 A49 B49
  have J50 := Jn
  clear Jn hn49
  have hd := below_drew (v33.alloc (.cells #[.int .i64 0, .int .i64 2, .int .i64 1] 35))
  refine wp_region_plan (fun w w' => Below w.heap.size w w') [.it (.int .i64 0), .it (.bool false), .it (.bool false), .it (.int .i64 0), .it (.bool false), .it (.bool false), .it (.bool false), .it (.agg #[.int .u8 0, .int .i64 0, .int .i64 0, .string ⟨#[]⟩]), .it (.slice (some ⟨v2.heap.size, 0, none⟩) 3 3), .it (.int .i64 1), .it (.pointer (some ⟨v33.heap.size, 1, none⟩)), .it (.int .i64 2), .it (.pointer (some ⟨v2.heap.size, 8, none⟩)), .it (.agg #[.int .u8 0, .int .i64 0, .int .i64 0, .string ⟨#[]⟩]), .it (.bool false), .it (.bool false), .it (.bool false), .it (.agg #[.int .u8 2, .int .i64 1, .int .i64 0, .string ⟨#[]⟩]), .it (.slice (some ⟨v2.heap.size, 0, none⟩) 3 3), .it (.int .i64 2), .it (.pointer (some ⟨v33.heap.size, 2, none⟩)), .it (.int .i64 1), .it (.pointer (some ⟨v2.heap.size, 4, none⟩)), .it (.agg #[.int .u8 2, .int .i64 1, .int .i64 0, .string ⟨#[]⟩]), .it (.bool false), .it (.bool false)] (by kernel_rfl) (by kernel_rfl) (fun w => Below.refl _ _) (fun _ _ _ => below_tr) ?_
  iterate 7 (refine seqP_value (fun w => Below.refl _ _) _ (by first | rfl | simp) (fun w' hw' hctx => by (go_simp); (try first | with_reducible rfl | simp)) ?_; simp only [Act.put, List.setIfInBounds_toArray, List.set_cons_zero, List.set_cons_succ])
  refine seqP_value (fun w => Below.refl _ _) _ (by first | rfl | simp) (fun w' hw' hctx => ?_) ?_
  · obtain ⟨c0, c1, c2, c3, c4⟩ := A50.below (below_tr hd hw')
    go_simp
    try first | with_reducible rfl | simp
  simp only [Act.put, List.setIfInBounds_toArray, List.set_cons_zero, List.set_cons_succ]
  iterate 3 (refine seqP_value (fun w => Below.refl _ _) _ (by first | rfl | simp) (fun w' hw' hctx => by (go_simp); (try first | with_reducible rfl | simp)) ?_; simp only [Act.put, List.setIfInBounds_toArray, List.set_cons_zero, List.set_cons_succ])
  refine seqP_value (fun w => Below.refl _ _) _ (by first | rfl | simp) (fun w' hw' hctx => ?_) ?_
  · obtain ⟨c0, c1, c2, c3, c4⟩ := J50.below (below_tr hd hw')
    go_simp
    try first | with_reducible rfl | simp
  simp only [Act.put, List.setIfInBounds_toArray, List.set_cons_zero, List.set_cons_succ]
  refine seqP_value (fun w => Below.refl _ _) _ (by first | rfl | simp) (fun w' hw' hctx => ?_) ?_
  · go_simp
    try first | with_reducible rfl | simp
  simp only [Act.put, List.setIfInBounds_toArray, List.set_cons_zero, List.set_cons_succ]
  refine seqP_value (fun w => Below.refl _ _) _ (by first | rfl | simp) (fun w' hw' hctx => ?_) ?_
  · obtain ⟨c0, c1, c2, c3, c4⟩ := O50.below (below_tr hd hw')
    go_simp
    try first | with_reducible rfl | simp
  simp only [Act.put, List.setIfInBounds_toArray, List.set_cons_zero, List.set_cons_succ]
  iterate 3 (refine seqP_value (fun w => Below.refl _ _) _ (by first | rfl | simp) (fun w' hw' hctx => by (go_simp); (try first | with_reducible rfl | simp)) ?_; simp only [Act.put, List.setIfInBounds_toArray, List.set_cons_zero, List.set_cons_succ])
  refine seqP_value (fun w => Below.refl _ _) _ (by first | rfl | simp) (fun w' hw' hctx => ?_) ?_
  · obtain ⟨c0, c1, c2, c3, c4⟩ := B50.below (below_tr hd hw')
    go_simp
    try first | with_reducible rfl | simp
  simp only [Act.put, List.setIfInBounds_toArray, List.set_cons_zero, List.set_cons_succ]
  iterate 3 (refine seqP_value (fun w => Below.refl _ _) _ (by first | rfl | simp) (fun w' hw' hctx => by (go_simp); (try first | with_reducible rfl | simp)) ?_; simp only [Act.put, List.setIfInBounds_toArray, List.set_cons_zero, List.set_cons_succ])
  refine seqP_value (fun w => Below.refl _ _) _ (by first | rfl | simp) (fun w' hw' hctx => ?_) ?_
  · obtain ⟨c0, c1, c2, c3, c4⟩ := J50.below (below_tr hd hw')
    go_simp
    try first | with_reducible rfl | simp
  simp only [Act.put, List.setIfInBounds_toArray, List.set_cons_zero, List.set_cons_succ]
  refine seqP_value (fun w => Below.refl _ _) _ (by first | rfl | simp) (fun w' hw' hctx => ?_) ?_
  · go_simp
    try first | with_reducible rfl | simp
  simp only [Act.put, List.setIfInBounds_toArray, List.set_cons_zero, List.set_cons_succ]
  refine seqP_value (fun w => Below.refl _ _) _ (by first | rfl | simp) (fun w' hw' hctx => ?_) ?_
  · obtain ⟨c0, c1, c2, c3, c4⟩ := Q50.below (below_tr hd hw')
    go_simp
    try first | with_reducible rfl | simp
  simp only [Act.put, List.setIfInBounds_toArray, List.set_cons_zero, List.set_cons_succ]
  iterate 2 (refine seqP_value (fun w => Below.refl _ _) _ (by first | rfl | simp) (fun w' hw' hctx => by (go_simp); (try first | with_reducible rfl | simp)) ?_; simp only [Act.put, List.setIfInBounds_toArray, List.set_cons_zero, List.set_cons_succ])
  refine seqP_nil (fun v34 hR hctx => ?_)
  have hv34 := below_tr hd hR
  clear hctx hR hd
  have P51 := P50.below hv34
  have Q51 := Q50.below hv34
  have O51 := O50.below hv34
  have A51 := A50.below hv34
  have B51 := B50.below hv34
  have J51 := J50.below hv34
  have hw51 := below_tr hw50 hv34
  clear P50 Q50 O50 A50 B50 J50
  clear hv34
  clear A51
  clear B51
  clear J51
  have p' := P51
  obtain ⟨p0, p1, p2, p3, p4⟩ := p'
  have q' := Q51
  obtain ⟨q0, q1, q2, q3, q4⟩ := q'
  have o' := O51
  obtain ⟨o0, o1, o2, o3, o4⟩ := o'
  go_wp2_with fail
  clear p0 p1 p2 p3 p4 q0 q1 q2 q3 q4 o0 o1 o2 o3 o4
  rw [rounds_succ]
  go_wp2_with fail
  have hd := below_drew v34
  refine wp_region_plan (KeepR (v34).heap.size 0 0 0 ⟨#[]⟩) [.it (.slice (some ⟨v2.heap.size, 0, none⟩) 3 3), .it (.int .i64 2), .it (.pointer (some ⟨v2.heap.size, 8, none⟩)), .it (.agg #[.int .u8 0, .int .i64 0, .int .i64 0, .string ⟨#[]⟩]), .it (.slice (some ⟨v2.heap.size, 0, none⟩) 3 3), .it (.int .i64 2), .it (.pointer (some ⟨v2.heap.size, 8, none⟩)), .it (.agg #[.int .u8 0, .int .i64 0, .int .i64 0, .string ⟨#[]⟩]), .it (.tuple #[.agg #[.int .u8 0, .int .i64 0, .int .i64 0, .string ⟨#[]⟩], .int .i64 0]), .it (.tuple #[.agg #[.int .u8 0, .int .i64 0, .int .i64 0, .string ⟨#[]⟩], .int .i64 0]), .it (.agg #[.int .u8 0, .int .i64 0, .int .i64 0, .string ⟨#[]⟩]), .it (.int .i64 0), .of (fun w v => ∃ h, v = .pointer (some ⟨h, 0, none⟩) ∧ (v34).heap.size ≤ h ∧ Soft w h ∧ Cells w h), .on 12 (fun p w _ => ∀ h, p = .pointer (some ⟨h, 0, none⟩) → Boxed w h 0 0 0 ⟨#[]⟩), .it (.int .i64 0)] (by kernel_rfl) (by kernel_rfl) (KeepR.refl _ _ _ _ _) KeepR.trans ?_
  iterate 3 (refine seqP_value (KeepR.refl _ _ _ _ _) _ (by first | rfl | simp) (fun w' hw' hctx => by (go_simp); (try first | with_reducible rfl | simp)) ?_; simp only [Act.put, List.setIfInBounds_toArray, List.set_cons_zero, List.set_cons_succ])
  refine seqP_value (KeepR.refl _ _ _ _ _) _ (by first | rfl | simp) (fun w' hw' hctx => ?_) ?_
  · obtain ⟨c0, c1, c2, c3, c4⟩ := O51.below (below_tr hd hw'.below)
    go_simp
    try first | with_reducible rfl | simp
  simp only [Act.put, List.setIfInBounds_toArray, List.set_cons_zero, List.set_cons_succ]
  iterate 3 (refine seqP_value (KeepR.refl _ _ _ _ _) _ (by first | rfl | simp) (fun w' hw' hctx => by (go_simp); (try first | with_reducible rfl | simp)) ?_; simp only [Act.put, List.setIfInBounds_toArray, List.set_cons_zero, List.set_cons_succ])
  refine seqP_value (KeepR.refl _ _ _ _ _) _ (by first | rfl | simp) (fun w' hw' hctx => ?_) ?_
  · obtain ⟨c0, c1, c2, c3, c4⟩ := O51.below (below_tr hd hw'.below)
    go_simp
    try first | with_reducible rfl | simp
  simp only [Act.put, List.setIfInBounds_toArray, List.set_cons_zero, List.set_cons_succ]
  refine seqP_call 22 #[.agg #[.int .u8 0, .int .i64 0, .int .i64 0, .string ⟨#[]⟩], .agg #[.int .u8 0, .int .i64 0, .int .i64 0, .string ⟨#[]⟩]] (.tuple #[.agg #[.int .u8 0, .int .i64 0, .int .i64 0, .string ⟨#[]⟩], .int .i64 0]) (by first | rfl | simp) (fun w' hw' hctx => ?_) (fun w' hw' hctx => (and_is 0 0 0 ⟨#[]⟩ 0 0 0 ⟨#[]⟩ ⟨0, 0, 0⟩ (by kernel_rfl) w').mono fun e w2 ⟨he, hb⟩ => ⟨he, KeepR.of_below hb hw'.below.size⟩) ?_
  · go_simp
  simp only [Act.put, List.setIfInBounds_toArray, List.set_cons_zero, List.set_cons_succ]
  iterate 3 (refine seqP_value (KeepR.refl _ _ _ _ _) _ (by first | rfl | simp) (fun w' hw' hctx => by (go_simp); (try first | with_reducible rfl | simp)) ?_; simp only [Act.put, List.setIfInBounds_toArray, List.set_cons_zero, List.set_cons_succ])
  refine seqP_make _ (fun w w' v hR hV => by obtain ⟨h, h1, h2, h3, h4⟩ := hV; exact ⟨h, h1, h2, hR.soft _ h3, hR.cells _ h4⟩) (by first | rfl | simp) (fun w' hw' hctx => ?_) (fun v => ?_)
  · exact ⟨_, _, by go_simp; first | with_reducible rfl | rfl, KeepR.of_below (Below.allocs _ _) hw'.below.size, ⟨_, rfl, hw'.below.size, Soft.new _ _ _ _ _ _, ⟨_, _, _, _, Boxed.new _ _ _ _ _ _⟩⟩⟩
  simp only [Act.put, List.setIfInBounds_toArray, List.set_cons_zero, List.set_cons_succ]
  refine seqP_write 12 _ (by decide) (fun w w' v hR hV h hh => hR.same _ (hV h hh)) (by first | rfl | simp) (fun w' hw' hctx => ?_) (fun v' => ?_)
  · obtain ⟨h, rfl, h2, h3, h4⟩ : ∃ h, v = .pointer (some ⟨h, 0, none⟩) ∧ (v34).heap.size ≤ h ∧ Soft w' h ∧ Cells w' h := hctx.1
    have hk := KeepR.put (k := 0) (n := 0) (u := 0) (t := ⟨#[]⟩) h2 h4
    obtain ⟨x0, x1, x2, x3, hbx⟩ := h4
    have hbp := boxed_put4 hbx (0) (0) 0 ⟨#[]⟩
    obtain ⟨b0, b1, b2, b3, b4⟩ := hbx
    obtain ⟨s0, s1, s2, s3, s4⟩ := h3
    refine ⟨put4 w' h (0) (0) 0 ⟨#[]⟩, ?_, hk, fun h' hh' => ?_⟩
    · go_simp
      rfl
    · simp [upd] at hh'
      subst hh'
      exact hbp
  simp only [Act.put]
  refine seqP_value (KeepR.refl _ _ _ _ _) _ (by first | rfl | simp) (fun w' hw' hctx => ?_) ?_
  · go_simp
    try first | with_reducible rfl | simp
  simp only [Act.put, List.setIfInBounds_toArray, List.set_cons_zero, List.set_cons_succ]
  refine seqP_nil (fun v35 hR hctx => ?_)
  obtain ⟨g35, rfl, hg35, hs35, -⟩ : ∃ h, v = .pointer (some ⟨h, 0, none⟩) ∧ (v34).heap.size ≤ h ∧ Soft v35 h ∧ Cells v35 h := hctx.2.1
  have An : Boxed v35 g35 (0) (0) 0 ⟨#[]⟩ := hctx.1 g35 (by simp [upd])
  have hv35 := below_tr hd hR.below
  clear hctx hR hd hs35
  have P52 := P51.below hv35
  have Q52 := Q51.below hv35
  have O52 := O51.below hv35
  have hw52 := below_tr hw51 hv35
  clear P51 Q51 O51
  have A52 := An
  clear An hv35
  go_wp2_with fail
  have hd := below_drew v35
  refine wp_region_plan (KeepR (v35).heap.size 0 0 0 ⟨#[]⟩) [.it (.slice (some ⟨v2.heap.size, 0, none⟩) 3 3), .it (.int .i64 2), .it (.pointer (some ⟨v2.heap.size, 8, none⟩)), .it (.agg #[.int .u8 0, .int .i64 0, .int .i64 0, .string ⟨#[]⟩]), .it (.slice (some ⟨v2.heap.size, 0, none⟩) 3 3), .it (.int .i64 2), .it (.pointer (some ⟨v2.heap.size, 8, none⟩)), .it (.agg #[.int .u8 0, .int .i64 0, .int .i64 0, .string ⟨#[]⟩]), .it (.tuple #[.agg #[.int .u8 0, .int .i64 0, .int .i64 0, .string ⟨#[]⟩], .int .i64 0]), .it (.tuple #[.agg #[.int .u8 0, .int .i64 0, .int .i64 0, .string ⟨#[]⟩], .int .i64 0]), .it (.agg #[.int .u8 0, .int .i64 0, .int .i64 0, .string ⟨#[]⟩]), .it (.int .i64 0), .of (fun w v => ∃ h, v = .pointer (some ⟨h, 0, none⟩) ∧ (v35).heap.size ≤ h ∧ Soft w h ∧ Cells w h), .on 12 (fun p w _ => ∀ h, p = .pointer (some ⟨h, 0, none⟩) → Boxed w h 0 0 0 ⟨#[]⟩), .it (.int .i64 0)] (by kernel_rfl) (by kernel_rfl) (KeepR.refl _ _ _ _ _) KeepR.trans ?_
  iterate 3 (refine seqP_value (KeepR.refl _ _ _ _ _) _ (by first | rfl | simp) (fun w' hw' hctx => by (go_simp); (try first | with_reducible rfl | simp)) ?_; simp only [Act.put, List.setIfInBounds_toArray, List.set_cons_zero, List.set_cons_succ])
  refine seqP_value (KeepR.refl _ _ _ _ _) _ (by first | rfl | simp) (fun w' hw' hctx => ?_) ?_
  · obtain ⟨c0, c1, c2, c3, c4⟩ := O52.below (below_tr hd hw'.below)
    go_simp
    try first | with_reducible rfl | simp
  simp only [Act.put, List.setIfInBounds_toArray, List.set_cons_zero, List.set_cons_succ]
  iterate 3 (refine seqP_value (KeepR.refl _ _ _ _ _) _ (by first | rfl | simp) (fun w' hw' hctx => by (go_simp); (try first | with_reducible rfl | simp)) ?_; simp only [Act.put, List.setIfInBounds_toArray, List.set_cons_zero, List.set_cons_succ])
  refine seqP_value (KeepR.refl _ _ _ _ _) _ (by first | rfl | simp) (fun w' hw' hctx => ?_) ?_
  · obtain ⟨c0, c1, c2, c3, c4⟩ := O52.below (below_tr hd hw'.below)
    go_simp
    try first | with_reducible rfl | simp
  simp only [Act.put, List.setIfInBounds_toArray, List.set_cons_zero, List.set_cons_succ]
  refine seqP_call 24 #[.agg #[.int .u8 0, .int .i64 0, .int .i64 0, .string ⟨#[]⟩], .agg #[.int .u8 0, .int .i64 0, .int .i64 0, .string ⟨#[]⟩]] (.tuple #[.agg #[.int .u8 0, .int .i64 0, .int .i64 0, .string ⟨#[]⟩], .int .i64 0]) (by first | rfl | simp) (fun w' hw' hctx => ?_) (fun w' hw' hctx => (or_is 0 0 0 ⟨#[]⟩ 0 0 0 ⟨#[]⟩ ⟨0, 0, 0⟩ (by kernel_rfl) w').mono fun e w2 ⟨he, hb⟩ => ⟨he, KeepR.of_below hb hw'.below.size⟩) ?_
  · go_simp
  simp only [Act.put, List.setIfInBounds_toArray, List.set_cons_zero, List.set_cons_succ]
  iterate 3 (refine seqP_value (KeepR.refl _ _ _ _ _) _ (by first | rfl | simp) (fun w' hw' hctx => by (go_simp); (try first | with_reducible rfl | simp)) ?_; simp only [Act.put, List.setIfInBounds_toArray, List.set_cons_zero, List.set_cons_succ])
  refine seqP_make _ (fun w w' v hR hV => by obtain ⟨h, h1, h2, h3, h4⟩ := hV; exact ⟨h, h1, h2, hR.soft _ h3, hR.cells _ h4⟩) (by first | rfl | simp) (fun w' hw' hctx => ?_) (fun v => ?_)
  · exact ⟨_, _, by go_simp; first | with_reducible rfl | rfl, KeepR.of_below (Below.allocs _ _) hw'.below.size, ⟨_, rfl, hw'.below.size, Soft.new _ _ _ _ _ _, ⟨_, _, _, _, Boxed.new _ _ _ _ _ _⟩⟩⟩
  simp only [Act.put, List.setIfInBounds_toArray, List.set_cons_zero, List.set_cons_succ]
  refine seqP_write 12 _ (by decide) (fun w w' v hR hV h hh => hR.same _ (hV h hh)) (by first | rfl | simp) (fun w' hw' hctx => ?_) (fun v' => ?_)
  · obtain ⟨h, rfl, h2, h3, h4⟩ : ∃ h, v = .pointer (some ⟨h, 0, none⟩) ∧ (v35).heap.size ≤ h ∧ Soft w' h ∧ Cells w' h := hctx.1
    have hk := KeepR.put (k := 0) (n := 0) (u := 0) (t := ⟨#[]⟩) h2 h4
    obtain ⟨x0, x1, x2, x3, hbx⟩ := h4
    have hbp := boxed_put4 hbx (0) (0) 0 ⟨#[]⟩
    obtain ⟨b0, b1, b2, b3, b4⟩ := hbx
    obtain ⟨s0, s1, s2, s3, s4⟩ := h3
    refine ⟨put4 w' h (0) (0) 0 ⟨#[]⟩, ?_, hk, fun h' hh' => ?_⟩
    · go_simp
      rfl
    · simp [upd] at hh'
      subst hh'
      exact hbp
  simp only [Act.put]
  refine seqP_value (KeepR.refl _ _ _ _ _) _ (by first | rfl | simp) (fun w' hw' hctx => ?_) ?_
  · go_simp
    try first | with_reducible rfl | simp
  simp only [Act.put, List.setIfInBounds_toArray, List.set_cons_zero, List.set_cons_succ]
  refine seqP_nil (fun v36 hR hctx => ?_)
  obtain ⟨g36, rfl, hg36, hs36, -⟩ : ∃ h, v = .pointer (some ⟨h, 0, none⟩) ∧ (v35).heap.size ≤ h ∧ Soft v36 h ∧ Cells v36 h := hctx.2.1
  have Bn : Boxed v36 g36 (0) (0) 0 ⟨#[]⟩ := hctx.1 g36 (by simp [upd])
  have hv36 := below_tr hd hR.below
  clear hctx hR hd hs36
  have P53 := P52.below hv36
  have Q53 := Q52.below hv36
  have O53 := O52.below hv36
  have A53 := A52.below hv36
  have hw53 := below_tr hw52 hv36
  clear P52 Q52 O52 A52
  have B53 := Bn
  clear Bn hv36
  go_wp2_with fail
  have hn53 := Below.allocs v36 (.cells #[.int .i64 0, .int .i64 2, .int .i64 1] 35)
  have Hn := IntsAt.new v36 0 2 1 35
  have P54 := P53.below hn53
  have Q54 := Q53.below hn53
  have O54 := O53.below hn53
  have A54 := A53.below hn53
  have B54 := B53.below hn53
  have hw54 := below_tr hw53 hn53
  clear P53 Q53 O53 A53 B53
  have H54 := Hn
  clear Hn hn53
  have hd := below_drew (v36.alloc (.cells #[.int .i64 0, .int .i64 2, .int .i64 1] 35))
  refine wp_region_plan (fun w w' => Below w.heap.size w w') [.it (.int .i64 2), .it (.pointer (some ⟨v36.heap.size, 2, none⟩)), .it (.int .i64 1), .it (.int .i64 2), .it (.pointer (some ⟨v36.heap.size, 2, none⟩)), .it (.int .i64 1), .it (.int .i64 1), .it (.int .i64 2), .it (.pointer (some ⟨v36.heap.size, 2, none⟩)), .it (.int .i64 1), .it (.int .i64 2), .it (.pointer (some ⟨v36.heap.size, 2, none⟩)), .it (.int .i64 1), .it (.int .i64 1), .it (.int .i64 1), .it (.int .i64 1)] (by kernel_rfl) (by kernel_rfl) (fun w => Below.refl _ _) (fun _ _ _ => below_tr) ?_
  iterate 2 (refine seqP_value (fun w => Below.refl _ _) _ (by first | rfl | simp) (fun w' hw' hctx => by (go_simp); (try first | with_reducible rfl | simp)) ?_; simp only [Act.put, List.setIfInBounds_toArray, List.set_cons_zero, List.set_cons_succ])
  refine seqP_value (fun w => Below.refl _ _) _ (by first | rfl | simp) (fun w' hw' hctx => ?_) ?_
  · obtain ⟨c0, c1, c2, c3, c4⟩ := H54.below (below_tr hd hw')
    go_simp
    try first | with_reducible rfl | simp
  simp only [Act.put, List.setIfInBounds_toArray, List.set_cons_zero, List.set_cons_succ]
  iterate 2 (refine seqP_value (fun w => Below.refl _ _) _ (by first | rfl | simp) (fun w' hw' hctx => by (go_simp); (try first | with_reducible rfl | simp)) ?_; simp only [Act.put, List.setIfInBounds_toArray, List.set_cons_zero, List.set_cons_succ])
  refine seqP_value (fun w => Below.refl _ _) _ (by first | rfl | simp) (fun w' hw' hctx => ?_) ?_
  · obtain ⟨c0, c1, c2, c3, c4⟩ := H54.below (below_tr hd hw')
    go_simp
    try first | with_reducible rfl | simp
  simp only [Act.put, List.setIfInBounds_toArray, List.set_cons_zero, List.set_cons_succ]
  iterate 3 (refine seqP_value (fun w => Below.refl _ _) _ (by first | rfl | simp) (fun w' hw' hctx => by (go_simp); (try first | with_reducible rfl | simp)) ?_; simp only [Act.put, List.setIfInBounds_toArray, List.set_cons_zero, List.set_cons_succ])
  refine seqP_value (fun w => Below.refl _ _) _ (by first | rfl | simp) (fun w' hw' hctx => ?_) ?_
  · obtain ⟨c0, c1, c2, c3, c4⟩ := H54.below (below_tr hd hw')
    go_simp
    try first | with_reducible rfl | simp
  simp only [Act.put, List.setIfInBounds_toArray, List.set_cons_zero, List.set_cons_succ]
  iterate 2 (refine seqP_value (fun w => Below.refl _ _) _ (by first | rfl | simp) (fun w' hw' hctx => by (go_simp); (try first | with_reducible rfl | simp)) ?_; simp only [Act.put, List.setIfInBounds_toArray, List.set_cons_zero, List.set_cons_succ])
  refine seqP_value (fun w => Below.refl _ _) _ (by first | rfl | simp) (fun w' hw' hctx => ?_) ?_
  · obtain ⟨c0, c1, c2, c3, c4⟩ := H54.below (below_tr hd hw')
    go_simp
    try first | with_reducible rfl | simp
  simp only [Act.put, List.setIfInBounds_toArray, List.set_cons_zero, List.set_cons_succ]
  iterate 3 (refine seqP_value (fun w => Below.refl _ _) _ (by first | rfl | simp) (fun w' hw' hctx => by (go_simp); (try first | with_reducible rfl | simp)) ?_; simp only [Act.put, List.setIfInBounds_toArray, List.set_cons_zero, List.set_cons_succ])
  refine seqP_nil (fun v37 hR hctx => ?_)
  have hv37 := below_tr hd hR
  clear hctx hR hd
  have P55 := P54.below hv37
  have Q55 := Q54.below hv37
  have O55 := O54.below hv37
  have A55 := A54.below hv37
  have B55 := B54.below hv37
  have H55 := H54.below hv37
  have hw55 := below_tr hw54 hv37
  clear P54 Q54 O54 A54 B54 H54
  clear hv37
  clear H55
  go_wp2_with fail
  have hn55 := Below.allocs v37 (.cells #[.int .i64 0, .int .i64 2, .int .i64 1] 35)
  have Jn := IntsAt.new v37 0 2 1 35
  have P56 := P55.below hn55
  have Q56 := Q55.below hn55
  have O56 := O55.below hn55
  have A56 := A55.below hn55
  have B56 := B55.below hn55
  have hw56 := below_tr hw55 hn55
  clear P55 Q55 O55 A55 B55
  have J56 := Jn
  clear Jn hn55
  have hd := below_drew (v37.alloc (.cells #[.int .i64 0, .int .i64 2, .int .i64 1] 35))
  refine wp_region_plan (fun w w' => Below w.heap.size w w') [.it (.int .i64 0), .it (.bool false), .it (.bool false), .it (.int .i64 0), .it (.bool false), .it (.bool false), .it (.bool false), .it (.agg #[.int .u8 0, .int .i64 0, .int .i64 0, .string ⟨#[]⟩]), .it (.slice (some ⟨v2.heap.size, 0, none⟩) 3 3), .it (.int .i64 1), .it (.pointer (some ⟨v37.heap.size, 1, none⟩)), .it (.int .i64 2), .it (.pointer (some ⟨v2.heap.size, 8, none⟩)), .it (.agg #[.int .u8 0, .int .i64 0, .int .i64 0, .string ⟨#[]⟩]), .it (.bool false), .it (.bool false), .it (.bool false), .it (.agg #[.int .u8 0, .int .i64 0, .int .i64 0, .string ⟨#[]⟩]), .it (.slice (some ⟨v2.heap.size, 0, none⟩) 3 3), .it (.int .i64 1), .it (.pointer (some ⟨v37.heap.size, 1, none⟩)), .it (.int .i64 2), .it (.pointer (some ⟨v2.heap.size, 8, none⟩)), .it (.agg #[.int .u8 0, .int .i64 0, .int .i64 0, .string ⟨#[]⟩]), .it (.bool false), .it (.bool false)] (by kernel_rfl) (by kernel_rfl) (fun w => Below.refl _ _) (fun _ _ _ => below_tr) ?_
  iterate 7 (refine seqP_value (fun w => Below.refl _ _) _ (by first | rfl | simp) (fun w' hw' hctx => by (go_simp); (try first | with_reducible rfl | simp)) ?_; simp only [Act.put, List.setIfInBounds_toArray, List.set_cons_zero, List.set_cons_succ])
  refine seqP_value (fun w => Below.refl _ _) _ (by first | rfl | simp) (fun w' hw' hctx => ?_) ?_
  · obtain ⟨c0, c1, c2, c3, c4⟩ := A56.below (below_tr hd hw')
    go_simp
    try first | with_reducible rfl | simp
  simp only [Act.put, List.setIfInBounds_toArray, List.set_cons_zero, List.set_cons_succ]
  iterate 3 (refine seqP_value (fun w => Below.refl _ _) _ (by first | rfl | simp) (fun w' hw' hctx => by (go_simp); (try first | with_reducible rfl | simp)) ?_; simp only [Act.put, List.setIfInBounds_toArray, List.set_cons_zero, List.set_cons_succ])
  refine seqP_value (fun w => Below.refl _ _) _ (by first | rfl | simp) (fun w' hw' hctx => ?_) ?_
  · obtain ⟨c0, c1, c2, c3, c4⟩ := J56.below (below_tr hd hw')
    go_simp
    try first | with_reducible rfl | simp
  simp only [Act.put, List.setIfInBounds_toArray, List.set_cons_zero, List.set_cons_succ]
  refine seqP_value (fun w => Below.refl _ _) _ (by first | rfl | simp) (fun w' hw' hctx => ?_) ?_
  · go_simp
    try first | with_reducible rfl | simp
  simp only [Act.put, List.setIfInBounds_toArray, List.set_cons_zero, List.set_cons_succ]
  refine seqP_value (fun w => Below.refl _ _) _ (by first | rfl | simp) (fun w' hw' hctx => ?_) ?_
  · obtain ⟨c0, c1, c2, c3, c4⟩ := O56.below (below_tr hd hw')
    go_simp
    try first | with_reducible rfl | simp
  simp only [Act.put, List.setIfInBounds_toArray, List.set_cons_zero, List.set_cons_succ]
  iterate 3 (refine seqP_value (fun w => Below.refl _ _) _ (by first | rfl | simp) (fun w' hw' hctx => by (go_simp); (try first | with_reducible rfl | simp)) ?_; simp only [Act.put, List.setIfInBounds_toArray, List.set_cons_zero, List.set_cons_succ])
  refine seqP_value (fun w => Below.refl _ _) _ (by first | rfl | simp) (fun w' hw' hctx => ?_) ?_
  · obtain ⟨c0, c1, c2, c3, c4⟩ := B56.below (below_tr hd hw')
    go_simp
    try first | with_reducible rfl | simp
  simp only [Act.put, List.setIfInBounds_toArray, List.set_cons_zero, List.set_cons_succ]
  iterate 3 (refine seqP_value (fun w => Below.refl _ _) _ (by first | rfl | simp) (fun w' hw' hctx => by (go_simp); (try first | with_reducible rfl | simp)) ?_; simp only [Act.put, List.setIfInBounds_toArray, List.set_cons_zero, List.set_cons_succ])
  refine seqP_value (fun w => Below.refl _ _) _ (by first | rfl | simp) (fun w' hw' hctx => ?_) ?_
  · obtain ⟨c0, c1, c2, c3, c4⟩ := J56.below (below_tr hd hw')
    go_simp
    try first | with_reducible rfl | simp
  simp only [Act.put, List.setIfInBounds_toArray, List.set_cons_zero, List.set_cons_succ]
  refine seqP_value (fun w => Below.refl _ _) _ (by first | rfl | simp) (fun w' hw' hctx => ?_) ?_
  · go_simp
    try first | with_reducible rfl | simp
  simp only [Act.put, List.setIfInBounds_toArray, List.set_cons_zero, List.set_cons_succ]
  refine seqP_value (fun w => Below.refl _ _) _ (by first | rfl | simp) (fun w' hw' hctx => ?_) ?_
  · obtain ⟨c0, c1, c2, c3, c4⟩ := O56.below (below_tr hd hw')
    go_simp
    try first | with_reducible rfl | simp
  simp only [Act.put, List.setIfInBounds_toArray, List.set_cons_zero, List.set_cons_succ]
  iterate 2 (refine seqP_value (fun w => Below.refl _ _) _ (by first | rfl | simp) (fun w' hw' hctx => by (go_simp); (try first | with_reducible rfl | simp)) ?_; simp only [Act.put, List.setIfInBounds_toArray, List.set_cons_zero, List.set_cons_succ])
  refine seqP_nil (fun v38 hR hctx => ?_)
  have hv38 := below_tr hd hR
  clear hctx hR hd
  have P57 := P56.below hv38
  have Q57 := Q56.below hv38
  have O57 := O56.below hv38
  have A57 := A56.below hv38
  have B57 := B56.below hv38
  have J57 := J56.below hv38
  have hw57 := below_tr hw56 hv38
  clear P56 Q56 O56 A56 B56 J56
  clear hv38
  clear A57
  clear B57
  clear J57
  have p' := P57
  obtain ⟨p0, p1, p2, p3, p4⟩ := p'
  have q' := Q57
  obtain ⟨q0, q1, q2, q3, q4⟩ := q'
  have o' := O57
  obtain ⟨o0, o1, o2, o3, o4⟩ := o'
  go_wp2_with fail
  clear p0 p1 p2 p3 p4 q0 q1 q2 q3 q4 o0 o1 o2 o3 o4
  rw [rounds_succ]
  go_wp2_with fail
  rw [rounds_succ]
  go_wp2_with fail
  clear P57
  clear Q57
  clear O57
  refine (int_is (-9223372036854775808) _).mono ?_
  rintro e v39 ⟨rfl, hv39⟩
  have hw58 := below_tr hw57 hv39
  clear hv39
  go_wp2_with fail
  refine (int_is 9223372036854775807 _).mono ?_
  rintro e v40 ⟨rfl, hv40⟩
  have hw59 := below_tr hw58 hv40
  clear hv40
  go_wp2_with fail
  have hn59 := Below.allocs v40 (.cells #[.int .u8 1, .int .i64 (-9223372036854775808), .int .i64 0, .string ⟨#[]⟩] 23)
  have An := Boxed.new v40 1 (-9223372036854775808) 0 ⟨#[]⟩ 23
  have hw60 := below_tr hw59 hn59
  have A60 := An
  clear An hn59
  have hn60 := Below.allocs (v40.alloc (.cells #[.int .u8 1, .int .i64 (-9223372036854775808), .int .i64 0, .string ⟨#[]⟩] 23)) (.cells #[.int .u8 1, .int .i64 9223372036854775807, .int .i64 0, .string ⟨#[]⟩] 23)
  have Bn := Boxed.new (v40.alloc (.cells #[.int .u8 1, .int .i64 (-9223372036854775808), .int .i64 0, .string ⟨#[]⟩] 23)) 1 9223372036854775807 0 ⟨#[]⟩ 23
  rw [show (v40.alloc (.cells #[.int .u8 1, .int .i64 (-9223372036854775808), .int .i64 0, .string ⟨#[]⟩] 23)).heap.size = v40.heap.size + 1 by simp] at Bn
  have A61 := A60.below hn60
  have hw61 := below_tr hw60 hn60
  clear A60
  have B61 := Bn
  clear Bn hn60
  refine (neg_is 1 (-9223372036854775808) 0 ⟨#[]⟩ ⟨0, 0, 61⟩ (by kernel_rfl) (by unfold I64; omega) _).mono ?_
  rintro e v41 ⟨rfl, hv41⟩
  have A62 := A61.below hv41
  have B62 := B61.below hv41
  have hw62 := below_tr hw61 hv41
  clear A61 B61
  clear hv41
  have a' := A62
  obtain ⟨a0, a1, a2, a3, a4⟩ := a'
  have b' := B62
  obtain ⟨b0, b1, b2, b3, b4⟩ := b'
  go_wp2_with fail
  clear a0 a1 a2 a3 a4 b0 b1 b2 b3 b4
  have hn62 := Below.allocs v41 (.cells #[.int .u8 0, .int .i64 0, .int .i64 0, .string ⟨#[]⟩] 23)
  have Cn := Boxed.new v41 0 0 0 ⟨#[]⟩ 23
  have A63 := A62.below hn62
  have B63 := B62.below hn62
  have hw63 := below_tr hw62 hn62
  clear A62 B62
  have C63 := Cn
  clear Cn hn62
  refine (neg_is 1 9223372036854775807 0 ⟨#[]⟩ ⟨1, -9223372036854775807, 0⟩ (by kernel_rfl) (by unfold I64; omega) _).mono ?_
  rintro e v42 ⟨rfl, hv42⟩
  have A64 := A63.below hv42
  have B64 := B63.below hv42
  have C64 := C63.below hv42
  have hw64 := below_tr hw63 hv42
  clear A63 B63 C63
  clear hv42
  have a' := A64
  obtain ⟨a0, a1, a2, a3, a4⟩ := a'
  have b' := B64
  obtain ⟨b0, b1, b2, b3, b4⟩ := b'
  go_wp2_with fail
  clear a0 a1 a2 a3 a4 b0 b1 b2 b3 b4
  have hn64 := Below.allocs v42 (.cells #[.int .u8 1, .int .i64 (-9223372036854775807), .int .i64 0, .string ⟨#[]⟩] 23)
  have Dn := Boxed.new v42 1 (-9223372036854775807) 0 ⟨#[]⟩ 23
  have A65 := A64.below hn64
  have B65 := B64.below hn64
  have C65 := C64.below hn64
  have hw65 := below_tr hw64 hn64
  clear A64 B64 C64
  have D65 := Dn
  clear Dn hn64
  have hd := below_drew (v42.alloc (.cells #[.int .u8 1, .int .i64 (-9223372036854775807), .int .i64 0, .string ⟨#[]⟩] 23))
  refine wp_region_plan (KeepR ((v42.alloc (.cells #[.int .u8 1, .int .i64 (-9223372036854775807), .int .i64 0, .string ⟨#[]⟩] 23))).heap.size 0 0 0 ⟨#[]⟩) [.it (.agg #[.int .u8 1, .int .i64 (-9223372036854775808), .int .i64 0, .string ⟨#[]⟩]), .it (.agg #[.int .u8 1, .int .i64 (-1), .int .i64 0, .string ⟨#[]⟩]), .it (.tuple #[.agg #[.int .u8 0, .int .i64 0, .int .i64 0, .string ⟨#[]⟩], .int .i64 61]), .it (.tuple #[.agg #[.int .u8 0, .int .i64 0, .int .i64 0, .string ⟨#[]⟩], .int .i64 61]), .it (.agg #[.int .u8 0, .int .i64 0, .int .i64 0, .string ⟨#[]⟩]), .it (.int .i64 61), .of (fun w v => ∃ h, v = .pointer (some ⟨h, 0, none⟩) ∧ ((v42.alloc (.cells #[.int .u8 1, .int .i64 (-9223372036854775807), .int .i64 0, .string ⟨#[]⟩] 23))).heap.size ≤ h ∧ Soft w h ∧ Cells w h), .on 6 (fun p w _ => ∀ h, p = .pointer (some ⟨h, 0, none⟩) → Boxed w h 0 0 0 ⟨#[]⟩), .it (.int .i64 61)] (by kernel_rfl) (by kernel_rfl) (KeepR.refl _ _ _ _ _) KeepR.trans ?_
  refine seqP_value (KeepR.refl _ _ _ _ _) _ (by first | rfl | simp) (fun w' hw' hctx => ?_) ?_
  · obtain ⟨c0, c1, c2, c3, c4⟩ := A65.below (below_tr hd hw'.below)
    go_simp
    try first | with_reducible rfl | simp
  simp only [Act.put, List.setIfInBounds_toArray, List.set_cons_zero, List.set_cons_succ]
  refine seqP_call 14 #[.int .i64 ((-1))] (.agg #[.int .u8 1, .int .i64 (-1), .int .i64 0, .string ⟨#[]⟩]) (by first | rfl | simp) (fun w' hw' hctx => ?_) (fun w' hw' hctx => (int_is (-1) w').mono fun e w2 ⟨he, hb⟩ => ⟨he, KeepR.of_below hb hw'.below.size⟩) ?_
  · go_simp
  simp only [Act.put, List.setIfInBounds_toArray, List.set_cons_zero, List.set_cons_succ]
  refine seqP_call 30 #[.agg #[.int .u8 1, .int .i64 (-9223372036854775808), .int .i64 0, .string ⟨#[]⟩], .agg #[.int .u8 1, .int .i64 (-1), .int .i64 0, .string ⟨#[]⟩]] (.tuple #[.agg #[.int .u8 0, .int .i64 0, .int .i64 0, .string ⟨#[]⟩], .int .i64 61]) (by first | rfl | simp) (fun w' hw' hctx => ?_) (fun w' hw' hctx => (mul_is 1 (-9223372036854775808) 0 ⟨#[]⟩ 1 (-1) 0 ⟨#[]⟩ ⟨0, 0, 61⟩ (by kernel_rfl) (by unfold I64; omega) (by unfold I64; omega) w').mono fun e w2 ⟨he, hb⟩ => ⟨he, KeepR.of_below hb hw'.below.size⟩) ?_
  · go_simp
  simp only [Act.put, List.setIfInBounds_toArray, List.set_cons_zero, List.set_cons_succ]
  iterate 3 (refine seqP_value (KeepR.refl _ _ _ _ _) _ (by first | rfl | simp) (fun w' hw' hctx => by (go_simp); (try first | with_reducible rfl | simp)) ?_; simp only [Act.put, List.setIfInBounds_toArray, List.set_cons_zero, List.set_cons_succ])
  refine seqP_make _ (fun w w' v hR hV => by obtain ⟨h, h1, h2, h3, h4⟩ := hV; exact ⟨h, h1, h2, hR.soft _ h3, hR.cells _ h4⟩) (by first | rfl | simp) (fun w' hw' hctx => ?_) (fun v => ?_)
  · exact ⟨_, _, by go_simp; first | with_reducible rfl | rfl, KeepR.of_below (Below.allocs _ _) hw'.below.size, ⟨_, rfl, hw'.below.size, Soft.new _ _ _ _ _ _, ⟨_, _, _, _, Boxed.new _ _ _ _ _ _⟩⟩⟩
  simp only [Act.put, List.setIfInBounds_toArray, List.set_cons_zero, List.set_cons_succ]
  refine seqP_write 6 _ (by decide) (fun w w' v hR hV h hh => hR.same _ (hV h hh)) (by first | rfl | simp) (fun w' hw' hctx => ?_) (fun v' => ?_)
  · obtain ⟨h, rfl, h2, h3, h4⟩ : ∃ h, v = .pointer (some ⟨h, 0, none⟩) ∧ ((v42.alloc (.cells #[.int .u8 1, .int .i64 (-9223372036854775807), .int .i64 0, .string ⟨#[]⟩] 23))).heap.size ≤ h ∧ Soft w' h ∧ Cells w' h := hctx.1
    have hk := KeepR.put (k := 0) (n := 0) (u := 0) (t := ⟨#[]⟩) h2 h4
    obtain ⟨x0, x1, x2, x3, hbx⟩ := h4
    have hbp := boxed_put4 hbx (0) (0) 0 ⟨#[]⟩
    obtain ⟨b0, b1, b2, b3, b4⟩ := hbx
    obtain ⟨s0, s1, s2, s3, s4⟩ := h3
    refine ⟨put4 w' h (0) (0) 0 ⟨#[]⟩, ?_, hk, fun h' hh' => ?_⟩
    · go_simp
      rfl
    · simp [upd] at hh'
      subst hh'
      exact hbp
  simp only [Act.put]
  refine seqP_value (KeepR.refl _ _ _ _ _) _ (by first | rfl | simp) (fun w' hw' hctx => ?_) ?_
  · go_simp
    try first | with_reducible rfl | simp
  simp only [Act.put, List.setIfInBounds_toArray, List.set_cons_zero, List.set_cons_succ]
  refine seqP_nil (fun v43 hR hctx => ?_)
  obtain ⟨g43, rfl, hg43, hs43, -⟩ : ∃ h, v = .pointer (some ⟨h, 0, none⟩) ∧ ((v42.alloc (.cells #[.int .u8 1, .int .i64 (-9223372036854775807), .int .i64 0, .string ⟨#[]⟩] 23))).heap.size ≤ h ∧ Soft v43 h ∧ Cells v43 h := hctx.2.1
  have En : Boxed v43 g43 (0) (0) 0 ⟨#[]⟩ := hctx.1 g43 (by simp [upd])
  have hv43 := below_tr hd hR.below
  clear hctx hR hd hs43
  have A66 := A65.below hv43
  have B66 := B65.below hv43
  have C66 := C65.below hv43
  have D66 := D65.below hv43
  have hw66 := below_tr hw65 hv43
  clear A65 B65 C65 D65
  have E66 := En
  clear En hv43
  go_wp2_with fail
  have hd := below_drew v43
  refine wp_region_plan (KeepR (v43).heap.size 1 (-9223372036854775808) 0 ⟨#[]⟩) [.it (.agg #[.int .u8 1, .int .i64 (-9223372036854775808), .int .i64 0, .string ⟨#[]⟩]), .it (.agg #[.int .u8 1, .int .i64 1, .int .i64 0, .string ⟨#[]⟩]), .it (.tuple #[.agg #[.int .u8 1, .int .i64 (-9223372036854775808), .int .i64 0, .string ⟨#[]⟩], .int .i64 0]), .it (.tuple #[.agg #[.int .u8 1, .int .i64 (-9223372036854775808), .int .i64 0, .string ⟨#[]⟩], .int .i64 0]), .it (.agg #[.int .u8 1, .int .i64 (-9223372036854775808), .int .i64 0, .string ⟨#[]⟩]), .it (.int .i64 0), .of (fun w v => ∃ h, v = .pointer (some ⟨h, 0, none⟩) ∧ (v43).heap.size ≤ h ∧ Soft w h ∧ Cells w h), .on 6 (fun p w _ => ∀ h, p = .pointer (some ⟨h, 0, none⟩) → Boxed w h 1 (-9223372036854775808) 0 ⟨#[]⟩), .it (.int .i64 0)] (by kernel_rfl) (by kernel_rfl) (KeepR.refl _ _ _ _ _) KeepR.trans ?_
  refine seqP_value (KeepR.refl _ _ _ _ _) _ (by first | rfl | simp) (fun w' hw' hctx => ?_) ?_
  · obtain ⟨c0, c1, c2, c3, c4⟩ := A66.below (below_tr hd hw'.below)
    go_simp
    try first | with_reducible rfl | simp
  simp only [Act.put, List.setIfInBounds_toArray, List.set_cons_zero, List.set_cons_succ]
  refine seqP_call 14 #[.int .i64 (1)] (.agg #[.int .u8 1, .int .i64 1, .int .i64 0, .string ⟨#[]⟩]) (by first | rfl | simp) (fun w' hw' hctx => ?_) (fun w' hw' hctx => (int_is 1 w').mono fun e w2 ⟨he, hb⟩ => ⟨he, KeepR.of_below hb hw'.below.size⟩) ?_
  · go_simp
  simp only [Act.put, List.setIfInBounds_toArray, List.set_cons_zero, List.set_cons_succ]
  refine seqP_call 30 #[.agg #[.int .u8 1, .int .i64 (-9223372036854775808), .int .i64 0, .string ⟨#[]⟩], .agg #[.int .u8 1, .int .i64 1, .int .i64 0, .string ⟨#[]⟩]] (.tuple #[.agg #[.int .u8 1, .int .i64 (-9223372036854775808), .int .i64 0, .string ⟨#[]⟩], .int .i64 0]) (by first | rfl | simp) (fun w' hw' hctx => ?_) (fun w' hw' hctx => (mul_is 1 (-9223372036854775808) 0 ⟨#[]⟩ 1 1 0 ⟨#[]⟩ ⟨1, (-9223372036854775808), 0⟩ (by kernel_rfl) (by unfold I64; omega) (by unfold I64; omega) w').mono fun e w2 ⟨he, hb⟩ => ⟨he, KeepR.of_below hb hw'.below.size⟩) ?_
  · go_simp
  simp only [Act.put, List.setIfInBounds_toArray, List.set_cons_zero, List.set_cons_succ]
  iterate 3 (refine seqP_value (KeepR.refl _ _ _ _ _) _ (by first | rfl | simp) (fun w' hw' hctx => by (go_simp); (try first | with_reducible rfl | simp)) ?_; simp only [Act.put, List.setIfInBounds_toArray, List.set_cons_zero, List.set_cons_succ])
  refine seqP_make _ (fun w w' v hR hV => by obtain ⟨h, h1, h2, h3, h4⟩ := hV; exact ⟨h, h1, h2, hR.soft _ h3, hR.cells _ h4⟩) (by first | rfl | simp) (fun w' hw' hctx => ?_) (fun v => ?_)
  · exact ⟨_, _, by go_simp; first | with_reducible rfl | rfl, KeepR.of_below (Below.allocs _ _) hw'.below.size, ⟨_, rfl, hw'.below.size, Soft.new _ _ _ _ _ _, ⟨_, _, _, _, Boxed.new _ _ _ _ _ _⟩⟩⟩
  simp only [Act.put, List.setIfInBounds_toArray, List.set_cons_zero, List.set_cons_succ]
  refine seqP_write 6 _ (by decide) (fun w w' v hR hV h hh => hR.same _ (hV h hh)) (by first | rfl | simp) (fun w' hw' hctx => ?_) (fun v' => ?_)
  · obtain ⟨h, rfl, h2, h3, h4⟩ : ∃ h, v = .pointer (some ⟨h, 0, none⟩) ∧ (v43).heap.size ≤ h ∧ Soft w' h ∧ Cells w' h := hctx.1
    have hk := KeepR.put (k := 1) (n := (-9223372036854775808)) (u := 0) (t := ⟨#[]⟩) h2 h4
    obtain ⟨x0, x1, x2, x3, hbx⟩ := h4
    have hbp := boxed_put4 hbx (1) ((-9223372036854775808)) 0 ⟨#[]⟩
    obtain ⟨b0, b1, b2, b3, b4⟩ := hbx
    obtain ⟨s0, s1, s2, s3, s4⟩ := h3
    refine ⟨put4 w' h (1) ((-9223372036854775808)) 0 ⟨#[]⟩, ?_, hk, fun h' hh' => ?_⟩
    · go_simp
      rfl
    · simp [upd] at hh'
      subst hh'
      exact hbp
  simp only [Act.put]
  refine seqP_value (KeepR.refl _ _ _ _ _) _ (by first | rfl | simp) (fun w' hw' hctx => ?_) ?_
  · go_simp
    try first | with_reducible rfl | simp
  simp only [Act.put, List.setIfInBounds_toArray, List.set_cons_zero, List.set_cons_succ]
  refine seqP_nil (fun v44 hR hctx => ?_)
  obtain ⟨g44, rfl, hg44, hs44, -⟩ : ∃ h, v = .pointer (some ⟨h, 0, none⟩) ∧ (v43).heap.size ≤ h ∧ Soft v44 h ∧ Cells v44 h := hctx.2.1
  have Fn : Boxed v44 g44 (1) ((-9223372036854775808)) 0 ⟨#[]⟩ := hctx.1 g44 (by simp [upd])
  have hv44 := below_tr hd hR.below
  clear hctx hR hd hs44
  have A67 := A66.below hv44
  have B67 := B66.below hv44
  have C67 := C66.below hv44
  have D67 := D66.below hv44
  have E67 := E66.below hv44
  have hw67 := below_tr hw66 hv44
  clear A66 B66 C66 D66 E66
  have F67 := Fn
  clear Fn hv44
  go_wp2_with fail
  have hd := below_drew v44
  refine wp_region_plan (KeepR (v44).heap.size 0 0 0 ⟨#[]⟩) [.it (.agg #[.int .u8 1, .int .i64 (-9223372036854775808), .int .i64 0, .string ⟨#[]⟩]), .it (.agg #[.int .u8 1, .int .i64 1, .int .i64 0, .string ⟨#[]⟩]), .it (.tuple #[.agg #[.int .u8 0, .int .i64 0, .int .i64 0, .string ⟨#[]⟩], .int .i64 61]), .it (.tuple #[.agg #[.int .u8 0, .int .i64 0, .int .i64 0, .string ⟨#[]⟩], .int .i64 61]), .it (.agg #[.int .u8 0, .int .i64 0, .int .i64 0, .string ⟨#[]⟩]), .it (.int .i64 61), .of (fun w v => ∃ h, v = .pointer (some ⟨h, 0, none⟩) ∧ (v44).heap.size ≤ h ∧ Soft w h ∧ Cells w h), .on 6 (fun p w _ => ∀ h, p = .pointer (some ⟨h, 0, none⟩) → Boxed w h 0 0 0 ⟨#[]⟩), .it (.int .i64 61)] (by kernel_rfl) (by kernel_rfl) (KeepR.refl _ _ _ _ _) KeepR.trans ?_
  refine seqP_value (KeepR.refl _ _ _ _ _) _ (by first | rfl | simp) (fun w' hw' hctx => ?_) ?_
  · obtain ⟨c0, c1, c2, c3, c4⟩ := A67.below (below_tr hd hw'.below)
    go_simp
    try first | with_reducible rfl | simp
  simp only [Act.put, List.setIfInBounds_toArray, List.set_cons_zero, List.set_cons_succ]
  refine seqP_call 14 #[.int .i64 (1)] (.agg #[.int .u8 1, .int .i64 1, .int .i64 0, .string ⟨#[]⟩]) (by first | rfl | simp) (fun w' hw' hctx => ?_) (fun w' hw' hctx => (int_is 1 w').mono fun e w2 ⟨he, hb⟩ => ⟨he, KeepR.of_below hb hw'.below.size⟩) ?_
  · go_simp
  simp only [Act.put, List.setIfInBounds_toArray, List.set_cons_zero, List.set_cons_succ]
  refine seqP_call 28 #[.agg #[.int .u8 1, .int .i64 (-9223372036854775808), .int .i64 0, .string ⟨#[]⟩], .agg #[.int .u8 1, .int .i64 1, .int .i64 0, .string ⟨#[]⟩]] (.tuple #[.agg #[.int .u8 0, .int .i64 0, .int .i64 0, .string ⟨#[]⟩], .int .i64 61]) (by first | rfl | simp) (fun w' hw' hctx => ?_) (fun w' hw' hctx => (sub_is 1 (-9223372036854775808) 0 ⟨#[]⟩ 1 1 0 ⟨#[]⟩ ⟨0, 0, 61⟩ (by kernel_rfl) (by unfold I64; omega) (by unfold I64; omega) w').mono fun e w2 ⟨he, hb⟩ => ⟨he, KeepR.of_below hb hw'.below.size⟩) ?_
  · go_simp
  simp only [Act.put, List.setIfInBounds_toArray, List.set_cons_zero, List.set_cons_succ]
  iterate 3 (refine seqP_value (KeepR.refl _ _ _ _ _) _ (by first | rfl | simp) (fun w' hw' hctx => by (go_simp); (try first | with_reducible rfl | simp)) ?_; simp only [Act.put, List.setIfInBounds_toArray, List.set_cons_zero, List.set_cons_succ])
  refine seqP_make _ (fun w w' v hR hV => by obtain ⟨h, h1, h2, h3, h4⟩ := hV; exact ⟨h, h1, h2, hR.soft _ h3, hR.cells _ h4⟩) (by first | rfl | simp) (fun w' hw' hctx => ?_) (fun v => ?_)
  · exact ⟨_, _, by go_simp; first | with_reducible rfl | rfl, KeepR.of_below (Below.allocs _ _) hw'.below.size, ⟨_, rfl, hw'.below.size, Soft.new _ _ _ _ _ _, ⟨_, _, _, _, Boxed.new _ _ _ _ _ _⟩⟩⟩
  simp only [Act.put, List.setIfInBounds_toArray, List.set_cons_zero, List.set_cons_succ]
  refine seqP_write 6 _ (by decide) (fun w w' v hR hV h hh => hR.same _ (hV h hh)) (by first | rfl | simp) (fun w' hw' hctx => ?_) (fun v' => ?_)
  · obtain ⟨h, rfl, h2, h3, h4⟩ : ∃ h, v = .pointer (some ⟨h, 0, none⟩) ∧ (v44).heap.size ≤ h ∧ Soft w' h ∧ Cells w' h := hctx.1
    have hk := KeepR.put (k := 0) (n := 0) (u := 0) (t := ⟨#[]⟩) h2 h4
    obtain ⟨x0, x1, x2, x3, hbx⟩ := h4
    have hbp := boxed_put4 hbx (0) (0) 0 ⟨#[]⟩
    obtain ⟨b0, b1, b2, b3, b4⟩ := hbx
    obtain ⟨s0, s1, s2, s3, s4⟩ := h3
    refine ⟨put4 w' h (0) (0) 0 ⟨#[]⟩, ?_, hk, fun h' hh' => ?_⟩
    · go_simp
      rfl
    · simp [upd] at hh'
      subst hh'
      exact hbp
  simp only [Act.put]
  refine seqP_value (KeepR.refl _ _ _ _ _) _ (by first | rfl | simp) (fun w' hw' hctx => ?_) ?_
  · go_simp
    try first | with_reducible rfl | simp
  simp only [Act.put, List.setIfInBounds_toArray, List.set_cons_zero, List.set_cons_succ]
  refine seqP_nil (fun v45 hR hctx => ?_)
  obtain ⟨g45, rfl, hg45, hs45, -⟩ : ∃ h, v = .pointer (some ⟨h, 0, none⟩) ∧ (v44).heap.size ≤ h ∧ Soft v45 h ∧ Cells v45 h := hctx.2.1
  have Gn : Boxed v45 g45 (0) (0) 0 ⟨#[]⟩ := hctx.1 g45 (by simp [upd])
  have hv45 := below_tr hd hR.below
  clear hctx hR hd hs45
  have A68 := A67.below hv45
  have B68 := B67.below hv45
  have C68 := C67.below hv45
  have D68 := D67.below hv45
  have E68 := E67.below hv45
  have F68 := F67.below hv45
  have hw68 := below_tr hw67 hv45
  clear A67 B67 C67 D67 E67 F67
  have G68 := Gn
  clear Gn hv45
  have a' := A68
  obtain ⟨a0, a1, a2, a3, a4⟩ := a'
  have b' := B68
  obtain ⟨b0, b1, b2, b3, b4⟩ := b'
  go_wp2_with fail
  clear a0 a1 a2 a3 a4 b0 b1 b2 b3 b4
  refine (add_is 1 (-9223372036854775808) 0 ⟨#[]⟩ 1 9223372036854775807 0 ⟨#[]⟩ ⟨1, -1, 0⟩ (by kernel_rfl) (by unfold I64; omega) (by unfold I64; omega) _).mono ?_
  rintro e v46 ⟨rfl, hv46⟩
  have A69 := A68.below hv46
  have B69 := B68.below hv46
  have C69 := C68.below hv46
  have D69 := D68.below hv46
  have E69 := E68.below hv46
  have F69 := F68.below hv46
  have G69 := G68.below hv46
  have hw69 := below_tr hw68 hv46
  clear A68 B68 C68 D68 E68 F68 G68
  clear hv46
  go_wp2_with fail
  have hn69 := Below.allocs v46 (.cells #[.int .u8 1, .int .i64 (-1), .int .i64 0, .string ⟨#[]⟩] 23)
  have Hn := Boxed.new v46 1 (-1) 0 ⟨#[]⟩ 23
  have A70 := A69.below hn69
  have B70 := B69.below hn69
  have C70 := C69.below hn69
  have D70 := D69.below hn69
  have E70 := E69.below hn69
  have F70 := F69.below hn69
  have G70 := G69.below hn69
  have hw70 := below_tr hw69 hn69
  clear A69 B69 C69 D69 E69 F69 G69
  have H70 := Hn
  clear Hn hn69
  refine (int_is 1 _).mono ?_
  rintro e v47 ⟨rfl, hv47⟩
  have A71 := A70.below hv47
  have B71 := B70.below hv47
  have C71 := C70.below hv47
  have D71 := D70.below hv47
  have E71 := E70.below hv47
  have F71 := F70.below hv47
  have G71 := G70.below hv47
  have H71 := H70.below hv47
  have hw71 := below_tr hw70 hv47
  clear A70 B70 C70 D70 E70 F70 G70 H70
  clear hv47
  go_wp2_with fail
  refine (not_is 1 1 0 ⟨#[]⟩ ⟨0, 0, 60⟩ (by kernel_rfl) _).mono ?_
  rintro e v48 ⟨rfl, hv48⟩
  have A72 := A71.below hv48
  have B72 := B71.below hv48
  have C72 := C71.below hv48
  have D72 := D71.below hv48
  have E72 := E71.below hv48
  have F72 := F71.below hv48
  have G72 := G71.below hv48
  have H72 := H71.below hv48
  have hw72 := below_tr hw71 hv48
  clear A71 B71 C71 D71 E71 F71 G71 H71
  clear hv48
  go_wp2_with fail
  have hn72 := Below.allocs v48 (.cells #[.int .u8 0, .int .i64 0, .int .i64 0, .string ⟨#[]⟩] 23)
  have In := Boxed.new v48 0 0 0 ⟨#[]⟩ 23
  have A73 := A72.below hn72
  have B73 := B72.below hn72
  have C73 := C72.below hn72
  have D73 := D72.below hn72
  have E73 := E72.below hn72
  have F73 := F72.below hn72
  have G73 := G72.below hn72
  have H73 := H72.below hn72
  have hw73 := below_tr hw72 hn72
  clear A72 B72 C72 D72 E72 F72 G72 H72
  have I73 := In
  clear In hn72
  refine (of_is true _).mono ?_
  rintro e v49 ⟨rfl, hv49⟩
  have A74 := A73.below hv49
  have B74 := B73.below hv49
  have C74 := C73.below hv49
  have D74 := D73.below hv49
  have E74 := E73.below hv49
  have F74 := F73.below hv49
  have G74 := G73.below hv49
  have H74 := H73.below hv49
  have I74 := I73.below hv49
  have hw74 := below_tr hw73 hv49
  clear A73 B73 C73 D73 E73 F73 G73 H73 I73
  clear hv49
  go_wp2_with fail
  refine (int_is 1 _).mono ?_
  rintro e v50 ⟨rfl, hv50⟩
  have A75 := A74.below hv50
  have B75 := B74.below hv50
  have C75 := C74.below hv50
  have D75 := D74.below hv50
  have E75 := E74.below hv50
  have F75 := F74.below hv50
  have G75 := G74.below hv50
  have H75 := H74.below hv50
  have I75 := I74.below hv50
  have hw75 := below_tr hw74 hv50
  clear A74 B74 C74 D74 E74 F74 G74 H74 I74
  clear hv50
  go_wp2_with fail
  refine (add_is 2 1 0 ⟨#[]⟩ 1 1 0 ⟨#[]⟩ ⟨0, 0, 60⟩ (by kernel_rfl) (by unfold I64; omega) (by unfold I64; omega) _).mono ?_
  rintro e v51 ⟨rfl, hv51⟩
  have A76 := A75.below hv51
  have B76 := B75.below hv51
  have C76 := C75.below hv51
  have D76 := D75.below hv51
  have E76 := E75.below hv51
  have F76 := F75.below hv51
  have G76 := G75.below hv51
  have H76 := H75.below hv51
  have I76 := I75.below hv51
  have hw76 := below_tr hw75 hv51
  clear A75 B75 C75 D75 E75 F75 G75 H75 I75
  clear hv51
  go_wp2_with fail
  have hn76 := Below.allocs v51 (.cells #[.int .u8 0, .int .i64 0, .int .i64 0, .string ⟨#[]⟩] 23)
  have Jn := Boxed.new v51 0 0 0 ⟨#[]⟩ 23
  have A77 := A76.below hn76
  have B77 := B76.below hn76
  have C77 := C76.below hn76
  have D77 := D76.below hn76
  have E77 := E76.below hn76
  have F77 := F76.below hn76
  have G77 := G76.below hn76
  have H77 := H76.below hn76
  have I77 := I76.below hn76
  have hw77 := below_tr hw76 hn76
  clear A76 B76 C76 D76 E76 F76 G76 H76 I76
  have J77 := Jn
  clear Jn hn76
  have hd := below_drew (v51.alloc (.cells #[.int .u8 0, .int .i64 0, .int .i64 0, .string ⟨#[]⟩] 23))
  refine wp_region_plan (fun w w' => Below w.heap.size w w') [.it (.int .i64 61), .it (.bool true), .it (.bool true), .it (.int .i64 0), .it (.bool true), .it (.bool true), .it (.bool true), .it (.agg #[.int .u8 1, .int .i64 (-9223372036854775807), .int .i64 0, .string ⟨#[]⟩]), .it (.agg #[.int .u8 1, .int .i64 (-9223372036854775807), .int .i64 0, .string ⟨#[]⟩]), .it (.bool true), .it (.bool true), .it (.bool true), .it (.int .i64 61), .it (.bool true), .it (.bool true), .it (.bool true), .it (.int .i64 0), .it (.bool true), .it (.bool true), .it (.bool true), .it (.agg #[.int .u8 1, .int .i64 (-9223372036854775808), .int .i64 0, .string ⟨#[]⟩]), .it (.agg #[.int .u8 1, .int .i64 (-9223372036854775808), .int .i64 0, .string ⟨#[]⟩]), .it (.bool true), .it (.bool true), .it (.bool true), .it (.int .i64 61), .it (.bool true), .it (.bool true), .it (.bool true), .it (.int .i64 0), .it (.bool true), .it (.bool true), .it (.bool true), .it (.agg #[.int .u8 1, .int .i64 (-1), .int .i64 0, .string ⟨#[]⟩]), .it (.agg #[.int .u8 1, .int .i64 (-1), .int .i64 0, .string ⟨#[]⟩]), .it (.bool true), .it (.bool true), .it (.bool true), .it (.int .i64 60), .it (.bool true), .it (.bool true), .it (.bool true), .it (.int .i64 60), .it (.bool true), .it (.bool true), .it (.bool true), .it (.bool true), .it (.bool true), .it (.bool true)] (by kernel_rfl) (by kernel_rfl) (fun w => Below.refl _ _) (fun _ _ _ => below_tr) ?_
  iterate 7 (refine seqP_value (fun w => Below.refl _ _) _ (by first | rfl | simp) (fun w' hw' hctx => by (go_simp); (try first | with_reducible rfl | simp)) ?_; simp only [Act.put, List.setIfInBounds_toArray, List.set_cons_zero, List.set_cons_succ])
  refine seqP_value (fun w => Below.refl _ _) _ (by first | rfl | simp) (fun w' hw' hctx => ?_) ?_
  · obtain ⟨c0, c1, c2, c3, c4⟩ := D77.below (below_tr hd hw')
    go_simp
    try first | with_reducible rfl | simp
  simp only [Act.put, List.setIfInBounds_toArray, List.set_cons_zero, List.set_cons_succ]
  refine seqP_call 14 #[.int .i64 (-9223372036854775807)] (.agg #[.int .u8 1, .int .i64 (-9223372036854775807), .int .i64 0, .string ⟨#[]⟩]) (by first | rfl | simp) (fun w' hw' hctx => ?_) (fun w' hw' hctx => int_is (-9223372036854775807) w') ?_
  · go_simp
  simp only [Act.put, List.setIfInBounds_toArray, List.set_cons_zero, List.set_cons_succ]
  iterate 11 (refine seqP_value (fun w => Below.refl _ _) _ (by first | rfl | simp) (fun w' hw' hctx => by (go_simp); (try first | with_reducible rfl | simp)) ?_; simp only [Act.put, List.setIfInBounds_toArray, List.set_cons_zero, List.set_cons_succ])
  refine seqP_value (fun w => Below.refl _ _) _ (by first | rfl | simp) (fun w' hw' hctx => ?_) ?_
  · obtain ⟨c0, c1, c2, c3, c4⟩ := F77.below (below_tr hd hw')
    go_simp
    try first | with_reducible rfl | simp
  simp only [Act.put, List.setIfInBounds_toArray, List.set_cons_zero, List.set_cons_succ]
  refine seqP_value (fun w => Below.refl _ _) _ (by first | rfl | simp) (fun w' hw' hctx => ?_) ?_
  · obtain ⟨c0, c1, c2, c3, c4⟩ := A77.below (below_tr hd hw')
    go_simp
    try first | with_reducible rfl | simp
  simp only [Act.put, List.setIfInBounds_toArray, List.set_cons_zero, List.set_cons_succ]
  iterate 11 (refine seqP_value (fun w => Below.refl _ _) _ (by first | rfl | simp) (fun w' hw' hctx => by (go_simp); (try first | with_reducible rfl | simp)) ?_; simp only [Act.put, List.setIfInBounds_toArray, List.set_cons_zero, List.set_cons_succ])
  refine seqP_value (fun w => Below.refl _ _) _ (by first | rfl | simp) (fun w' hw' hctx => ?_) ?_
  · obtain ⟨c0, c1, c2, c3, c4⟩ := H77.below (below_tr hd hw')
    go_simp
    try first | with_reducible rfl | simp
  simp only [Act.put, List.setIfInBounds_toArray, List.set_cons_zero, List.set_cons_succ]
  refine seqP_call 14 #[.int .i64 (-1)] (.agg #[.int .u8 1, .int .i64 (-1), .int .i64 0, .string ⟨#[]⟩]) (by first | rfl | simp) (fun w' hw' hctx => ?_) (fun w' hw' hctx => int_is (-1) w') ?_
  · go_simp
  simp only [Act.put, List.setIfInBounds_toArray, List.set_cons_zero, List.set_cons_succ]
  iterate 11 (refine seqP_value (fun w => Below.refl _ _) _ (by first | rfl | simp) (fun w' hw' hctx => by (go_simp); (try first | with_reducible rfl | simp)) ?_; simp only [Act.put, List.setIfInBounds_toArray, List.set_cons_zero, List.set_cons_succ])
  refine seqP_call 9 #[] (.bool true) (by first | rfl | simp) (fun w' hw' hctx => ?_) (fun w' hw' hctx => awake_is w') ?_
  · go_simp
  simp only [Act.put, List.setIfInBounds_toArray, List.set_cons_zero, List.set_cons_succ]
  iterate 2 (refine seqP_value (fun w => Below.refl _ _) _ (by first | rfl | simp) (fun w' hw' hctx => by (go_simp); (try first | with_reducible rfl | simp)) ?_; simp only [Act.put, List.setIfInBounds_toArray, List.set_cons_zero, List.set_cons_succ])
  refine seqP_nil (fun v52 hR hctx => ?_)
  have hv52 := below_tr hd hR
  clear hctx hR hd
  have A78 := A77.below hv52
  have B78 := B77.below hv52
  have C78 := C77.below hv52
  have D78 := D77.below hv52
  have E78 := E77.below hv52
  have F78 := F77.below hv52
  have G78 := G77.below hv52
  have H78 := H77.below hv52
  have I78 := I77.below hv52
  have J78 := J77.below hv52
  have hw78 := below_tr hw77 hv52
  clear A77 B77 C77 D77 E77 F77 G77 H77 I77 J77
  clear hv52
  go_wp2_with fail
  go_ret
  exact ⟨rfl, hw78⟩
end Go.Proofs.Ytmbjhahlbbhdaaa
