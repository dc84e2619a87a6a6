/-
  What stays while a region runs that draws its order and writes one value into one block.
-/
import Derived.Test.YtflclkmhdngmaaaQNum
import Derived.Test.YtflclkmhdngmaaaRegW
namespace Go.Proofs.Ytflclkmhdngmaaa
open Go.RowKit

theorem Boxed.under {B : Nat} {W W' : World} {g : Nat} {k n u : Int} {t : ByteArray} (h : Boxed W g k n u t) (hb : Below B W W') (hg : g < B) : Boxed W' g k n u t := by
  obtain ⟨h0, h1, h2, h3, h4⟩ := h
  exact ⟨by rw [hb.cell hg]; exact h0, by rw [hb.cell hg]; exact h1, by rw [hb.cell hg]; exact h2, by rw [hb.cell hg]; exact h3, Nat.lt_of_lt_of_le h4 hb.size⟩

theorem Soft.under {B : Nat} {W W' : World} {g : Nat} (h : Soft W g) (hb : Below B W W') (hg : g < B) : Soft W' g := by
  obtain ⟨h0, h1, h2, h3, h4⟩ := h
  exact ⟨by rw [hb.frozen hg]; exact h0, by rw [hb.frozen hg]; exact h1, by rw [hb.frozen hg]; exact h2, by rw [hb.frozen hg]; exact h3, Nat.lt_of_lt_of_le h4 hb.size⟩

def Cells (W : World) (g : Nat) : Prop := ∃ k n u t, Boxed W g k n u t

/-- Below B all is as it was; blocks of values stay such; one that holds this value goes on to. -/
structure KeepR (B : Nat) (k n u : Int) (t : ByteArray) (w w' : World) : Prop where
  below : Below B w w'
  soft : ∀ h, Soft w h → Soft w' h
  cells : ∀ h, Cells w h → Cells w' h
  same : ∀ h, Boxed w h k n u t → Boxed w' h k n u t

theorem KeepR.refl (B : Nat) (k n u : Int) (t : ByteArray) (w : World) : KeepR B k n u t w w := ⟨Below.refl _ _, fun _ h => h, fun _ h => h, fun _ h => h⟩
theorem KeepR.trans {B : Nat} {k n u : Int} {t : ByteArray} (a b c : World) (h : KeepR B k n u t a b) (h2 : KeepR B k n u t b c) : KeepR B k n u t a c :=
  ⟨h.below.trans h2.below, fun x hx => h2.soft x (h.soft x hx), fun x hx => h2.cells x (h.cells x hx), fun x hx => h2.same x (h.same x hx)⟩

theorem KeepR.of_below {B : Nat} {k n u : Int} {t : ByteArray} {w w' : World} (h : Below w.heap.size w w') (hB : B ≤ w.heap.size) : KeepR B k n u t w w' :=
  ⟨h.mono hB, fun _ hx => hx.below h, fun _ ⟨a, b, c, d, hx⟩ => ⟨a, b, c, d, hx.below h⟩, fun _ hx => hx.below h⟩

theorem KeepR.put {B : Nat} {k n u : Int} {t : ByteArray} {w : World} {g : Nat} (hB : B ≤ g) (hc : Cells w g) : KeepR B k n u t w (put4 w g k n u t) := by
  obtain ⟨a, b, c, d, hb⟩ := hc
  refine ⟨below_put4 (Below.refl _ _) hB _ _ _ _, fun x hx => soft_put4 hx _ _ _ _, fun x hx => ?_, fun x hx => ?_⟩
  · by_cases hxg : x = g
    · subst hxg; exact ⟨_, _, _, _, boxed_put4 hb _ _ _ _⟩
    · obtain ⟨a', b', c', d', hx'⟩ := hx
      exact ⟨a', b', c', d', boxed_put4_ne hx' hxg _ _ _ _⟩
  · by_cases hxg : x = g
    · subst hxg; exact boxed_put4 hb _ _ _ _
    · exact boxed_put4_ne hx hxg _ _ _ _

theorem below_drew (w : World) : Below w.heap.size w w.drew := (Below.refl _ _).drew

theorem drew_size (w : World) : w.drew.heap.size = w.heap.size := rfl

set_option maxHeartbeats 1000000 in
theorem neg_is (k n u : Int) (t : ByteArray) (r : Res) (hr : calcR 1 k (0 - n) = r) (hn : I64 n) (w : World) :
    Calls Try.prog 55 #[.agg #[.int .u8 k, .int .i64 n, .int .i64 u, .string t]] w fun e w' => e = .returned (.tuple #[.agg #[.int .u8 r.k, .int .i64 r.n, .int .i64 0, .string ⟨#[]⟩], .int .i64 r.e]) ∧ Below w.heap.size w w' := by
  have HR := Lib.hid hr
  have HN := Lib.hid hn
  clear hr hn
  obtain ⟨W, hW, A0, R0, SR0, hw, hs⟩ := boxes2 w k n u t
  obtain ⟨g, hg⟩ : ∃ g, w.heap.size = g := ⟨_, rfl⟩
  rw [hg] at A0 R0 SR0 hs
  have HS := Lib.hid hs
  have hsz : g + 1 ≤ W.heap.size := by omega
  clear hs
  go_enter Try.func55, Try.ntmps55
  go_wp2_with fail
  rw [← hW]
  clear hW
  have hd := below_drew W
  have Ad := A0.below hd
  have Rd := R0.below hd
  have Sd := SR0.below hd
  refine wp_region_plan (KeepR (g + 1) r.k r.n 0 ⟨#[]⟩) [.it (.agg #[.int .u8 1, .int .i64 0, .int .i64 0, .string ⟨#[]⟩]), .it (.agg #[.int .u8 k, .int .i64 n, .int .i64 u, .string t]), .it (.tuple #[.agg #[.int .u8 r.k, .int .i64 r.n, .int .i64 0, .string ⟨#[]⟩], .int .i64 r.e]), .it (.agg #[.int .u8 r.k, .int .i64 r.n, .int .i64 0, .string ⟨#[]⟩]), .it (.int .i64 r.e), .of (fun w v => Boxed w (g + 1) r.k r.n 0 ⟨#[]⟩), .it (.int .i64 r.e)] (by kernel_rfl) (by kernel_rfl) (KeepR.refl _ _ _ _ _) KeepR.trans ?_
  refine seqP_call 72 #[.int .i64 0] (.agg #[.int .u8 1, .int .i64 0, .int .i64 0, .string ⟨#[]⟩]) (by first | rfl | simp) (fun w' hw' hctx => ?_) (fun w' hw' hctx => (int_is 0 w').mono fun e w2 ⟨he, hb⟩ => ⟨he, KeepR.of_below hb (Nat.le_trans hsz hw'.below.size)⟩) ?_
  · go_simp
  simp only [Act.put, List.setIfInBounds_toArray, List.set_cons_zero, List.set_cons_succ]
  refine seqP_value (KeepR.refl _ _ _ _ _) _ (by first | rfl | simp) (fun w' hw' hctx => ?_) ?_
  · obtain ⟨a0, a1, a2, a3, a4⟩ := Ad.under hw'.below (Nat.lt_succ_self g)
    go_simp
    try first | with_reducible rfl | simp
  simp only [Act.put, List.setIfInBounds_toArray, List.set_cons_zero, List.set_cons_succ]
  refine seqP_call 59 #[.agg #[.int .u8 1, .int .i64 0, .int .i64 0, .string ⟨#[]⟩], .agg #[.int .u8 k, .int .i64 n, .int .i64 u, .string t]] (.tuple #[.agg #[.int .u8 r.k, .int .i64 r.n, .int .i64 0, .string ⟨#[]⟩], .int .i64 r.e]) (by first | rfl | simp) (fun w' hw' hctx => ?_) (fun w' hw' hctx => (sub_is 1 0 0 ⟨#[]⟩ k n u t r HR.out (by unfold I64; omega) HN.out w').mono fun e w2 ⟨he, hb⟩ => ⟨he, KeepR.of_below hb (Nat.le_trans hsz hw'.below.size)⟩) ?_
  · go_simp
  simp only [Act.put, List.setIfInBounds_toArray, List.set_cons_zero, List.set_cons_succ]
  refine seqP_value (KeepR.refl _ _ _ _ _) _ (by first | rfl | simp) (fun w' hw' hctx => ?_) ?_
  · go_simp
    try first | with_reducible rfl | simp
  simp only [Act.put, List.setIfInBounds_toArray, List.set_cons_zero, List.set_cons_succ]
  refine seqP_value (KeepR.refl _ _ _ _ _) _ (by first | rfl | simp) (fun w' hw' hctx => ?_) ?_
  · go_simp
    try first | with_reducible rfl | simp
  simp only [Act.put, List.setIfInBounds_toArray, List.set_cons_zero, List.set_cons_succ]
  refine seqP_writeOf _ (fun w w' v hR hV => hR.same _ hV) (by first | rfl | simp) (fun w' hw' hctx => ⟨put4 w' (g + 1) r.k r.n 0 ⟨#[]⟩, ?_, KeepR.put (Nat.le_refl _) (hw'.cells _ ⟨_, _, _, _, Rd⟩), ?_⟩) (fun v => ?_)
  · obtain ⟨x0, x1, x2, x3, b0, b1, b2, b3, b4⟩ := hw'.cells _ ⟨_, _, _, _, Rd⟩
    obtain ⟨s0, s1, s2, s3, s4⟩ := hw'.soft _ Sd
    go_simp
    rfl
  · exact boxed_put4 (hw'.cells _ ⟨_, _, _, _, Rd⟩).choose_spec.choose_spec.choose_spec.choose_spec _ _ _ _
  simp only [Act.put]
  refine seqP_value (KeepR.refl _ _ _ _ _) _ (by first | rfl | simp) (fun w' hw' hctx => ?_) ?_
  · go_simp
    try first | with_reducible rfl | simp
  simp only [Act.put, List.setIfInBounds_toArray, List.set_cons_zero, List.set_cons_succ]
  refine seqP_nil (fun w' hw' hctx => ?_)
  have hB : Boxed w' (g + 1) r.k r.n 0 ⟨#[]⟩ := hctx.1
  have hb : Below w.heap.size w w' := (below_tr hw hd).trans (hw'.below.mono (by omega))
  clear hctx hw'
  obtain ⟨q0, q1, q2, q3, q4⟩ := hB
  go_wp2_with fail
  exact bodyPost_ret (v := .tuple #[.agg #[.int .u8 r.k, .int .i64 r.n, .int .i64 0, .string ⟨#[]⟩], .int .i64 r.e]) (by simp [results, Try.results55, go_sem, q0, q1, q2, q3]) rfl ⟨rfl, hb⟩

end Go.Proofs.Ytflclkmhdngmaaa
