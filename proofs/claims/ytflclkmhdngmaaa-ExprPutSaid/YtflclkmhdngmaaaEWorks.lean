/-
  works: the examples of chapter 3 hold (what each law of package expr asks first).
-/
import Derived.Test.YtflclkmhdngmaaaEIs
namespace Go.Proofs.Ytflclkmhdngmaaa
open Go.RowKit

theorem vwf {k n u : Int} {t : ByteArray} (h : 0 ≤ k ∧ k ≤ 255 ∧ I64 n ∧ I64 u ∧ t.size ≤ 140737488351232) : (⟨k, n, u, t⟩ : Val).wf := ⟨h.1, h.2.1, h.2.2.1, h.2.2.2.1, h.2.2.2.2⟩

set_option maxRecDepth 100000 in
set_option maxHeartbeats 8000000 in
theorem works_is (w : World) : Calls Try.prog 8 #[] w fun x w' => x = .returned (.bool true) ∧ Below w.heap.size w w' := by
  go_enter Try.func8, Try.ntmps8
  go_wp2_with fail
  refine (col_is 0 _).mono ?_
  rintro _ W1 ⟨rfl, hb1⟩
  go_wp2_with fail
  refine (number_is 1 _).mono ?_
  rintro _ W2 ⟨rfl, hb2⟩
  have HB2 := Lib.hid (below_tr hb1 hb2)
  clear hb1 hb2
  go_wp2_with fail
  refine (lit_is 1 1 0 ⟨#[]⟩ _).mono ?_
  rintro _ W3 ⟨rfl, hb3⟩
  have HB3 := Lib.hid (below_tr HB2.out hb3)
  clear hb3
  have hS := isS2_new W3 (mkCol 0) (mkCol 0) (mkLit ⟨1, 1, 0, ⟨#[]⟩⟩) (mkLit ⟨1, 1, 0, ⟨#[]⟩⟩) (in_col (by decide) _) (Same.refl _) (in_lit (vwf (by decide)) _) (Same.refl _)
  go_wp2_with fail
  refine (of2_is 6 (by decide) (by decide) _ _ _ hS).mono ?_
  rintro _ W4 ⟨u, rfl, hb4, me, rfl, hme, hms⟩
  have HB4 := Lib.hid (below_tr HB3.out (below_tr (Below.allocs _ _) hb4))
  obtain ⟨W5, g1, hW5, hg1, BE, hb5⟩ := boxE' W4 me
  have HB5 := Lib.hid (below_tr HB4.out hb5)
  have HME := Lib.hid (hme.below hb5)
  have HMS := Lib.hid hms
  have HE5 := Lib.hid BE
  clear hS hb4 hme hms hb5 BE
  go_wp2_with fail
  refine (number_is 9223372036854775807 _).mono ?_
  rintro _ W6 ⟨rfl, hb6⟩
  obtain ⟨W7, g2, hW7, hg2, BL, hb7⟩ := boxX W6 ⟨1, 9223372036854775807, 0, ⟨#[]⟩⟩
  dsimp only at hW7 BL
  have hb67 := below_tr hb6 hb7
  have HB7 := Lib.hid (below_tr HB5.out hb67)
  have HE7 := Lib.hid (HE5.out.below hb67)
  have HME7 := Lib.hid (HME.out.below hb67)
  have HL7 := Lib.hid BL
  clear hb6 hb7 hb67 BL HME HE5
  have HW7 := Lib.hid hW7
  clear hW7
  go_wp2_with fail
  rw [HW7.out]
  refine (lit_is 3 0 0 ⟨#[97]⟩ _).mono ?_
  rintro _ W8 ⟨rfl, hb8⟩
  obtain ⟨W9, g3, hW9, hg3, BA, hb9⟩ := boxE' W8 (mkLit ⟨3, 0, 0, ⟨#[97]⟩⟩)
  have hW9' : W8.alloc (.cells #[.int .u8 1, .int .u8 3, .int .i64 0, .int .i64 0, .string ⟨#[97]⟩, .int .i64 0, .slice none 0 0] 26) = W9 := hW9
  have hb89 := below_tr hb8 hb9
  have HB9 := Lib.hid (below_tr HB7.out hb89)
  have HE9 := Lib.hid (HE7.out.below hb89)
  have HME9 := Lib.hid (HME7.out.below hb89)
  have HL9 := Lib.hid (HL7.out.below hb89)
  have HA9 := Lib.hid BA
  clear hb8 hb9 hb89 BA HME7 HE7 HL7 hW9 hW5
  have HW9 := Lib.hid hW9'
  clear hW9'
  go_wp2_with fail
  rw [HW9.out]
  have hdr := below_drw W9
  try simp only [List.append_eq, List.cons_append, List.nil_append]
  refine RX.wp_region_plan (fun w w' => Below w.heap.size w w') [.it (.agg #[.int .u8 me.op, .int .u8 me.v.k, .int .i64 me.v.n, .int .i64 me.v.u, .string me.v.t, .int .i64 me.m, .slice me.a me.len me.cap]), .it (.agg #[.int .u8 1, .int .i64 5, .int .i64 0, .string ⟨#[]⟩]), .it (.agg #[.int .u8 1, .int .i64 4, .int .i64 0, .string ⟨#[]⟩]), .of (IsR 1 (fun _ => (⟨1, 4, 0, ⟨#[]⟩⟩ : Val))), .it (.bool true), .it (.bool true), .it (.agg #[.int .u8 me.op, .int .u8 me.v.k, .int .i64 me.v.n, .int .i64 me.v.u, .string me.v.t, .int .i64 me.m, .slice me.a me.len me.cap]), .it (.agg #[.int .u8 0, .int .i64 0, .int .i64 0, .string ⟨#[]⟩]), .it (.agg #[.int .u8 0, .int .i64 0, .int .i64 0, .string ⟨#[]⟩]), .of (IsR 1 (fun _ => (⟨0, 0, 0, ⟨#[]⟩⟩ : Val))), .it (.bool true), .it (.bool true), .it (.bool true), .it (.agg #[.int .u8 me.op, .int .u8 me.v.k, .int .i64 me.v.n, .int .i64 me.v.u, .string me.v.t, .int .i64 me.m, .slice me.a me.len me.cap]), .it (.agg #[.int .u8 1, .int .i64 9223372036854775807, .int .i64 0, .string ⟨#[]⟩]), .of (IsR 1 (fun _ => (⟨1, 9223372036854775807, 0, ⟨#[]⟩⟩ : Val))), .it (.bool true), .it (.bool true), .it (.bool true), .it (.agg #[.int .u8 me.op, .int .u8 me.v.k, .int .i64 me.v.n, .int .i64 me.v.u, .string me.v.t, .int .i64 me.m, .slice me.a me.len me.cap]), .it (.pointer (some ⟨g3, 1, none⟩)), .it (.agg #[.int .u8 3, .int .i64 0, .int .i64 0, .string ⟨#[97]⟩]), .of (IsR 1 (fun _ => (⟨3, 0, 0, ⟨#[97]⟩⟩ : Val))), .it (.bool true), .it (.bool true), .it (.bool true), .it (.agg #[.int .u8 me.op, .int .u8 me.v.k, .int .i64 me.v.n, .int .i64 me.v.u, .string me.v.t, .int .i64 me.m, .slice me.a me.len me.cap]), .it (.bool true), .it (.bool true), .it (.bool true), .it (.agg #[.int .u8 2, .int .i64 0, .int .i64 0, .string ⟨#[]⟩]), .it (.agg #[.int .u8 1, .int .u8 2, .int .i64 0, .int .i64 0, .string ⟨#[]⟩, .int .i64 0, .slice none 0 0]), .it (.agg #[.int .u8 me.op, .int .u8 me.v.k, .int .i64 me.v.n, .int .i64 me.v.u, .string me.v.t, .int .i64 me.m, .slice me.a me.len me.cap]), .of (IsS 2 (fun i => if i = 0 then (mkLit ⟨2, 0, 0, ⟨#[]⟩⟩) else moreT)), .of (IsE (mk2 11 (mkLit ⟨2, 0, 0, ⟨#[]⟩⟩) moreT)), .it (.agg #[.int .u8 1, .int .i64 9223372036854775807, .int .i64 0, .string ⟨#[]⟩]), .of (IsR 1 (fun _ => (⟨1, 9223372036854775807, 0, ⟨#[]⟩⟩ : Val))), .it (.bool true), .it (.bool true), .it (.bool true), .it (.agg #[.int .u8 4, .int .i64 1, .int .i64 3, .string ⟨#[]⟩]), .it (.agg #[.int .u8 1, .int .u8 4, .int .i64 1, .int .i64 3, .string ⟨#[]⟩, .int .i64 0, .slice none 0 0]), .it (.agg #[.int .u8 4, .int .i64 2, .int .i64 5, .string ⟨#[]⟩]), .it (.agg #[.int .u8 1, .int .u8 4, .int .i64 2, .int .i64 5, .string ⟨#[]⟩, .int .i64 0, .slice none 0 0]), .of (IsS 2 (fun i => if i = 0 then (mkLit ⟨4, 1, 3, ⟨#[]⟩⟩) else (mkLit ⟨4, 2, 5, ⟨#[]⟩⟩))), .of (IsE (mk2 13 (mkLit ⟨4, 1, 3, ⟨#[]⟩⟩) (mkLit ⟨4, 2, 5, ⟨#[]⟩⟩))), .it (.agg #[.int .u8 2, .int .i64 1, .int .i64 0, .string ⟨#[]⟩]), .it (.bool true), .it (.bool true), .it (.bool true), .it (.agg #[.int .u8 4, .int .i64 1, .int .i64 3, .string ⟨#[]⟩]), .it (.agg #[.int .u8 1, .int .u8 4, .int .i64 1, .int .i64 3, .string ⟨#[]⟩, .int .i64 0, .slice none 0 0]), .it (.agg #[.int .u8 4, .int .i64 3, .int .i64 5, .string ⟨#[]⟩]), .it (.agg #[.int .u8 1, .int .u8 4, .int .i64 3, .int .i64 5, .string ⟨#[]⟩, .int .i64 0, .slice none 0 0]), .of (IsS 2 (fun i => if i = 0 then (mkLit ⟨4, 1, 3, ⟨#[]⟩⟩) else (mkLit ⟨4, 3, 5, ⟨#[]⟩⟩))), .of (IsE (mk2 13 (mkLit ⟨4, 1, 3, ⟨#[]⟩⟩) (mkLit ⟨4, 3, 5, ⟨#[]⟩⟩))), .it (.agg #[.int .u8 2, .int .i64 0, .int .i64 0, .string ⟨#[]⟩]), .it (.bool true), .it (.bool true), .it (.bool true)] (by kernel_rfl) (by kernel_rfl) (fun _ => Below.refl _ _) (fun _ _ _ => below_tr) ?_
  refine RX.seqP_value (fun _ => Below.refl _ _) _ (by first | rfl | simp) (fun w' hw' hctx => ?_) ?_
  · obtain ⟨c0, c1, c2, c3, c4, c5, c6, c7⟩ := HE9.out.below (below_tr hdr hw')
    go_simp
    try first | with_reducible rfl | simp
  simp only [Act.put, List.setIfInBounds_toArray, List.set_cons_zero, List.set_cons_succ]
  refine RX.seqP_call (18) #[.int .i64 5] (.agg #[.int .u8 1, .int .i64 5, .int .i64 0, .string ⟨#[]⟩]) (by first | rfl | simp) (fun w' hw' hctx => ?_) (fun w' hw' hctx => number_is 5 w') ?_
  · go_simp
  simp only [Act.put, List.setIfInBounds_toArray, List.set_cons_zero, List.set_cons_succ]
  refine RX.seqP_call (18) #[.int .i64 4] (.agg #[.int .u8 1, .int .i64 4, .int .i64 0, .string ⟨#[]⟩]) (by first | rfl | simp) (fun w' hw' hctx => ?_) (fun w' hw' hctx => number_is 4 w') ?_
  · go_simp
  simp only [Act.put, List.setIfInBounds_toArray, List.set_cons_zero, List.set_cons_succ]
  refine RX.seqP_make (IsR 1 (fun _ => (⟨1, 4, 0, ⟨#[]⟩⟩ : Val))) (fun w w' v hb h => h.below hb) (by first | rfl | simp) (fun w' hw' hctx => ?_) (fun u3 => ?_)
  · exact ⟨.slice (some ⟨w'.heap.size, 0, none⟩) 1 1, w'.alloc (.cells #[.int .u8 1, .int .i64 4, .int .i64 0, .string ⟨#[]⟩] 23), by go_simp, Below.allocs _ _, isR1_new w' (⟨1, 4, 0, ⟨#[]⟩⟩ : Val) (vwf (by decide))⟩
  simp only [Act.put, List.setIfInBounds_toArray, List.set_cons_zero, List.set_cons_succ]
  refine RX.seqP_call (26) #[.agg #[.int .u8 me.op, .int .u8 me.v.k, .int .i64 me.v.n, .int .i64 me.v.u, .string me.v.t, .int .i64 me.m, .slice me.a me.len me.cap], .agg #[.int .u8 1, .int .i64 5, .int .i64 0, .string ⟨#[]⟩], u3] (.bool true) (by first | rfl | simp) (fun w' hw' hctx => ?_) (fun w' hw' hctx => is_of _ _ _ ⟨1, 5, 0, ⟨#[]⟩⟩ ex1 _ _ w' ⟨me, rfl, HME9.out.below (below_tr hdr hw'), HMS.out⟩ hctx.1) ?_
  · go_simp
  simp only [Act.put, List.setIfInBounds_toArray, List.set_cons_zero, List.set_cons_succ]
  refine RX.seqP_value (fun _ => Below.refl _ _) _ (by first | rfl | simp) (fun w' hw' hctx => by (go_simp); (try first | with_reducible rfl | simp)) ?_
  simp only [Act.put, List.setIfInBounds_toArray, List.set_cons_zero, List.set_cons_succ]
  refine RX.seqP_value (fun _ => Below.refl _ _) _ (by first | rfl | simp) (fun w' hw' hctx => ?_) ?_
  · obtain ⟨c0, c1, c2, c3, c4, c5, c6, c7⟩ := HE9.out.below (below_tr hdr hw')
    go_simp
    try first | with_reducible rfl | simp
  simp only [Act.put, List.setIfInBounds_toArray, List.set_cons_zero, List.set_cons_succ]
  refine RX.seqP_value (fun _ => Below.refl _ _) _ (by first | rfl | simp) (fun w' hw' hctx => by (go_simp); (try first | with_reducible rfl | simp)) ?_
  simp only [Act.put, List.setIfInBounds_toArray, List.set_cons_zero, List.set_cons_succ]
  refine RX.seqP_value (fun _ => Below.refl _ _) _ (by first | rfl | simp) (fun w' hw' hctx => by (go_simp); (try first | with_reducible rfl | simp)) ?_
  simp only [Act.put, List.setIfInBounds_toArray, List.set_cons_zero, List.set_cons_succ]
  refine RX.seqP_make (IsR 1 (fun _ => (⟨0, 0, 0, ⟨#[]⟩⟩ : Val))) (fun w w' v hb h => h.below hb) (by first | rfl | simp) (fun w' hw' hctx => ?_) (fun u9 => ?_)
  · exact ⟨.slice (some ⟨w'.heap.size, 0, none⟩) 1 1, w'.alloc (.cells #[.int .u8 0, .int .i64 0, .int .i64 0, .string ⟨#[]⟩] 23), by go_simp, Below.allocs _ _, isR1_new w' (⟨0, 0, 0, ⟨#[]⟩⟩ : Val) (vwf (by decide))⟩
  simp only [Act.put, List.setIfInBounds_toArray, List.set_cons_zero, List.set_cons_succ]
  refine RX.seqP_call (26) #[.agg #[.int .u8 me.op, .int .u8 me.v.k, .int .i64 me.v.n, .int .i64 me.v.u, .string me.v.t, .int .i64 me.m, .slice me.a me.len me.cap], .agg #[.int .u8 0, .int .i64 0, .int .i64 0, .string ⟨#[]⟩], u9] (.bool true) (by first | rfl | simp) (fun w' hw' hctx => ?_) (fun w' hw' hctx => is_of _ _ _ ⟨0, 0, 0, ⟨#[]⟩⟩ ex2 _ _ w' ⟨me, rfl, HME9.out.below (below_tr hdr hw'), HMS.out⟩ hctx.1) ?_
  · go_simp
  simp only [Act.put, List.setIfInBounds_toArray, List.set_cons_zero, List.set_cons_succ]
  refine RX.seqP_value (fun _ => Below.refl _ _) _ (by first | rfl | simp) (fun w' hw' hctx => by (go_simp); (try first | with_reducible rfl | simp)) ?_
  simp only [Act.put, List.setIfInBounds_toArray, List.set_cons_zero, List.set_cons_succ]
  refine RX.seqP_value (fun _ => Below.refl _ _) _ (by first | rfl | simp) (fun w' hw' hctx => by (go_simp); (try first | with_reducible rfl | simp)) ?_
  simp only [Act.put, List.setIfInBounds_toArray, List.set_cons_zero, List.set_cons_succ]
  refine RX.seqP_value (fun _ => Below.refl _ _) _ (by first | rfl | simp) (fun w' hw' hctx => ?_) ?_
  · obtain ⟨c0, c1, c2, c3, c4, c5, c6, c7⟩ := HE9.out.below (below_tr hdr hw')
    go_simp
    try first | with_reducible rfl | simp
  simp only [Act.put, List.setIfInBounds_toArray, List.set_cons_zero, List.set_cons_succ]
  refine RX.seqP_value (fun _ => Below.refl _ _) _ (by first | rfl | simp) (fun w' hw' hctx => ?_) ?_
  · obtain ⟨c0, c1, c2, c3, c4⟩ := HL9.out.below (below_tr hdr hw')
    go_simp
    try first | with_reducible rfl | simp
  simp only [Act.put, List.setIfInBounds_toArray, List.set_cons_zero, List.set_cons_succ]
  refine RX.seqP_make (IsR 1 (fun _ => (⟨1, 9223372036854775807, 0, ⟨#[]⟩⟩ : Val))) (fun w w' v hb h => h.below hb) (by first | rfl | simp) (fun w' hw' hctx => ?_) (fun u15 => ?_)
  · exact ⟨.slice (some ⟨w'.heap.size, 0, none⟩) 1 1, w'.alloc (.cells #[.int .u8 1, .int .i64 9223372036854775807, .int .i64 0, .string ⟨#[]⟩] 23), by go_simp, Below.allocs _ _, isR1_new w' (⟨1, 9223372036854775807, 0, ⟨#[]⟩⟩ : Val) (vwf (by decide))⟩
  simp only [Act.put, List.setIfInBounds_toArray, List.set_cons_zero, List.set_cons_succ]
  refine RX.seqP_call (27) #[.agg #[.int .u8 me.op, .int .u8 me.v.k, .int .i64 me.v.n, .int .i64 me.v.u, .string me.v.t, .int .i64 me.m, .slice me.a me.len me.cap], .int .i64 61, u15] (.bool true) (by first | rfl | simp) (fun w' hw' hctx => ?_) (fun w' hw' hctx => fails_of _ _ _ 61 ex3 _ _ w' ⟨me, rfl, HME9.out.below (below_tr hdr hw'), HMS.out⟩ hctx.1) ?_
  · go_simp
  simp only [Act.put, List.setIfInBounds_toArray, List.set_cons_zero, List.set_cons_succ]
  refine RX.seqP_value (fun _ => Below.refl _ _) _ (by first | rfl | simp) (fun w' hw' hctx => by (go_simp); (try first | with_reducible rfl | simp)) ?_
  simp only [Act.put, List.setIfInBounds_toArray, List.set_cons_zero, List.set_cons_succ]
  refine RX.seqP_value (fun _ => Below.refl _ _) _ (by first | rfl | simp) (fun w' hw' hctx => by (go_simp); (try first | with_reducible rfl | simp)) ?_
  simp only [Act.put, List.setIfInBounds_toArray, List.set_cons_zero, List.set_cons_succ]
  refine RX.seqP_value (fun _ => Below.refl _ _) _ (by first | rfl | simp) (fun w' hw' hctx => ?_) ?_
  · obtain ⟨c0, c1, c2, c3, c4, c5, c6, c7⟩ := HE9.out.below (below_tr hdr hw')
    go_simp
    try first | with_reducible rfl | simp
  simp only [Act.put, List.setIfInBounds_toArray, List.set_cons_zero, List.set_cons_succ]
  refine RX.seqP_value (fun _ => Below.refl _ _) _ (by first | rfl | simp) (fun w' hw' hctx => by (go_simp); (try first | with_reducible rfl | simp)) ?_
  simp only [Act.put, List.setIfInBounds_toArray, List.set_cons_zero, List.set_cons_succ]
  refine RX.seqP_value (fun _ => Below.refl _ _) _ (by first | rfl | simp) (fun w' hw' hctx => ?_) ?_
  · obtain ⟨c0, c1, c2, c3, c4, c5, c6, c7⟩ := HA9.out.below (below_tr hdr hw')
    dsimp only [mkLit, Ex.op, Ex.v, Ex.m, Ex.a, Ex.len, Ex.cap] at c0 c1 c2 c3 c4 c5 c6
    go_simp
    try first | with_reducible rfl | simp
  simp only [Act.put, List.setIfInBounds_toArray, List.set_cons_zero, List.set_cons_succ]
  refine RX.seqP_make (IsR 1 (fun _ => (⟨3, 0, 0, ⟨#[97]⟩⟩ : Val))) (fun w w' v hb h => h.below hb) (by first | rfl | simp) (fun w' hw' hctx => ?_) (fun u22 => ?_)
  · exact ⟨.slice (some ⟨w'.heap.size, 0, none⟩) 1 1, w'.alloc (.cells #[.int .u8 3, .int .i64 0, .int .i64 0, .string ⟨#[97]⟩] 23), by go_simp, Below.allocs _ _, isR1_new w' (⟨3, 0, 0, ⟨#[97]⟩⟩ : Val) (vwf (by decide))⟩
  simp only [Act.put, List.setIfInBounds_toArray, List.set_cons_zero, List.set_cons_succ]
  refine RX.seqP_call (27) #[.agg #[.int .u8 me.op, .int .u8 me.v.k, .int .i64 me.v.n, .int .i64 me.v.u, .string me.v.t, .int .i64 me.m, .slice me.a me.len me.cap], .int .i64 60, u22] (.bool true) (by first | rfl | simp) (fun w' hw' hctx => ?_) (fun w' hw' hctx => fails_of _ _ _ 60 ex4 _ _ w' ⟨me, rfl, HME9.out.below (below_tr hdr hw'), HMS.out⟩ hctx.1) ?_
  · go_simp
  simp only [Act.put, List.setIfInBounds_toArray, List.set_cons_zero, List.set_cons_succ]
  refine RX.seqP_value (fun _ => Below.refl _ _) _ (by first | rfl | simp) (fun w' hw' hctx => by (go_simp); (try first | with_reducible rfl | simp)) ?_
  simp only [Act.put, List.setIfInBounds_toArray, List.set_cons_zero, List.set_cons_succ]
  refine RX.seqP_value (fun _ => Below.refl _ _) _ (by first | rfl | simp) (fun w' hw' hctx => by (go_simp); (try first | with_reducible rfl | simp)) ?_
  simp only [Act.put, List.setIfInBounds_toArray, List.set_cons_zero, List.set_cons_succ]
  refine RX.seqP_value (fun _ => Below.refl _ _) _ (by first | rfl | simp) (fun w' hw' hctx => ?_) ?_
  · obtain ⟨c0, c1, c2, c3, c4, c5, c6, c7⟩ := HE9.out.below (below_tr hdr hw')
    go_simp
    try first | with_reducible rfl | simp
  simp only [Act.put, List.setIfInBounds_toArray, List.set_cons_zero, List.set_cons_succ]
  refine RX.seqP_call (27) #[.agg #[.int .u8 me.op, .int .u8 me.v.k, .int .i64 me.v.n, .int .i64 me.v.u, .string me.v.t, .int .i64 me.m, .slice me.a me.len me.cap], .int .i64 4, .slice none 0 0] (.bool true) (by first | rfl | simp) (fun w' hw' hctx => ?_) (fun w' hw' hctx => fails_of _ _ _ 4 ex5 _ _ w' ⟨me, rfl, HME9.out.below (below_tr hdr hw'), HMS.out⟩ (isR0 _ _)) ?_
  · go_simp
  simp only [Act.put, List.setIfInBounds_toArray, List.set_cons_zero, List.set_cons_succ]
  refine RX.seqP_value (fun _ => Below.refl _ _) _ (by first | rfl | simp) (fun w' hw' hctx => by (go_simp); (try first | with_reducible rfl | simp)) ?_
  simp only [Act.put, List.setIfInBounds_toArray, List.set_cons_zero, List.set_cons_succ]
  refine RX.seqP_value (fun _ => Below.refl _ _) _ (by first | rfl | simp) (fun w' hw' hctx => by (go_simp); (try first | with_reducible rfl | simp)) ?_
  simp only [Act.put, List.setIfInBounds_toArray, List.set_cons_zero, List.set_cons_succ]
  refine RX.seqP_call (15) #[.int .i64 0] (.agg #[.int .u8 2, .int .i64 0, .int .i64 0, .string ⟨#[]⟩]) (by first | rfl | simp) (fun w' hw' hctx => ?_) (fun w' hw' hctx => truth_is 0 w') ?_
  · go_simp
  simp only [Act.put, List.setIfInBounds_toArray, List.set_cons_zero, List.set_cons_succ]
  refine RX.seqP_call (25) #[.agg #[.int .u8 2, .int .i64 0, .int .i64 0, .string ⟨#[]⟩]] (.agg #[.int .u8 1, .int .u8 2, .int .i64 0, .int .i64 0, .string ⟨#[]⟩, .int .i64 0, .slice none 0 0]) (by first | rfl | simp) (fun w' hw' hctx => ?_) (fun w' hw' hctx => lit_is 2 0 0 ⟨#[]⟩ w') ?_
  · go_simp
  simp only [Act.put, List.setIfInBounds_toArray, List.set_cons_zero, List.set_cons_succ]
  refine RX.seqP_value (fun _ => Below.refl _ _) _ (by first | rfl | simp) (fun w' hw' hctx => ?_) ?_
  · obtain ⟨c0, c1, c2, c3, c4, c5, c6, c7⟩ := HE9.out.below (below_tr hdr hw')
    go_simp
    try first | with_reducible rfl | simp
  simp only [Act.put, List.setIfInBounds_toArray, List.set_cons_zero, List.set_cons_succ]
  refine RX.seqP_make (IsS 2 (fun i => if i = 0 then (mkLit ⟨2, 0, 0, ⟨#[]⟩⟩) else moreT)) (fun w w' v hb h => h.below hb) (by first | rfl | simp) (fun w' hw' hctx => ?_) (fun u33 => ?_)
  · exact ⟨.slice (some ⟨w'.heap.size, 0, none⟩) 2 2, w'.alloc (.cells #[.int .u8 1, .int .u8 2, .int .i64 0, .int .i64 0, .string ⟨#[]⟩, .int .i64 0, .slice none 0 0, .int .u8 me.op, .int .u8 me.v.k, .int .i64 me.v.n, .int .i64 me.v.u, .string me.v.t, .int .i64 me.m, .slice me.a me.len me.cap] 26), by go_simp, Below.allocs _ _, isS2_new w' (mkLit ⟨2, 0, 0, ⟨#[]⟩⟩) (mkLit ⟨2, 0, 0, ⟨#[]⟩⟩) me moreT (in_lit (vwf (by decide)) _) (Same.refl _) (HME9.out.below (below_tr hdr hw')) HMS.out⟩
  simp only [Act.put, List.setIfInBounds_toArray, List.set_cons_zero, List.set_cons_succ]
  refine RX.seqP_callOf (20) #[.int .u8 11, u33] (IsE (mk2 11 (mkLit ⟨2, 0, 0, ⟨#[]⟩⟩) moreT)) (fun w w' v hb h => h.below hb) (by first | rfl | simp) (fun w' hw' hctx => ?_) (fun w' hw' hctx => of2_is 11 (by decide) (by decide) _ _ w' hctx.1) (fun u34 => ?_)
  · go_simp
  simp only [Act.put, List.setIfInBounds_toArray, List.set_cons_zero, List.set_cons_succ]
  refine RX.seqP_value (fun _ => Below.refl _ _) _ (by first | rfl | simp) (fun w' hw' hctx => ?_) ?_
  · obtain ⟨c0, c1, c2, c3, c4⟩ := HL9.out.below (below_tr hdr hw')
    go_simp
    try first | with_reducible rfl | simp
  simp only [Act.put, List.setIfInBounds_toArray, List.set_cons_zero, List.set_cons_succ]
  refine RX.seqP_make (IsR 1 (fun _ => (⟨1, 9223372036854775807, 0, ⟨#[]⟩⟩ : Val))) (fun w w' v hb h => h.below hb) (by first | rfl | simp) (fun w' hw' hctx => ?_) (fun u36 => ?_)
  · exact ⟨.slice (some ⟨w'.heap.size, 0, none⟩) 1 1, w'.alloc (.cells #[.int .u8 1, .int .i64 9223372036854775807, .int .i64 0, .string ⟨#[]⟩] 23), by go_simp, Below.allocs _ _, isR1_new w' (⟨1, 9223372036854775807, 0, ⟨#[]⟩⟩ : Val) (vwf (by decide))⟩
  simp only [Act.put, List.setIfInBounds_toArray, List.set_cons_zero, List.set_cons_succ]
  refine RX.seqP_call (27) #[u34, .int .i64 61, u36] (.bool true) (by first | rfl | simp) (fun w' hw' hctx => ?_) (fun w' hw' hctx => fails_of _ _ _ 61 ex6 _ _ w' hctx.2.1 hctx.1) ?_
  · go_simp
  simp only [Act.put, List.setIfInBounds_toArray, List.set_cons_zero, List.set_cons_succ]
  refine RX.seqP_value (fun _ => Below.refl _ _) _ (by first | rfl | simp) (fun w' hw' hctx => by (go_simp); (try first | with_reducible rfl | simp)) ?_
  simp only [Act.put, List.setIfInBounds_toArray, List.set_cons_zero, List.set_cons_succ]
  refine RX.seqP_value (fun _ => Below.refl _ _) _ (by first | rfl | simp) (fun w' hw' hctx => by (go_simp); (try first | with_reducible rfl | simp)) ?_
  simp only [Act.put, List.setIfInBounds_toArray, List.set_cons_zero, List.set_cons_succ]
  refine RX.seqP_call (28) #[.int .i64 1, .int .i64 3] (.agg #[.int .u8 4, .int .i64 1, .int .i64 3, .string ⟨#[]⟩]) (by first | rfl | simp) (fun w' hw' hctx => ?_) (fun w' hw' hctx => span_is 1 3 w') ?_
  · go_simp
  simp only [Act.put, List.setIfInBounds_toArray, List.set_cons_zero, List.set_cons_succ]
  refine RX.seqP_call (25) #[.agg #[.int .u8 4, .int .i64 1, .int .i64 3, .string ⟨#[]⟩]] (.agg #[.int .u8 1, .int .u8 4, .int .i64 1, .int .i64 3, .string ⟨#[]⟩, .int .i64 0, .slice none 0 0]) (by first | rfl | simp) (fun w' hw' hctx => ?_) (fun w' hw' hctx => lit_is 4 1 3 ⟨#[]⟩ w') ?_
  · go_simp
  simp only [Act.put, List.setIfInBounds_toArray, List.set_cons_zero, List.set_cons_succ]
  refine RX.seqP_call (28) #[.int .i64 2, .int .i64 5] (.agg #[.int .u8 4, .int .i64 2, .int .i64 5, .string ⟨#[]⟩]) (by first | rfl | simp) (fun w' hw' hctx => ?_) (fun w' hw' hctx => span_is 2 5 w') ?_
  · go_simp
  simp only [Act.put, List.setIfInBounds_toArray, List.set_cons_zero, List.set_cons_succ]
  refine RX.seqP_call (25) #[.agg #[.int .u8 4, .int .i64 2, .int .i64 5, .string ⟨#[]⟩]] (.agg #[.int .u8 1, .int .u8 4, .int .i64 2, .int .i64 5, .string ⟨#[]⟩, .int .i64 0, .slice none 0 0]) (by first | rfl | simp) (fun w' hw' hctx => ?_) (fun w' hw' hctx => lit_is 4 2 5 ⟨#[]⟩ w') ?_
  · go_simp
  simp only [Act.put, List.setIfInBounds_toArray, List.set_cons_zero, List.set_cons_succ]
  refine RX.seqP_make (IsS 2 (fun i => if i = 0 then (mkLit ⟨4, 1, 3, ⟨#[]⟩⟩) else (mkLit ⟨4, 2, 5, ⟨#[]⟩⟩))) (fun w w' v hb h => h.below hb) (by first | rfl | simp) (fun w' hw' hctx => ?_) (fun u44 => ?_)
  · exact ⟨.slice (some ⟨w'.heap.size, 0, none⟩) 2 2, w'.alloc (.cells #[.int .u8 1, .int .u8 4, .int .i64 1, .int .i64 3, .string ⟨#[]⟩, .int .i64 0, .slice none 0 0, .int .u8 1, .int .u8 4, .int .i64 2, .int .i64 5, .string ⟨#[]⟩, .int .i64 0, .slice none 0 0] 26), by go_simp, Below.allocs _ _, isS2_new w' (mkLit ⟨4, 1, 3, ⟨#[]⟩⟩) (mkLit ⟨4, 1, 3, ⟨#[]⟩⟩) (mkLit ⟨4, 2, 5, ⟨#[]⟩⟩) (mkLit ⟨4, 2, 5, ⟨#[]⟩⟩) (in_lit (vwf (by decide)) _) (Same.refl _) (in_lit (vwf (by decide)) _) (Same.refl _)⟩
  simp only [Act.put, List.setIfInBounds_toArray, List.set_cons_zero, List.set_cons_succ]
  refine RX.seqP_callOf (20) #[.int .u8 13, u44] (IsE (mk2 13 (mkLit ⟨4, 1, 3, ⟨#[]⟩⟩) (mkLit ⟨4, 2, 5, ⟨#[]⟩⟩))) (fun w w' v hb h => h.below hb) (by first | rfl | simp) (fun w' hw' hctx => ?_) (fun w' hw' hctx => of2_is 13 (by decide) (by decide) _ _ w' hctx.1) (fun u45 => ?_)
  · go_simp
  simp only [Act.put, List.setIfInBounds_toArray, List.set_cons_zero, List.set_cons_succ]
  refine RX.seqP_call (15) #[.int .i64 1] (.agg #[.int .u8 2, .int .i64 1, .int .i64 0, .string ⟨#[]⟩]) (by first | rfl | simp) (fun w' hw' hctx => ?_) (fun w' hw' hctx => truth_is 1 w') ?_
  · go_simp
  simp only [Act.put, List.setIfInBounds_toArray, List.set_cons_zero, List.set_cons_succ]
  refine RX.seqP_call (26) #[u45, .agg #[.int .u8 2, .int .i64 1, .int .i64 0, .string ⟨#[]⟩], .slice none 0 0] (.bool true) (by first | rfl | simp) (fun w' hw' hctx => ?_) (fun w' hw' hctx => is_of _ _ _ ⟨2, 1, 0, ⟨#[]⟩⟩ ex7 _ _ w' hctx.1 (isR0 _ _)) ?_
  · go_simp
  simp only [Act.put, List.setIfInBounds_toArray, List.set_cons_zero, List.set_cons_succ]
  refine RX.seqP_value (fun _ => Below.refl _ _) _ (by first | rfl | simp) (fun w' hw' hctx => by (go_simp); (try first | with_reducible rfl | simp)) ?_
  simp only [Act.put, List.setIfInBounds_toArray, List.set_cons_zero, List.set_cons_succ]
  refine RX.seqP_value (fun _ => Below.refl _ _) _ (by first | rfl | simp) (fun w' hw' hctx => by (go_simp); (try first | with_reducible rfl | simp)) ?_
  simp only [Act.put, List.setIfInBounds_toArray, List.set_cons_zero, List.set_cons_succ]
  refine RX.seqP_call (28) #[.int .i64 1, .int .i64 3] (.agg #[.int .u8 4, .int .i64 1, .int .i64 3, .string ⟨#[]⟩]) (by first | rfl | simp) (fun w' hw' hctx => ?_) (fun w' hw' hctx => span_is 1 3 w') ?_
  · go_simp
  simp only [Act.put, List.setIfInBounds_toArray, List.set_cons_zero, List.set_cons_succ]
  refine RX.seqP_call (25) #[.agg #[.int .u8 4, .int .i64 1, .int .i64 3, .string ⟨#[]⟩]] (.agg #[.int .u8 1, .int .u8 4, .int .i64 1, .int .i64 3, .string ⟨#[]⟩, .int .i64 0, .slice none 0 0]) (by first | rfl | simp) (fun w' hw' hctx => ?_) (fun w' hw' hctx => lit_is 4 1 3 ⟨#[]⟩ w') ?_
  · go_simp
  simp only [Act.put, List.setIfInBounds_toArray, List.set_cons_zero, List.set_cons_succ]
  refine RX.seqP_call (28) #[.int .i64 3, .int .i64 5] (.agg #[.int .u8 4, .int .i64 3, .int .i64 5, .string ⟨#[]⟩]) (by first | rfl | simp) (fun w' hw' hctx => ?_) (fun w' hw' hctx => span_is 3 5 w') ?_
  · go_simp
  simp only [Act.put, List.setIfInBounds_toArray, List.set_cons_zero, List.set_cons_succ]
  refine RX.seqP_call (25) #[.agg #[.int .u8 4, .int .i64 3, .int .i64 5, .string ⟨#[]⟩]] (.agg #[.int .u8 1, .int .u8 4, .int .i64 3, .int .i64 5, .string ⟨#[]⟩, .int .i64 0, .slice none 0 0]) (by first | rfl | simp) (fun w' hw' hctx => ?_) (fun w' hw' hctx => lit_is 4 3 5 ⟨#[]⟩ w') ?_
  · go_simp
  simp only [Act.put, List.setIfInBounds_toArray, List.set_cons_zero, List.set_cons_succ]
  refine RX.seqP_make (IsS 2 (fun i => if i = 0 then (mkLit ⟨4, 1, 3, ⟨#[]⟩⟩) else (mkLit ⟨4, 3, 5, ⟨#[]⟩⟩))) (fun w w' v hb h => h.below hb) (by first | rfl | simp) (fun w' hw' hctx => ?_) (fun u54 => ?_)
  · exact ⟨.slice (some ⟨w'.heap.size, 0, none⟩) 2 2, w'.alloc (.cells #[.int .u8 1, .int .u8 4, .int .i64 1, .int .i64 3, .string ⟨#[]⟩, .int .i64 0, .slice none 0 0, .int .u8 1, .int .u8 4, .int .i64 3, .int .i64 5, .string ⟨#[]⟩, .int .i64 0, .slice none 0 0] 26), by go_simp, Below.allocs _ _, isS2_new w' (mkLit ⟨4, 1, 3, ⟨#[]⟩⟩) (mkLit ⟨4, 1, 3, ⟨#[]⟩⟩) (mkLit ⟨4, 3, 5, ⟨#[]⟩⟩) (mkLit ⟨4, 3, 5, ⟨#[]⟩⟩) (in_lit (vwf (by decide)) _) (Same.refl _) (in_lit (vwf (by decide)) _) (Same.refl _)⟩
  simp only [Act.put, List.setIfInBounds_toArray, List.set_cons_zero, List.set_cons_succ]
  refine RX.seqP_callOf (20) #[.int .u8 13, u54] (IsE (mk2 13 (mkLit ⟨4, 1, 3, ⟨#[]⟩⟩) (mkLit ⟨4, 3, 5, ⟨#[]⟩⟩))) (fun w w' v hb h => h.below hb) (by first | rfl | simp) (fun w' hw' hctx => ?_) (fun w' hw' hctx => of2_is 13 (by decide) (by decide) _ _ w' hctx.1) (fun u55 => ?_)
  · go_simp
  simp only [Act.put, List.setIfInBounds_toArray, List.set_cons_zero, List.set_cons_succ]
  refine RX.seqP_call (15) #[.int .i64 0] (.agg #[.int .u8 2, .int .i64 0, .int .i64 0, .string ⟨#[]⟩]) (by first | rfl | simp) (fun w' hw' hctx => ?_) (fun w' hw' hctx => truth_is 0 w') ?_
  · go_simp
  simp only [Act.put, List.setIfInBounds_toArray, List.set_cons_zero, List.set_cons_succ]
  refine RX.seqP_call (26) #[u55, .agg #[.int .u8 2, .int .i64 0, .int .i64 0, .string ⟨#[]⟩], .slice none 0 0] (.bool true) (by first | rfl | simp) (fun w' hw' hctx => ?_) (fun w' hw' hctx => is_of _ _ _ ⟨2, 0, 0, ⟨#[]⟩⟩ ex8 _ _ w' hctx.1 (isR0 _ _)) ?_
  · go_simp
  simp only [Act.put, List.setIfInBounds_toArray, List.set_cons_zero, List.set_cons_succ]
  refine RX.seqP_value (fun _ => Below.refl _ _) _ (by first | rfl | simp) (fun w' hw' hctx => by (go_simp); (try first | with_reducible rfl | simp)) ?_
  simp only [Act.put, List.setIfInBounds_toArray, List.set_cons_zero, List.set_cons_succ]
  refine RX.seqP_value (fun _ => Below.refl _ _) _ (by first | rfl | simp) (fun w' hw' hctx => by (go_simp); (try first | with_reducible rfl | simp)) ?_
  simp only [Act.put, List.setIfInBounds_toArray, List.set_cons_zero]
  refine RX.seqP_nil (fun v1 hR hctx _ => ?_)
  have hv1 := below_tr hdr hR
  clear hctx hR
  have HF := Lib.hid (below_tr HB9.out hv1)
  clear hv1 hdr
  go_wp2_with fail
  go_ret
  exact ⟨rfl, HF.out⟩
end Go.Proofs.Ytflclkmhdngmaaa
