/-
  A version is copied (stage 11).
-/
import Derived.Test.YtbgnbaogclnpgaaHLib
import Derived.Test.YtbgnbaogclnpgaaRegX
namespace Go.Proofs.Ytbgnbaogclnpgaa
open Go.RowKit
set_option linter.unusedVariables false

/-- To write what is there changes nothing. -/
theorem setCell_self {W : World} {b o : Nat} {v : Value} (h : W.cell? ⟨b, o, none⟩ = some v) : W.setCell ⟨b, o, none⟩ v = W := by
  rw [Sort.setCell_eq]
  refine Sort.mapBlock_id W b _ fun c e fr hb => ?_
  obtain ⟨c', e', fr', hb', hc⟩ := Sort.cells_of_cell? h
  rw [hb] at hb'
  injection hb' with hb'
  injection hb' with hcc
  subst hcc
  apply Array.ext_getElem?
  intro k
  rw [Array.getElem?_setIfInBounds]
  split
  · next e => subst e; rw [hc]; split
              · rfl
              · next hk => rw [Array.getElem?_eq_none (by omega)] at hc; cases hc
  · rfl

theorem cells7 {W : World} {g : Nat} {t : Tup} {s : Value} (h : Lit W g 61 (tupC t s)) : W.cell? ⟨g, 0, none⟩ = some (.int .i64 t.no) ∧ W.cell? ⟨g, 1, none⟩ = some (.int .i64 t.id) ∧ W.cell? ⟨g, 2, none⟩ = some (.int .i64 t.mn) ∧ W.cell? ⟨g, 3, none⟩ = some (.int .i64 t.cm) ∧ W.cell? ⟨g, 4, none⟩ = some (.int .i64 t.mx) ∧ W.cell? ⟨g, 5, none⟩ = some (.int .i64 t.cx) ∧ W.cell? ⟨g, 6, none⟩ = some s ∧ g < W.heap.size :=
  ⟨h.cell rfl, h.cell rfl, h.cell rfl, h.cell rfl, h.cell rfl, h.cell rfl, h.cell rfl, h.lt⟩

/-- A version of its own, in blocks from B on. -/
structure Ver (W : World) (B g : Nat) (t : Tup) (s : Value) : Prop where
  ge : B ≤ g
  lit : Lit W g 61 (tupC t s)
  row : RowV W s t.row
  own : ∀ k, s.ownBlock = some k → B ≤ k ∧ k ≠ g

theorem Ver.below {W W' : World} {B g : Nat} {t : Tup} {s : Value} (h : Ver W B g t s) (hb : Below W.heap.size W W') : Ver W' B g t s := ⟨h.ge, h.lit.below hb, h.row.below hb, h.own⟩
theorem Ver.stay {W W' : World} {B g : Nat} {t : Tup} {s : Value} {G : Nat → Prop} (h : Ver W B g t s) (hs : Stay G W W') (hG : ∀ k, B ≤ k → k < W.heap.size → G k) : Ver W' B g t s :=
  ⟨h.ge, h.lit.stay hs (hG g h.ge h.lit.lt), h.row.stay hs (fun k hk => hG k (h.own k hk).1 (h.row.lt k hk)), h.own⟩

set_option maxRecDepth 100000 in
set_option maxHeartbeats 8000000 in
theorem clone_is (w : World) (g : Nat) (t : Tup) (s : Value) (hw : t.wf) (hl : Lit w g 61 (tupC t s)) (hr : RowV w s t.row) :
    Calls Try.prog 34 #[ptrV g] w fun e w' => ∃ g' s', e = .returned (ptrV g') ∧ Ver w' w.heap.size g' t s' ∧ Below w.heap.size w w' := by
  have mixed : Try.prog.follows Departure.mixedOrders = true := by kernel_rfl
  obtain ⟨c0, c1, c2, c3, c4, c5, c6, hgl⟩ := cells7 hl
  obtain ⟨a, c, rfl, hnc, hcm⟩ := hr.form
  obtain ⟨n, hn⟩ : ∃ n, t.row.length = n := ⟨_, rfl⟩
  rw [hn] at c6 hl hr
  obtain ⟨g', hg'⟩ : ∃ g', w.heap.size = g' := ⟨_, rfl⟩
  obtain ⟨W1, hW1⟩ : ∃ W1, w.alloc (.cells #[.int .i64 t.no, .int .i64 t.id, .int .i64 t.mn, .int .i64 t.cm, .int .i64 t.mx, .int .i64 t.cx, .slice a n c] 61) = W1 := ⟨_, rfl⟩
  have hb1 : Below w.heap.size w W1 := by rw [← hW1]; exact Below.allocs _ _
  have hl1 : Lit W1 g' 61 (tupC t (.slice a n c)) := by rw [← hW1, ← hg']; exact Lit.new w _ _
  have hcon := cloneV_is (.slice a n c) t.row hw.len W1 (hr.below hb1)
  obtain ⟨d0, d1, d2, d3, d4, d5, d6, dl⟩ := cells7 hl1
  have d7 := hb1.cell (p := ⟨g, 6, none⟩) hgl
  rw [c6] at d7
  have fz1 := hl1.fz 6
  have HL1 := Lib.hid hl1
  have HB1 := Lib.hid hb1
  have HW1 := Lib.hid hW1
  have HG' := Lib.hid hg'
  have HWF := Lib.hid hw
  have HN := Lib.hid hn
  clear hl hr hw hnc hcm hn hb1 hl1 hW1 hg'
  unfold ptrV
  go_enter Try.func34, Try.ntmps34
  go_upto_region 4 with (fail)
  rw [HW1.out, HG'.out]
  clear c0 c1 c2 c3 c4 c5 HW1
  go_wp2_with fail
  refine hcon.mono ?_
  rintro e w2 ⟨v, rfl, hv2, hvo, hb2⟩
  obtain ⟨a2, c2, rfl, hnc2, hcm2⟩ := hv2.form
  rw [HN.out] at hv2 hvo hnc2 ⊢
  have hl2 := HL1.out.below hb2
  have fz2 := hl2.fz 6
  have e6 := hl2.cell (o := 6) rfl
  obtain ⟨W3, hW3⟩ : ∃ W3, w2.setCell ⟨g', 6, none⟩ (.slice a2 n c2) = W3 := ⟨_, rfl⟩
  have hl3 : Lit W3 g' 61 (tupC t (.slice a2 n c2)) := by rw [← hW3]; exact hl2.set 6 _
  have ht3 := Touch.setCell w2 (F := fun k => k = g') rfl 6 (.slice a2 n c2)
  rw [hW3] at ht3
  have hgs : w.heap.size ≤ g' := Nat.le_of_eq HG'.out
  have hb3 : Below w.heap.size w W3 := below_tr HB1.out hb2 |>.trans (ht3.below (fun k hk => by omega) (Nat.le_trans HB1.out.size hb2.size))
  have hgW1 : g' < W1.heap.size := HL1.out.lt
  have hver : Ver W3 w.heap.size g' t (.slice a2 n c2) := ⟨hgs, hl3, hv2.stay (ht3.stay (G := fun k => k ≠ g') (fun k hk e => hk e)) (fun k hk => by have := hvo k hk; omega), fun k hk => by have := hvo k hk; have := HB1.out.size; exact ⟨by omega, by omega⟩⟩
  have HV3 := Lib.hid hver
  have HB3 := Lib.hid hb3
  have HW3 := Lib.hid hW3
  have d6' := hl3.cell (o := 6) rfl
  clear hcon hv2 hvo hb2 hl2 hl3 ht3 hb3 hgW1 hver HL1 HB1 hgs d0 d1 d2 d3 d4 d5 d6 d7 dl c6 hgl fz1 hW3
  go_upto_region 5 with (fail)
  rw [HW3.out]
  clear e6 fz2 HW3
  go_wp2_with fail
  go_loopg [19, 4] n (fun gg s19 _ wr => ∃ i : Nat, s19 = .int .i64 i ∧ i ≤ n ∧ n - i ≤ gg ∧ Hid (Ver wr w.heap.size g' t (.slice a2 n c2)) ∧ Hid (Below w.heap.size w wr))
  case atStart => exact ⟨0, rfl, Nat.zero_le _, by omega, HV3, HB3⟩
  case round =>
    obtain ⟨i, rfl, hin, hgg, HV, BW⟩ := hrel
    clear HV3 HB3 d6'
    by_cases hlt : i < n
    · have hltz : (i : Int) < (n : Int) := by omega
      obtain ⟨b, c, e, hnc, hcm, hbl, hat, hfz⟩ := HV.out.row.at (j := i) (by rw [HN.out]; exact hlt)
      rw [HN.out] at e
      cases e
      obtain ⟨x, hx⟩ := get_is (l := t.row) (i := i) (by rw [HN.out]; exact hlt)
      have HWX := Lib.hid (get_wf HWF.out.row hx)
      have hxx : t.row.getD i Val.zero = x := by simp [List.getD, hx]
      have HQ : Hid (∀ W', Below wr.heap.size wr W' → W'.cell? ⟨g', 6, none⟩ = some (.slice (some ⟨b, 0, none⟩) n c2) ∧ W'.cell? ⟨b, i * 4 + 3, none⟩ = some (.string x.t) ∧ W'.frozen? ⟨b, i * 4 + 3, none⟩ = false ∧ ((i : Int) < (n : Int)) ∧ (0 : Int) ≤ (i : Int)) := Lib.hid (fun W' hb => by
        refine ⟨(HV.out.lit.below hb).cell rfl, ?_, ?_, hltz, by omega⟩
        · rw [hb.cell (p := ⟨b, i * 4 + 3, none⟩) hbl]
          exact hat i (by rw [HN.out]; exact hlt) 3 _ (by rw [hxx]; rfl)
        · rw [hb.frozen (p := ⟨b, i * 4 + 3, none⟩) hbl]
          exact hfz _)
      have HI := Lib.hid (And.intro hin (And.intro hgg hlt))
      have hbn : n ≤ 1000000 := by have := HWF.out.len; have := HN.out; omega
      have HBN := Lib.hid hbn
      clear hbn
      have hi0 : (0 : Int) ≤ i := by omega
      clear hat hfz hx hxx hnc hcm hbl hin hgg hlt hnc2 hcm2
      go_upto_region 8 with (fail)
      have hdr := below_drw wr
      try simp only [List.append_eq, List.cons_append, List.nil_append]
      refine RX.wp_region_plan (fun w w' => Below w.heap.size w w') [.it (.pointer (some ⟨g', 6, none⟩)), .it (.slice (some ⟨b, 0, none⟩) n c2), .it (.int .i64 i), .it (.pointer (some ⟨g', 6, none⟩)), .it (.slice (some ⟨b, 0, none⟩) n c2), .it (.int .i64 i), .it (.pointer (some ⟨b, i * 4, none⟩)), .it (.pointer (some ⟨b, i * 4 + 3, none⟩)), .it (.string x.t), .it (.string x.t), .it (.pointer (some ⟨b, i * 4, none⟩)), .it (.pointer (some ⟨b, i * 4 + 3, none⟩)), .of (fun _ _ => True)] (by kernel_rfl) (by kernel_rfl) (fun _ => Below.refl _ _) (fun _ _ _ => below_tr) ?_
      refine RX.seqP_value (fun _ => Below.refl _ _) _ (by first | rfl | simp) (fun w' hw' hctx => by (go_simp); (try first | with_reducible rfl | simp)) ?_
      simp only [Act.put, List.setIfInBounds_toArray, List.set_cons_zero, List.set_cons_succ]
      refine RX.seqP_value (fun _ => Below.refl _ _) _ (by first | rfl | simp) (fun w' hw' hctx => ?_) ?_
      · obtain ⟨q0, q1, q2, q3, q4⟩ := HQ.out _ (below_tr hdr hw')
        go_simp
        try first | with_reducible rfl | simp
      simp only [Act.put, List.setIfInBounds_toArray, List.set_cons_zero, List.set_cons_succ]
      refine RX.seqP_value (fun _ => Below.refl _ _) _ (by first | rfl | simp) (fun w' hw' hctx => by (go_simp); (try first | with_reducible rfl | simp)) ?_
      simp only [Act.put, List.setIfInBounds_toArray, List.set_cons_zero, List.set_cons_succ]
      refine RX.seqP_value (fun _ => Below.refl _ _) _ (by first | rfl | simp) (fun w' hw' hctx => by (go_simp); (try first | with_reducible rfl | simp)) ?_
      simp only [Act.put, List.setIfInBounds_toArray, List.set_cons_zero, List.set_cons_succ]
      refine RX.seqP_value (fun _ => Below.refl _ _) _ (by first | rfl | simp) (fun w' hw' hctx => ?_) ?_
      · obtain ⟨q0, q1, q2, q3, q4⟩ := HQ.out _ (below_tr hdr hw')
        go_simp
        try first | with_reducible rfl | simp
      simp only [Act.put, List.setIfInBounds_toArray, List.set_cons_zero, List.set_cons_succ]
      refine RX.seqP_value (fun _ => Below.refl _ _) _ (by first | rfl | simp) (fun w' hw' hctx => by (go_simp); (try first | with_reducible rfl | simp)) ?_
      simp only [Act.put, List.setIfInBounds_toArray, List.set_cons_zero, List.set_cons_succ]
      refine RX.seqP_value (fun _ => Below.refl _ _) _ (by first | rfl | simp) (fun w' hw' hctx => ?_) ?_
      · obtain ⟨q0, q1, q2, q3, q4⟩ := HQ.out _ (below_tr hdr hw')
        go_simp
        try first | with_reducible rfl | simp
      simp only [Act.put, List.setIfInBounds_toArray, List.set_cons_zero, List.set_cons_succ]
      refine RX.seqP_value (fun _ => Below.refl _ _) _ (by first | rfl | simp) (fun w' hw' hctx => ?_) ?_
      · obtain ⟨q0, q1, q2, q3, q4⟩ := HQ.out _ (below_tr hdr hw')
        go_simp
        try first | with_reducible rfl | simp
      simp only [Act.put, List.setIfInBounds_toArray, List.set_cons_zero, List.set_cons_succ]
      refine RX.seqP_value (fun _ => Below.refl _ _) _ (by first | rfl | simp) (fun w' hw' hctx => ?_) ?_
      · obtain ⟨q0, q1, q2, q3, q4⟩ := HQ.out _ (below_tr hdr hw')
        go_simp
        try first | with_reducible rfl | simp
      simp only [Act.put, List.setIfInBounds_toArray, List.set_cons_zero, List.set_cons_succ]
      refine RX.seqP_call (50) #[.string x.t] (.string x.t) (by first | rfl | simp) (fun w' hw' hctx => ?_) (fun w' hw' hctx => sclone_is x.t HWX.out.t w') ?_
      · go_simp
      simp only [Act.put, List.setIfInBounds_toArray, List.set_cons_zero, List.set_cons_succ]
      refine RX.seqP_value (fun _ => Below.refl _ _) _ (by first | rfl | simp) (fun w' hw' hctx => ?_) ?_
      · obtain ⟨q0, q1, q2, q3, q4⟩ := HQ.out _ (below_tr hdr hw')
        go_simp
        try first | with_reducible rfl | simp
      simp only [Act.put, List.setIfInBounds_toArray, List.set_cons_zero, List.set_cons_succ]
      refine RX.seqP_value (fun _ => Below.refl _ _) _ (by first | rfl | simp) (fun w' hw' hctx => ?_) ?_
      · obtain ⟨q0, q1, q2, q3, q4⟩ := HQ.out _ (below_tr hdr hw')
        go_simp
        try first | with_reducible rfl | simp
      simp only [Act.put, List.setIfInBounds_toArray, List.set_cons_zero, List.set_cons_succ]
      refine RX.seqP_writeOf (fun _ _ => True) (fun _ _ _ _ h => h) (by first | rfl | simp) (fun w' hw' hctx => ⟨w', ?_, Below.refl _ _, trivial⟩) (fun u12 => ?_)
      · obtain ⟨q0, q1, q2, q3, q4⟩ := HQ.out _ (below_tr hdr hw')
        have hss := setCell_self q1
        go_simp
        try rw [hss]
      simp only [Act.put]
      refine RX.seqP_nil (fun v1 hR hctx _ => ?_)
      have hv1 := below_tr hdr hR
      clear hctx hR
      have HV1 := Lib.hid (HV.out.below hv1)
      have BW1 := Lib.hid (BW.out.trans (hv1.mono BW.out.size))
      clear hv1
      have HWI : Hid (wrap64 ((i : Int) + 1) = (i : Int) + 1) := Lib.hid (wrOk (by have := HI.out.2.2; have := HBN.out; omega))
      go_wp2_with fail
      obtain ⟨hin, hgg, hlt⟩ := HI.out
      have hbn := HBN.out
      go_roundg (n - (i + 1))
      case measure => omega
      case rel => exact ⟨i + 1, by rw [HWI.out]; rfl, by omega, Nat.le_refl _, HV1, BW1⟩
    · have hltz : ¬ (i : Int) < (n : Int) := by omega
      go_wp2_with fail
      go_ret
      first | exact ⟨g', _, rfl, HV.out, BW.out⟩ | exact ⟨g', ⟨rfl, _, HV.out⟩, BW.out⟩ | exact ⟨g', rfl, ⟨_, HV.out⟩, BW.out⟩ | exact ⟨⟨_, HV.out⟩, BW.out⟩ | exact ⟨rfl, ⟨_, HV.out⟩, BW.out⟩

theorem clone_nil (w : World) : Calls Try.prog 34 #[.pointer none] w fun e w' => e = .returned (.pointer none) ∧ w' = w := by
  go_enter Try.func34, Try.ntmps34
  go_wp2_with fail
  go_ret
  exact ⟨rfl, rfl⟩

end Go.Proofs.Ytbgnbaogclnpgaa
