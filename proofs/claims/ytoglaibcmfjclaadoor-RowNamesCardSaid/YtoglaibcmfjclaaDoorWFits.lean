/-
  Whether a row fits columns: package row's Fits and the document's own.
-/
import Derived.Test.YtoglaibcmfjclaaDoorWVal
namespace Go.Proofs.YtoglaibcmfjclaaDoor
open Go.RowKit

theorem fit_at {l : List Val} {cs : List Col} {p : Nat} {x : Val} {y : Col} (hx : l[p]? = some x) (hy : cs[p]? = some y) : fitL (l.drop p) (tys (cs.drop p)) = (fitV x y.ty && fitL (l.drop (p + 1)) (tys (cs.drop (p + 1)))) := by
  have h1 : p < l.length := (List.getElem?_eq_some_iff.1 hx).1
  have h2 : p < cs.length := (List.getElem?_eq_some_iff.1 hy).1
  have e1 : l[p] = x := (List.getElem?_eq_some_iff.1 hx).2
  have e2 : cs[p] = y := (List.getElem?_eq_some_iff.1 hy).2
  rw [List.drop_eq_getElem_cons h1, List.drop_eq_getElem_cons h2, e1, e2]
  rfl

theorem getc_is {l : List Col} {i : Nat} (hi : i < l.length) : ∃ x, l[i]? = some x := ⟨l[i], by simp [hi]⟩

set_option maxRecDepth 100000 in
set_option maxHeartbeats 1000000 in
theorem fitr_is (a a' : Option Addr) (c c' n k : Nat) (l : List Val) (cs : List Col) (r : Int) (hn : l.length = n) (hk : cs.length = k) (hr : fitE l (tys cs) = r) (w : World) (h1 : SlL w a c l) (h2 : SlC w a' c' cs) :
    Calls Tryd.prog 16 #[.slice a n c, .slice a' k c'] w fun e w' => e = .returned (.int .i64 r) ∧ Below w.heap.size w w' := by
  have HA := Lib.hid h1
  have HB := Lib.hid h2
  have HN := Lib.hid hn
  have HK := Lib.hid hk
  have hbn : n ≤ 9223372036854775807 := by have a := h1.lc; have b := h1.cm; rw [hn] at a; unfold maxLen at b; omega
  have hr' := hr
  unfold fitE at hr'
  rw [tys_len, hn, hk] at hr'
  clear h1 h2 hr
  by_cases hnk : n = k
  · subst hnk
    rw [if_pos rfl] at hr'
    have HR := Lib.hid hr'
    clear hn hk hr'
    go_enter Tryd.func16, Tryd.ntmps16
    go_wp2_with fail
    go_loopg [14] n (fun gg s5 wr => ∃ p : Nat, s5 = .int .i64 p ∧ p ≤ n ∧ n - p ≤ gg ∧ Hid (fitL (l.drop p) (tys (cs.drop p)) = fitL l (tys cs)) ∧ Hid (Below w.heap.size w wr))
    case atStart => exact ⟨0, rfl, Nat.zero_le _, by omega, Lib.hid rfl, Lib.hid (Below.refl _ _)⟩
    case round =>
      obtain ⟨p, rfl, hpn, hgg, HT, BW⟩ := hrel
      by_cases hlt : p < n
      · have hltz : (p : Int) < (n : Int) := by omega
        have z1 : ¬ n ≤ p := by omega
        obtain ⟨x, hx⟩ := get_is (l := l) (i := p) (by rw [HN.out]; exact hlt)
        obtain ⟨y, hy⟩ := getc_is (l := cs) (i := p) (by rw [HK.out]; exact hlt)
        obtain ⟨b, o, rfl, ha⟩ := at_l HA.out hx
        obtain ⟨b', o', rfl, hb⟩ := at_c HB.out hy
        have hax := ha.below BW.out
        obtain ⟨d0, d1, d2, d3, d4⟩ := id hax
        obtain ⟨V, g, hV, hg, BX, hbV, hsV⟩ := boxX wr x
        have HBX := Lib.hid BX
        have HBV := Lib.hid hbV
        have HY := Lib.hid ((hb.below BW.out).below hbV)
        obtain ⟨q, hq⟩ : ∃ q, fitV x y.ty = q := ⟨_, rfl⟩
        have hcon := fun W => fits_v x y.ty q hq W
        have HG := Lib.hid (fit_at hx hy)
        have HE := Lib.hid hq
        clear ha hb hx hy hbV BX hax hq
        go_wp2_with fail
        have hdr := below_drw V
        try simp only [List.append_eq, List.cons_append, List.nil_append]
        refine RX.wp_region_plan (fun w w' => Below w.heap.size w w') [.it (.agg #[.int .u8 x.k, .int .i64 x.n, .int .i64 x.u, .string x.t]), .it (.slice (some ⟨b', o', none⟩) n c'), .it (.int .i64 (p : Int)), .it (.pointer (some ⟨b', o' + p * 6, none⟩)), .it (.pointer (some ⟨b', o' + p * 6 + 1, none⟩)), .it (.int .u8 y.ty), .it (.bool q), .it (.bool (!q))] (by kernel_rfl) (by kernel_rfl) (fun _ => Below.refl _ _) (fun _ _ _ => below_tr) ?_
        refine RX.seqP_value (fun _ => Below.refl _ _) _ (by first | rfl | simp) (fun w' hw' hctx => ?_) ?_
        · obtain ⟨c0, c1, c2, c3, c4⟩ := HBX.out.below (below_tr hdr hw')
          go_simp
          try first | with_reducible rfl | simp
        simp only [Act.put, List.setIfInBounds_toArray, List.set_cons_zero, List.set_cons_succ]
        refine RX.seqP_value (fun _ => Below.refl _ _) _ (by first | rfl | simp) (fun w' hw' hctx => by (go_simp); (try first | with_reducible rfl | simp)) ?_
        simp only [Act.put, List.setIfInBounds_toArray, List.set_cons_zero, List.set_cons_succ]
        refine RX.seqP_value (fun _ => Below.refl _ _) _ (by first | rfl | simp) (fun w' hw' hctx => by (go_simp); (try first | with_reducible rfl | simp)) ?_
        simp only [Act.put, List.setIfInBounds_toArray, List.set_cons_zero, List.set_cons_succ]
        refine RX.seqP_value (fun _ => Below.refl _ _) _ (by first | rfl | simp) (fun w' hw' hctx => by (go_simp); (try first | with_reducible rfl | simp)) ?_
        simp only [Act.put, List.setIfInBounds_toArray, List.set_cons_zero, List.set_cons_succ]
        refine RX.seqP_value (fun _ => Below.refl _ _) _ (by first | rfl | simp) (fun w' hw' hctx => by (go_simp); (try first | with_reducible rfl | simp)) ?_
        simp only [Act.put, List.setIfInBounds_toArray, List.set_cons_zero, List.set_cons_succ]
        refine RX.seqP_value (fun _ => Below.refl _ _) _ (by first | rfl | simp) (fun w' hw' hctx => ?_) ?_
        · obtain ⟨c0, c1, c2, c3, c4, c5, c6⟩ := HY.out.below (below_tr hdr hw')
          go_simp
          try first | with_reducible rfl | simp
        simp only [Act.put, List.setIfInBounds_toArray, List.set_cons_zero, List.set_cons_succ]
        refine RX.seqP_call (28) #[.agg #[.int .u8 x.k, .int .i64 x.n, .int .i64 x.u, .string x.t], .int .u8 y.ty] (.bool q) (by first | rfl | simp) (fun w' hw' hctx => ?_) (fun w' hw' hctx => hcon w') ?_
        · go_simp
        simp only [Act.put, List.setIfInBounds_toArray, List.set_cons_zero, List.set_cons_succ]
        refine RX.seqP_value (fun _ => Below.refl _ _) _ (by first | rfl | simp) (fun w' hw' hctx => by (go_simp); (try first | with_reducible rfl | simp)) ?_
        simp only [Act.put, List.setIfInBounds_toArray, List.set_cons_zero, List.set_cons_succ]
        refine RX.seqP_nil (fun v1 hR hctx _ => ?_)
        have hv1 := below_tr hdr hR
        clear hctx hR
        have HW1 := Lib.hid (BW.out.trans ((below_tr HBV.out hv1).mono BW.out.size))
        clear hcon hv1
        cases q
        · go_wp2_with fail
          go_ret
          obtain rfl : r = 60 := by
            rw [← HR.out, ← HT.out, HG.out, HE.out]
            rfl
          exact ⟨rfl, HW1.out⟩
        · go_wp2_with fail
          go_roundg (n - (p + 1))
          case measure => omega
          case rel =>
            refine ⟨p + 1, by go_num, by omega, Nat.le_refl _, Lib.hid ?_, HW1⟩
            rw [← HT.out, HG.out, HE.out]
            rfl
      · have hltz : ¬ (p : Int) < (n : Int) := by omega
        go_wp2_with fail
        go_ret
        obtain rfl : r = 0 := by
          rw [← HR.out, ← HT.out, List.drop_eq_nil_of_le (by rw [HN.out]; omega)]
          rfl
        exact ⟨rfl, BW.out⟩
  · have hne : ¬ (n : Int) = (k : Int) := by omega
    rw [if_neg hnk] at hr'
    subst hr'
    clear hn hk
    go_enter Tryd.func16, Tryd.ntmps16
    go_wp2_with fail
    go_ret
    exact ⟨rfl, Below.refl _ _⟩

set_option maxRecDepth 100000 in
set_option maxHeartbeats 1000000 in
theorem rfitr_is (a a' : Option Addr) (c c' n k : Nat) (l : List Val) (cs : List Col) (r : Int) (hn : l.length = n) (hk : cs.length = k) (hr : fitE l (tys cs) = r) (w : World) (h1 : SlL w a c l) (h2 : SlC w a' c' cs) :
    Calls Tryd.prog 19 #[.slice a n c, .slice a' k c'] w fun e w' => e = .returned (.int .i64 r) ∧ Below w.heap.size w w' := by
  have HA := Lib.hid h1
  have HB := Lib.hid h2
  have HN := Lib.hid hn
  have HK := Lib.hid hk
  have hbn : n ≤ 9223372036854775807 := by have a := h1.lc; have b := h1.cm; rw [hn] at a; unfold maxLen at b; omega
  have hr' := hr
  unfold fitE at hr'
  rw [tys_len, hn, hk] at hr'
  clear h1 h2 hr
  by_cases hnk : n = k
  · subst hnk
    rw [if_pos rfl] at hr'
    have HR := Lib.hid hr'
    clear hn hk hr'
    go_enter Tryd.func19, Tryd.ntmps19
    go_wp2_with fail
    go_loopg [5] n (fun gg s5 wr => ∃ p : Nat, s5 = .int .i64 p ∧ p ≤ n ∧ n - p ≤ gg ∧ Hid (fitL (l.drop p) (tys (cs.drop p)) = fitL l (tys cs)) ∧ Hid (Below w.heap.size w wr))
    case atStart => exact ⟨0, rfl, Nat.zero_le _, by omega, Lib.hid rfl, Lib.hid (Below.refl _ _)⟩
    case round =>
      obtain ⟨p, rfl, hpn, hgg, HT, BW⟩ := hrel
      by_cases hlt : p < n
      · have hltz : (p : Int) < (n : Int) := by omega
        have z1 : ¬ n ≤ p := by omega
        obtain ⟨x, hx⟩ := get_is (l := l) (i := p) (by rw [HN.out]; exact hlt)
        obtain ⟨y, hy⟩ := getc_is (l := cs) (i := p) (by rw [HK.out]; exact hlt)
        obtain ⟨b, o, rfl, ha⟩ := at_l HA.out hx
        obtain ⟨b', o', rfl, hb⟩ := at_c HB.out hy
        have HX := Lib.hid (ha.below BW.out)
        have HY := Lib.hid (hb.below BW.out)
        obtain ⟨q, hq⟩ : ∃ q, fitV x y.ty = q := ⟨_, rfl⟩
        have hcon := fun W => rfits_v x y.ty q hq W
        have HG := Lib.hid (fit_at hx hy)
        have HE := Lib.hid hq
        clear ha hb hx hy hq
        go_wp2_with fail
        have hdr := below_drw wr
        try simp only [List.append_eq, List.cons_append, List.nil_append]
        refine RX.wp_region_plan (fun w w' => Below w.heap.size w w') [.it (.slice (some ⟨b, o, none⟩) n c), .it (.int .i64 (p : Int)), .it (.pointer (some ⟨b, o + p * 4, none⟩)), .it (.agg #[.int .u8 x.k, .int .i64 x.n, .int .i64 x.u, .string x.t]), .it (.slice (some ⟨b', o', none⟩) n c'), .it (.int .i64 (p : Int)), .it (.pointer (some ⟨b', o' + p * 6, none⟩)), .it (.pointer (some ⟨b', o' + p * 6 + 1, none⟩)), .it (.int .u8 y.ty), .it (.bool q), .it (.bool (!q))] (by kernel_rfl) (by kernel_rfl) (fun _ => Below.refl _ _) (fun _ _ _ => below_tr) ?_
        refine RX.seqP_value (fun _ => Below.refl _ _) _ (by first | rfl | simp) (fun w' hw' hctx => by (go_simp); (try first | with_reducible rfl | simp)) ?_
        simp only [Act.put, List.setIfInBounds_toArray, List.set_cons_zero, List.set_cons_succ]
        refine RX.seqP_value (fun _ => Below.refl _ _) _ (by first | rfl | simp) (fun w' hw' hctx => by (go_simp); (try first | with_reducible rfl | simp)) ?_
        simp only [Act.put, List.setIfInBounds_toArray, List.set_cons_zero, List.set_cons_succ]
        refine RX.seqP_value (fun _ => Below.refl _ _) _ (by first | rfl | simp) (fun w' hw' hctx => by (go_simp); (try first | with_reducible rfl | simp)) ?_
        simp only [Act.put, List.setIfInBounds_toArray, List.set_cons_zero, List.set_cons_succ]
        refine RX.seqP_value (fun _ => Below.refl _ _) _ (by first | rfl | simp) (fun w' hw' hctx => ?_) ?_
        · obtain ⟨c0, c1, c2, c3, c4⟩ := HX.out.below (below_tr hdr hw')
          go_simp
          try first | with_reducible rfl | simp
        simp only [Act.put, List.setIfInBounds_toArray, List.set_cons_zero, List.set_cons_succ]
        refine RX.seqP_value (fun _ => Below.refl _ _) _ (by first | rfl | simp) (fun w' hw' hctx => by (go_simp); (try first | with_reducible rfl | simp)) ?_
        simp only [Act.put, List.setIfInBounds_toArray, List.set_cons_zero, List.set_cons_succ]
        refine RX.seqP_value (fun _ => Below.refl _ _) _ (by first | rfl | simp) (fun w' hw' hctx => by (go_simp); (try first | with_reducible rfl | simp)) ?_
        simp only [Act.put, List.setIfInBounds_toArray, List.set_cons_zero, List.set_cons_succ]
        refine RX.seqP_value (fun _ => Below.refl _ _) _ (by first | rfl | simp) (fun w' hw' hctx => by (go_simp); (try first | with_reducible rfl | simp)) ?_
        simp only [Act.put, List.setIfInBounds_toArray, List.set_cons_zero, List.set_cons_succ]
        refine RX.seqP_value (fun _ => Below.refl _ _) _ (by first | rfl | simp) (fun w' hw' hctx => by (go_simp); (try first | with_reducible rfl | simp)) ?_
        simp only [Act.put, List.setIfInBounds_toArray, List.set_cons_zero, List.set_cons_succ]
        refine RX.seqP_value (fun _ => Below.refl _ _) _ (by first | rfl | simp) (fun w' hw' hctx => ?_) ?_
        · obtain ⟨c0, c1, c2, c3, c4, c5, c6⟩ := HY.out.below (below_tr hdr hw')
          go_simp
          try first | with_reducible rfl | simp
        simp only [Act.put, List.setIfInBounds_toArray, List.set_cons_zero, List.set_cons_succ]
        refine RX.seqP_call (31) #[.agg #[.int .u8 x.k, .int .i64 x.n, .int .i64 x.u, .string x.t], .int .u8 y.ty] (.bool q) (by first | rfl | simp) (fun w' hw' hctx => ?_) (fun w' hw' hctx => hcon w') ?_
        · go_simp
        simp only [Act.put, List.setIfInBounds_toArray, List.set_cons_zero, List.set_cons_succ]
        refine RX.seqP_value (fun _ => Below.refl _ _) _ (by first | rfl | simp) (fun w' hw' hctx => by (go_simp); (try first | with_reducible rfl | simp)) ?_
        simp only [Act.put, List.setIfInBounds_toArray, List.set_cons_zero, List.set_cons_succ]
        refine RX.seqP_nil (fun v1 hR hctx _ => ?_)
        have hv1 := below_tr hdr hR
        clear hctx hR
        have HW1 := Lib.hid (BW.out.trans (hv1.mono BW.out.size))
        clear hcon hv1
        cases q
        · go_wp2_with fail
          go_ret
          obtain rfl : r = 60 := by
            rw [← HR.out, ← HT.out, HG.out, HE.out]
            rfl
          exact ⟨rfl, HW1.out⟩
        · go_wp2_with fail
          go_roundg (n - (p + 1))
          case measure => omega
          case rel =>
            refine ⟨p + 1, by go_num, by omega, Nat.le_refl _, Lib.hid ?_, HW1⟩
            rw [← HT.out, HG.out, HE.out]
            rfl
      · have hltz : ¬ (p : Int) < (n : Int) := by omega
        go_wp2_with fail
        go_ret
        obtain rfl : r = 0 := by
          rw [← HR.out, ← HT.out, List.drop_eq_nil_of_le (by rw [HN.out]; omega)]
          rfl
        exact ⟨rfl, BW.out⟩
  · have hne : ¬ (n : Int) = (k : Int) := by omega
    rw [if_neg hnk] at hr'
    subst hr'
    clear hn hk
    go_enter Tryd.func19, Tryd.ntmps19
    go_wp2_with fail
    go_ret
    exact ⟨rfl, Below.refl _ _⟩

end Go.Proofs.YtoglaibcmfjclaaDoor
