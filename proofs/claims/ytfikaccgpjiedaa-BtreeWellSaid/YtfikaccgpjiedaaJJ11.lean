/-
  Are two lists of values the same? covenantref04.Same, slices.Equal, row.Same.
-/
import Derived.Test.YtfikaccgpjiedaaJJ1
import Derived.Test.YtfikaccgpjiedaaJJ10
import Derived.Test.YtfikaccgpjiedaaJJ7
import Derived.Test.YtfikaccgpjiedaaJJ9
namespace Go.Proofs.Ytfikaccgpjiedaa
open Go.RowKit

theorem take_same {l m : List Val} {p : Nat} {x y : Val} (h : l.take p = m.take p) (hx : l[p]? = some x) (hy : m[p]? = some y) (e : eqB x y = true) : l.take (p + 1) = m.take (p + 1) := by
  rw [List.take_add_one, List.take_add_one, h, hx, hy, eqB_iff.1 e]

theorem ne_at {l m : List Val} {p : Nat} {x y : Val} (hx : l[p]? = some x) (hy : m[p]? = some y) (e : eqB x y = false) : l ≠ m := by
  rintro rfl
  rw [hx, Option.some.injEq] at hy
  rw [eqB_iff.2 hy] at e
  cases e

theorem at_l {W : World} {a : Option Addr} {c : Nat} {l : List Val} (h : SlL W a c l) {i : Nat} {x : Val} (hx : l[i]? = some x) : ∃ b o, a = some ⟨b, o, none⟩ ∧ AtV W b (o + i * 4) x := by
  obtain ⟨b, o, e, hl⟩ := h.at' (by rintro rfl; simp at hx)
  exact ⟨b, o, e, hl i x hx⟩

end Go.Proofs.Ytfikaccgpjiedaa

/-
  large, slices.Equal and slices.CompareFunc at values, and the document's own Same and Compare.
-/
namespace Go.Proofs.Ytfikaccgpjiedaa
open Go.RowKit

set_option maxRecDepth 100000 in
set_option maxHeartbeats 1000000 in
theorem rsame_is (a a' : Option Addr) (c c' n k : Nat) (l m : List Val) (z0 : Bool) (hn : l.length = n) (hk : m.length = k) (hz : decide (l = m) = z0) (w : World) (h1 : SlL w a c l) (h2 : SlL w a' c' m) :
    Calls Try.prog 21 #[.slice a n c, .slice a' k c'] w fun e w' => e = .returned (.bool z0) ∧ Below w.heap.size w w' := by
  have HA := Lib.hid h1
  have HB := Lib.hid h2
  have HN := Lib.hid hn
  have HK := Lib.hid hk
  have HZ := Lib.hid hz
  have hbn : n ≤ 9223372036854775807 := by have a := h1.lc; have b := h1.cm; rw [hn] at a; unfold maxLen at b; omega
  clear h1 h2
  by_cases hnk : n = k
  · subst hnk
    clear hn hk hz
    go_enter Try.func21, Try.ntmps21
    go_wp2_with fail
    go_loopg [5] n (fun gg s5 wr => ∃ p : Nat, s5 = .int .i64 p ∧ p ≤ n ∧ n - p ≤ gg ∧ Hid (l.take p = m.take p) ∧ Hid (Below w.heap.size w wr))
    case atStart => exact ⟨0, rfl, Nat.zero_le _, by omega, Lib.hid rfl, Lib.hid (Below.refl _ _)⟩
    case round =>
      obtain ⟨p, rfl, hpn, hgg, HT, BW⟩ := hrel
      by_cases hlt : p < n
      · have hltz : (p : Int) < (n : Int) := by omega
        have z1 : ¬ n ≤ p := by omega
        obtain ⟨x, hx⟩ := get_is (l := l) (i := p) (by rw [HN.out]; exact hlt)
        obtain ⟨y, hy⟩ := get_is (l := m) (i := p) (by rw [HK.out]; exact hlt)
        obtain ⟨b, o, rfl, ha⟩ := at_l HA.out hx
        obtain ⟨b', o', rfl, hb⟩ := at_l HB.out hy
        have HX := Lib.hid (ha.below BW.out)
        have HY := Lib.hid (hb.below BW.out)
        obtain ⟨z, hz⟩ : ∃ z, (!eqB x y) = z := ⟨_, rfl⟩
        have hnq := neqv_is x y z hz
        have HGX := Lib.hid hx
        have HGY := Lib.hid hy
        have HE := Lib.hid hz
        clear ha hb hx hy hz
        go_wp2_with fail
        have hdr := below_drw wr
        try simp only [List.append_eq, List.cons_append, List.nil_append]
        refine RX.wp_region_plan (fun w w' => Below w.heap.size w w') [.it (.slice (some ⟨b, o, none⟩) n c), .it (.int .i64 (p : Int)), .it (.pointer (some ⟨b, o + p * 4, none⟩)), .it (.agg #[.int .u8 x.k, .int .i64 x.n, .int .i64 x.u, .string x.t]), .it (.slice (some ⟨b', o', none⟩) n c'), .it (.int .i64 (p : Int)), .it (.pointer (some ⟨b', o' + p * 4, none⟩)), .it (.agg #[.int .u8 y.k, .int .i64 y.n, .int .i64 y.u, .string y.t]), .it (.bool z)] (by kernel_rfl) (by kernel_rfl) (fun _ => Below.refl _ _) (fun _ _ _ => below_tr) ?_
        refine RX.seqP_value (fun _ => Below.refl _ _) _ (by first | rfl | simp) (fun w' hw' hctx => by (go_simp); (try first | with_reducible rfl | simp)) ?_
        simp only [Act.put, List.setIfInBounds_toArray, List.set_cons_zero, List.set_cons_succ]
        refine RX.seqP_value (fun _ => Below.refl _ _) _ (by first | rfl | simp) (fun w' hw' hctx => by (go_simp); (try first | with_reducible rfl | simp)) ?_
        simp only [Act.put, List.setIfInBounds_toArray, List.set_cons_zero, List.set_cons_succ]
        refine RX.seqP_value (fun _ => Below.refl _ _) _ (by first | rfl | simp) (fun w' hw' hctx => by (go_simp); (try first | with_reducible rfl | simp)) ?_
        simp only [Act.put, List.setIfInBounds_toArray, List.set_cons_zero, List.set_cons_succ]
        refine RX.seqP_value (fun _ => Below.refl _ _) _ (by first | rfl | simp) (fun w' hw' hctx => ?_) ?_
        · obtain ⟨c0, c1, c2, c3, c4⟩ := HX.out.below (below_tr hdr hw')
          go_simp
          try first | with_reducible rfl | simp
        simp only [Act.put, List.setIfInBounds_toArray, List.set_cons_zero, List.set_cons_succ]
        refine RX.seqP_value (fun _ => Below.refl _ _) _ (by first | rfl | simp) (fun w' hw' hctx => by (go_simp); (try first | with_reducible rfl | simp)) ?_
        simp only [Act.put, List.setIfInBounds_toArray, List.set_cons_zero, List.set_cons_succ]
        refine RX.seqP_value (fun _ => Below.refl _ _) _ (by first | rfl | simp) (fun w' hw' hctx => by (go_simp); (try first | with_reducible rfl | simp)) ?_
        simp only [Act.put, List.setIfInBounds_toArray, List.set_cons_zero, List.set_cons_succ]
        refine RX.seqP_value (fun _ => Below.refl _ _) _ (by first | rfl | simp) (fun w' hw' hctx => by (go_simp); (try first | with_reducible rfl | simp)) ?_
        simp only [Act.put, List.setIfInBounds_toArray, List.set_cons_zero, List.set_cons_succ]
        refine RX.seqP_value (fun _ => Below.refl _ _) _ (by first | rfl | simp) (fun w' hw' hctx => ?_) ?_
        · obtain ⟨c0, c1, c2, c3, c4⟩ := HY.out.below (below_tr hdr hw')
          go_simp
          try first | with_reducible rfl | simp
        simp only [Act.put, List.setIfInBounds_toArray, List.set_cons_zero, List.set_cons_succ]
        refine RX.seqP_value (fun _ => Below.refl _ _) _ (by first | rfl | simp) (fun w' hw' hctx => by (go_simp); (try first | with_reducible rfl | simp)) ?_
        simp only [Act.put, List.setIfInBounds_toArray, List.set_cons_zero, List.set_cons_succ]
        refine RX.seqP_nil (fun v1 hR hctx _ => ?_)
        have hv1 := below_tr hdr hR
        clear hctx hR
        cases z
        · go_wp2_with fail
          go_roundg (n - (p + 1))
          case measure => omega
          case rel => exact ⟨p + 1, by go_num, by omega, Nat.le_refl _, Lib.hid (take_same HT.out HGX.out HGY.out (by simpa using HE.out)), Lib.hid (BW.out.trans (hv1.mono BW.out.size))⟩
        · go_wp2_with fail
          go_ret
          obtain rfl : z0 = false := by rw [← HZ.out]; exact decide_eq_false (ne_at HGX.out HGY.out (by simpa using HE.out))
          exact ⟨rfl, BW.out.trans (hv1.mono BW.out.size)⟩
      · have hltz : ¬ (p : Int) < (n : Int) := by omega
        go_wp2_with fail
        go_ret
        have ht := HT.out
        rw [List.take_of_length_le (by rw [HN.out]; omega), List.take_of_length_le (by rw [HK.out]; omega)] at ht
        obtain rfl : z0 = true := by rw [← HZ.out]; exact decide_eq_true ht
        exact ⟨rfl, BW.out⟩
  · have hne : ¬ (n : Int) = (k : Int) := by omega
    have hz' : z0 = false := by rw [← hz]; exact decide_eq_false (fun e => hnk (by rw [← hn, ← hk, e]))
    subst hz'
    clear hn hk hz HZ
    go_enter Try.func21, Try.ntmps21
    go_wp2_with fail
    go_ret
    exact ⟨rfl, Below.refl _ _⟩

/-! ### The order -/

theorem cmp_drop {l m : List Val} {p : Nat} {x y : Val} (hx : l[p]? = some x) (hy : m[p]? = some y) : cmpL (l.drop p) (m.drop p) = lex (cmpX x y) (cmpL (l.drop (p + 1)) (m.drop (p + 1))) := by
  have h1 : p < l.length := (List.getElem?_eq_some_iff.1 hx).1
  have h2 : p < m.length := (List.getElem?_eq_some_iff.1 hy).1
  have e1 : l[p] = x := (List.getElem?_eq_some_iff.1 hx).2
  have e2 : m[p] = y := (List.getElem?_eq_some_iff.1 hy).2
  rw [List.drop_eq_getElem_cons h1, List.drop_eq_getElem_cons h2, cmpL, e1, e2]

theorem cmp_more {l m : List Val} {p : Nat} (h1 : p < l.length) (h2 : m.length ≤ p) : cmpL (l.drop p) (m.drop p) = 1 := by
  rw [List.drop_eq_getElem_cons h1, List.drop_eq_nil_of_le h2, cmpL]

theorem cmp_less {l m : List Val} {p : Nat} (h1 : l.length ≤ p) (h2 : p < m.length) : cmpL (l.drop p) (m.drop p) = -1 := by
  rw [List.drop_eq_getElem_cons h2, List.drop_eq_nil_of_le h1, cmpL]

theorem cmp_end {l m : List Val} {p : Nat} (h1 : l.length ≤ p) (h2 : m.length ≤ p) : cmpL (l.drop p) (m.drop p) = 0 := by
  rw [List.drop_eq_nil_of_le h1, List.drop_eq_nil_of_le h2, cmpL]

theorem cmp_v (x y : Val) (r : Int) (h : cmpX x y = r) (w : World) : Calls Try.prog 62 #[.agg #[.int .u8 x.k, .int .i64 x.n, .int .i64 x.u, .string x.t], .agg #[.int .u8 y.k, .int .i64 y.n, .int .i64 y.u, .string y.t]] w fun e w' => e = .returned (.int .i64 r) ∧ Below w.heap.size w w' := by
  rw [← h]; exact compare_any _ _ _ _ _ _ _ _ w

theorem rcmp_v (x y : Val) (hx : x.wf) (hy : y.wf) (r : Int) (h : cmpX x y = r) (w : World) : Calls Try.prog 36 #[.agg #[.int .u8 x.k, .int .i64 x.n, .int .i64 x.u, .string x.t], .agg #[.int .u8 y.k, .int .i64 y.n, .int .i64 y.u, .string y.t]] w fun e w' => e = .returned (.int .i64 r) ∧ Below w.heap.size w w' :=
  rcompare_is _ _ _ _ _ _ _ _ hx.t hy.t r h w

theorem lex_go {c d r : Int} (h : lex c d = r) (hc : (c != 0) = false) : d = r := by
  have : c = 0 := by simpa using hc
  subst this
  simpa [lex] using h

theorem lex_stop {c d r : Int} (h : lex c d = r) (hc : (c != 0) = true) : c = r := by
  have : c ≠ 0 := by simpa using hc
  simpa [lex, this] using h

set_option maxRecDepth 100000 in
set_option maxHeartbeats 1000000 in
theorem compf_is (a a' : Option Addr) (c c' n k : Nat) (l m : List Val) (r : Int) (hn : l.length = n) (hk : m.length = k) (hr : cmpL l m = r) (w : World) (h1 : SlL w a c l) (h2 : SlL w a' c' m) :
    Calls Try.prog 61 #[.slice a n c, .slice a' k c', .func (.func 62) #[] #[]] w fun e w' => e = .returned (.int .i64 r) ∧ Below w.heap.size w w' := by
  have HA := Lib.hid h1
  have HB := Lib.hid h2
  have HN := Lib.hid hn
  have HK := Lib.hid hk
  have HR := Lib.hid hr
  have hbn : n ≤ 9223372036854775807 := by have a := h1.lc; have b := h1.cm; rw [hn] at a; unfold maxLen at b; omega
  clear h1 h2 hn hk hr
  go_enter Try.func61, Try.ntmps61
  go_wp2_with fail
  go_loopg [13] n (fun gg s wr => ∃ p : Nat, s = .int .i64 p ∧ p ≤ n ∧ p ≤ k ∧ n - p ≤ gg ∧ Hid (cmpL (l.drop p) (m.drop p) = r) ∧ Hid (Below w.heap.size w wr))
  case atStart => exact ⟨0, rfl, Nat.zero_le _, Nat.zero_le _, by omega, HR, Lib.hid (Below.refl _ _)⟩
  case round =>
    obtain ⟨p, rfl, hpn, hpk, hgg, HT, BW⟩ := hrel
    by_cases hlt : p < n
    · have hltz : (p : Int) < (n : Int) := by omega
      have z1 : ¬ n ≤ p := by omega
      obtain ⟨x, hx⟩ := get_is (l := l) (i := p) (by rw [HN.out]; exact hlt)
      obtain ⟨b, o, rfl, ha⟩ := at_l HA.out hx
      have hax := ha.below BW.out
      obtain ⟨d0, d1, d2, d3, d4⟩ := id hax
      have HX := Lib.hid hax
      obtain ⟨V, g, hV, hg, BX, hbV, hsV⟩ := boxX wr x
      by_cases hlk : p < k
      · have hlkz : ¬ (k : Int) ≤ (p : Int) := by omega
        have z2 : ¬ k ≤ p := by omega
        obtain ⟨y, hy⟩ := get_is (l := m) (i := p) (by rw [HK.out]; exact hlk)
        obtain ⟨b', o', rfl, hb⟩ := at_l HB.out hy
        obtain ⟨e0, e1, e2, e3, e4⟩ := (hb.below BW.out).below hbV
        obtain ⟨V2, g2, hV2, hg2, BY, hbV2, hsV2⟩ := boxX V y
        obtain rfl : g2 = g + 1 := by omega
        have HV2 := Lib.hid (below_tr hbV hbV2)
        obtain ⟨x0, x1, x2, x3, x4⟩ := BX.below hbV2
        obtain ⟨y0, y1, y2, y3, y4⟩ := BY
        obtain ⟨q, hq⟩ : ∃ q, cmpX x y = q := ⟨_, rfl⟩
        have hcon := fun W => cmp_v x y q hq W
        have HD := Lib.hid (cmp_drop hx hy)
        have HQ := Lib.hid hq
        obtain ⟨z, hz⟩ : ∃ z, (q != 0) = z := ⟨_, rfl⟩
        have HZ := Lib.hid hz
        clear ha hb hx hy hbV hbV2 BX hax hq
        go_wp2_with fail
        refine (hcon _).mono ?_
        rintro e w3 ⟨rfl, hb3⟩
        have HW3 := Lib.hid (BW.out.trans ((below_tr HV2.out hb3).mono BW.out.size))
        clear hcon hb3
        cases z
        · go_wp2_with fail
          go_roundg (n - (p + 1))
          case measure => omega
          case rel => exact ⟨p + 1, by go_num, by omega, by omega, Nat.le_refl _, Lib.hid (lex_go (HD.out.symm.trans HT.out) (by rw [HQ.out]; exact HZ.out)), HW3⟩
        · go_wp2_with fail
          go_ret
          have he := lex_stop (HD.out.symm.trans HT.out) (by rw [HQ.out]; exact HZ.out)
          rw [HQ.out] at he
          subst he
          exact ⟨rfl, HW3.out⟩
      · have hlkz : (k : Int) ≤ (p : Int) := by omega
        have HV := Lib.hid hbV
        have HL := Lib.hid (cmp_more (l := l) (m := m) (p := p) (by rw [HN.out]; exact hlt) (by rw [HK.out]; omega))
        clear ha hx hbV hax
        go_wp2_with fail
        go_ret
        obtain rfl := HT.out.symm.trans HL.out
        exact ⟨rfl, BW.out.trans (HV.out.mono BW.out.size)⟩
    · have hltz : ¬ (p : Int) < (n : Int) := by omega
      by_cases hnk : n < k
      · have hnkz : (n : Int) < (k : Int) := by omega
        have HL := Lib.hid (cmp_less (l := l) (m := m) (p := p) (by rw [HN.out]; omega) (by rw [HK.out]; omega))
        go_wp2_with fail
        go_ret
        obtain rfl := HT.out.symm.trans HL.out
        exact ⟨rfl, BW.out⟩
      · have hnkz : ¬ (n : Int) < (k : Int) := by omega
        have HL := Lib.hid (cmp_end (l := l) (m := m) (p := p) (by rw [HN.out]; omega) (by rw [HK.out]; omega))
        go_wp2_with fail
        go_ret
        obtain rfl := HT.out.symm.trans HL.out
        exact ⟨rfl, BW.out⟩

theorem comp_is (a a' : Option Addr) (c c' n k : Nat) (l m : List Val) (r : Int) (hn : l.length = n) (hk : m.length = k) (hr : cmpL l m = r) (w : World) (h1 : SlL w a c l) (h2 : SlL w a' c' m) :
    Calls Try.prog 49 #[.slice a n c, .slice a' k c'] w fun e w' => e = .returned (.int .i64 r) ∧ Below w.heap.size w w' := by
  have hcon := fun W hb => compf_is a a' c c' n k l m r hn hk hr W (h1.below hb) (h2.below hb)
  clear h1 h2 hr
  go_enter Try.func49, Try.ntmps49
  go_wp2_with fail
  refine (hcon _ (Below.refl _ _)).mono ?_
  rintro e w1 ⟨rfl, hb⟩
  go_wp2_with fail
  go_ret
  exact ⟨rfl, hb⟩

set_option maxRecDepth 100000 in
set_option maxHeartbeats 1000000 in
theorem rcomp_is (a a' : Option Addr) (c c' n k : Nat) (l m : List Val) (r : Int) (hn : l.length = n) (hk : m.length = k) (hr : cmpL l m = r) (w : World) (h1 : SlL w a c l) (h2 : SlL w a' c' m) :
    Calls Try.prog 17 #[.slice a n c, .slice a' k c'] w fun e w' => e = .returned (.int .i64 r) ∧ Below w.heap.size w w' := by
  have HA := Lib.hid h1
  have HB := Lib.hid h2
  have HN := Lib.hid hn
  have HK := Lib.hid hk
  have HR := Lib.hid hr
  have hbn : n ≤ 9223372036854775807 := by have a := h1.lc; have b := h1.cm; rw [hn] at a; unfold maxLen at b; omega
  clear h1 h2 hn hk hr
  go_enter Try.func17, Try.ntmps17
  go_wp2_with fail
  go_loopg [5] n (fun gg s wr => ∃ p : Nat, s = .int .i64 p ∧ p ≤ n ∧ p ≤ k ∧ n - p ≤ gg ∧ Hid (cmpL (l.drop p) (m.drop p) = r) ∧ Hid (Below w.heap.size w wr))
  case atStart => exact ⟨0, rfl, Nat.zero_le _, Nat.zero_le _, by omega, HR, Lib.hid (Below.refl _ _)⟩
  case round =>
    obtain ⟨p, rfl, hpn, hpk, hgg, HT, BW⟩ := hrel
    by_cases hlt : p < n
    · have hltz : (p : Int) < (n : Int) := by omega
      have z1 : ¬ n ≤ p := by omega
      by_cases hlk : p < k
      · have hlkz : (p : Int) < (k : Int) := by omega
        have z2 : ¬ k ≤ p := by omega
        obtain ⟨x, hx⟩ := get_is (l := l) (i := p) (by rw [HN.out]; exact hlt)
        obtain ⟨b, o, rfl, ha⟩ := at_l HA.out hx
        obtain ⟨y, hy⟩ := get_is (l := m) (i := p) (by rw [HK.out]; exact hlk)
        obtain ⟨b', o', rfl, hb⟩ := at_l HB.out hy
        have HX := Lib.hid (ha.below BW.out)
        have HY := Lib.hid (hb.below BW.out)
        obtain ⟨q, hq⟩ : ∃ q, cmpX x y = q := ⟨_, rfl⟩
        have hcon := fun W => rcmp_v x y (get_wf HA.out.wf hx) (get_wf HB.out.wf hy) q hq W
        have HD := Lib.hid (cmp_drop hx hy)
        have HQ := Lib.hid hq
        obtain ⟨z, hz⟩ : ∃ z, (q != 0) = z := ⟨_, rfl⟩
        have HZ := Lib.hid hz
        clear ha hb hx hy hq
        go_wp2_with fail
        have hdr := below_drw wr
        try simp only [List.append_eq, List.cons_append, List.nil_append]
        refine RX.wp_region_plan (fun w w' => Below w.heap.size w w') [.it (.slice (some ⟨b, o, none⟩) n c), .it (.int .i64 (p : Int)), .it (.pointer (some ⟨b, o + p * 4, none⟩)), .it (.agg #[.int .u8 x.k, .int .i64 x.n, .int .i64 x.u, .string x.t]), .it (.slice (some ⟨b', o', none⟩) k c'), .it (.int .i64 (p : Int)), .it (.pointer (some ⟨b', o' + p * 4, none⟩)), .it (.agg #[.int .u8 y.k, .int .i64 y.n, .int .i64 y.u, .string y.t]), .it (.int .i64 q), .it (.int .i64 q)] (by kernel_rfl) (by kernel_rfl) (fun _ => Below.refl _ _) (fun _ _ _ => below_tr) ?_
        refine RX.seqP_value (fun _ => Below.refl _ _) _ (by first | rfl | simp) (fun w' hw' hctx => by (go_simp); (try first | with_reducible rfl | simp)) ?_
        simp only [Act.put, List.setIfInBounds_toArray, List.set_cons_zero, List.set_cons_succ]
        refine RX.seqP_value (fun _ => Below.refl _ _) _ (by first | rfl | simp) (fun w' hw' hctx => by (go_simp); (try first | with_reducible rfl | simp)) ?_
        simp only [Act.put, List.setIfInBounds_toArray, List.set_cons_zero, List.set_cons_succ]
        refine RX.seqP_value (fun _ => Below.refl _ _) _ (by first | rfl | simp) (fun w' hw' hctx => by (go_simp); (try first | with_reducible rfl | simp)) ?_
        simp only [Act.put, List.setIfInBounds_toArray, List.set_cons_zero, List.set_cons_succ]
        refine RX.seqP_value (fun _ => Below.refl _ _) _ (by first | rfl | simp) (fun w' hw' hctx => ?_) ?_
        · obtain ⟨c0, c1, c2, c3, c4⟩ := HX.out.below (below_tr hdr hw')
          go_simp
          try first | with_reducible rfl | simp
        simp only [Act.put, List.setIfInBounds_toArray, List.set_cons_zero, List.set_cons_succ]
        refine RX.seqP_value (fun _ => Below.refl _ _) _ (by first | rfl | simp) (fun w' hw' hctx => by (go_simp); (try first | with_reducible rfl | simp)) ?_
        simp only [Act.put, List.setIfInBounds_toArray, List.set_cons_zero, List.set_cons_succ]
        refine RX.seqP_value (fun _ => Below.refl _ _) _ (by first | rfl | simp) (fun w' hw' hctx => by (go_simp); (try first | with_reducible rfl | simp)) ?_
        simp only [Act.put, List.setIfInBounds_toArray, List.set_cons_zero, List.set_cons_succ]
        refine RX.seqP_value (fun _ => Below.refl _ _) _ (by first | rfl | simp) (fun w' hw' hctx => by (go_simp); (try first | with_reducible rfl | simp)) ?_
        simp only [Act.put, List.setIfInBounds_toArray, List.set_cons_zero, List.set_cons_succ]
        refine RX.seqP_value (fun _ => Below.refl _ _) _ (by first | rfl | simp) (fun w' hw' hctx => ?_) ?_
        · obtain ⟨c0, c1, c2, c3, c4⟩ := HY.out.below (below_tr hdr hw')
          go_simp
          try first | with_reducible rfl | simp
        simp only [Act.put, List.setIfInBounds_toArray, List.set_cons_zero, List.set_cons_succ]
        refine RX.seqP_call (36) #[.agg #[.int .u8 x.k, .int .i64 x.n, .int .i64 x.u, .string x.t], .agg #[.int .u8 y.k, .int .i64 y.n, .int .i64 y.u, .string y.t]] (.int .i64 q) (by first | rfl | simp) (fun w' hw' hctx => ?_) (fun w' hw' hctx => hcon w') ?_
        · go_simp
        simp only [Act.put, List.setIfInBounds_toArray, List.set_cons_zero, List.set_cons_succ]
        refine RX.seqP_value (fun _ => Below.refl _ _) _ (by first | rfl | simp) (fun w' hw' hctx => by (go_simp); (try first | with_reducible rfl | simp)) ?_
        simp only [Act.put, List.setIfInBounds_toArray, List.set_cons_zero, List.set_cons_succ]
        refine RX.seqP_nil (fun v1 hR hctx _ => ?_)
        have hv1 := below_tr hdr hR
        clear hctx hR
        have HW3 := Lib.hid (BW.out.trans (hv1.mono BW.out.size))
        cases z
        · go_wp2_with fail
          go_roundg (n - (p + 1))
          case measure => omega
          case rel => exact ⟨p + 1, by go_num, by omega, by omega, Nat.le_refl _, Lib.hid (lex_go (HD.out.symm.trans HT.out) (by rw [HQ.out]; exact HZ.out)), HW3⟩
        · go_wp2_with fail
          go_ret
          have he := lex_stop (HD.out.symm.trans HT.out) (by rw [HQ.out]; exact HZ.out)
          rw [HQ.out] at he
          subst he
          exact ⟨rfl, HW3.out⟩
      · have hlkz : ¬ (p : Int) < (k : Int) := by omega
        have hkn : ¬ (n : Int) < (k : Int) := by omega
        have hnk : (k : Int) < (n : Int) := by omega
        have HL := Lib.hid (cmp_more (l := l) (m := m) (p := p) (by rw [HN.out]; exact hlt) (by rw [HK.out]; omega))
        go_wp2_with fail
        go_ret
        obtain rfl := HT.out.symm.trans HL.out
        exact ⟨rfl, BW.out⟩
    · have hltz : ¬ (p : Int) < (n : Int) := by omega
      by_cases hnk : n < k
      · have hnkz : (n : Int) < (k : Int) := by omega
        have HL := Lib.hid (cmp_less (l := l) (m := m) (p := p) (by rw [HN.out]; omega) (by rw [HK.out]; omega))
        go_wp2_with fail
        go_ret
        obtain rfl := HT.out.symm.trans HL.out
        exact ⟨rfl, BW.out⟩
      · have hnkz : ¬ (n : Int) < (k : Int) := by omega
        have hknz : ¬ (k : Int) < (n : Int) := by omega
        have HL := Lib.hid (cmp_end (l := l) (m := m) (p := p) (by rw [HN.out]; omega) (by rw [HK.out]; omega))
        go_wp2_with fail
        go_ret
        obtain rfl := HT.out.symm.trans HL.out
        exact ⟨rfl, BW.out⟩

/-! ### large -/

theorem bigN_at {l : List Val} {p : Nat} {x : Val} (hx : l[p]? = some x) (n : Int) : bigN (l.drop p) n = if n < 20000 then bigN (l.drop (p + 1)) (n + 10 + x.t.size) else n := by
  have h1 : p < l.length := (List.getElem?_eq_some_iff.1 hx).1
  have e1 : l[p] = x := (List.getElem?_eq_some_iff.1 hx).2
  rw [List.drop_eq_getElem_cons h1, bigN, e1]

end Go.Proofs.Ytfikaccgpjiedaa

