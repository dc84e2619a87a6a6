/-
  covenantref05.Same, covenantref11.Same (stage 11).
-/
import Derived.Test.YtkedkeelbbfmkaaHWorks
namespace Go.Proofs.Ytkedkeelbbfmkaa
open Go.RowKit
set_option linter.unusedVariables false

theorem take_same {l m : List Val} {p : Nat} {x y : Val} (h : l.take p = m.take p) (hx : l[p]? = some x) (hy : m[p]? = some y) (e : eqB x y = true) : l.take (p + 1) = m.take (p + 1) := by
  rw [List.take_add_one, List.take_add_one, h, hx, hy, eqB_iff.1 e]

theorem ne_at {l m : List Val} {p : Nat} {x y : Val} (hx : l[p]? = some x) (hy : m[p]? = some y) (e : eqB x y = false) : l ≠ m := by
  rintro rfl
  rw [hx, Option.some.injEq] at hy
  rw [eqB_iff.2 hy] at e
  cases e

theorem at_l {W : World} {a : Option Addr} {c : Nat} {l : List Val} (h : SlL W a c l) {i : Nat} {x : Val} (hx : l[i]? = some x) : ∃ b o, a = some ⟨b, o, none⟩ ∧ AtV W b (o + i * 4) x := by
  obtain ⟨b, o, e, hl⟩ := h.at' (by rintro rfl; simp at hx)
  exact ⟨b, o, e, hl i x hx⟩

set_option maxRecDepth 100000 in
set_option maxHeartbeats 1000000 in
theorem rsame_is (a a' : Option Addr) (c c' n k : Nat) (l m : List Val) (z0 : Bool) (hn : l.length = n) (hk : m.length = k) (hz : decide (l = m) = z0) (w : World) (h1 : SlL w a c l) (h2 : SlL w a' c' m) :
    Calls Try.prog 55 #[.slice a n c, .slice a' k c'] w fun e w' => e = .returned (.bool z0) ∧ Below w.heap.size w w' := by
  have HA := Lib.hid h1
  have HB := Lib.hid h2
  have HN := Lib.hid hn
  have HK := Lib.hid hk
  have HZ := Lib.hid hz
  have hbn : n ≤ 9223372036854775807 := by have a := h1.lc; have b := h1.cm; rw [hn] at a; unfold maxLen at b; omega
  clear h1 h2
  by_cases hnk : n = k
  · subst hnk
    clear hn hk hz
    go_enter Try.func55, Try.ntmps55
    go_wp2_with fail
    go_loopg [5] n (fun gg s5 wr => ∃ p : Nat, s5 = .int .i64 p ∧ p ≤ n ∧ n - p ≤ gg ∧ Hid (l.take p = m.take p) ∧ Hid (Below w.heap.size w wr))
    case atStart => exact ⟨0, rfl, Nat.zero_le _, by omega, Lib.hid rfl, Lib.hid (Below.refl _ _)⟩
    case round =>
      obtain ⟨p, rfl, hpn, hgg, HT, BW⟩ := hrel
      by_cases hlt : p < n
      · have hltz : (p : Int) < (n : Int) := by omega
        have z1 : ¬ n ≤ p := by omega
        obtain ⟨x, hx⟩ := get_is (l := l) (i := p) (by rw [HN.out]; exact hlt)
        obtain ⟨y, hy⟩ := get_is (l := m) (i := p) (by rw [HK.out]; exact hlt)
        obtain ⟨b, o, rfl, ha⟩ := at_l HA.out hx
        obtain ⟨b', o', rfl, hb⟩ := at_l HB.out hy
        have HX := Lib.hid (ha.below BW.out)
        have HY := Lib.hid (hb.below BW.out)
        obtain ⟨z, hz⟩ : ∃ z, (!eqB x y) = z := ⟨_, rfl⟩
        have hnq := neqv_is x y z hz
        have HGX := Lib.hid hx
        have HGY := Lib.hid hy
        have HE := Lib.hid hz
        clear ha hb hx hy hz
        go_wp2_with fail
        have hdr := below_drw wr
        try simp only [List.append_eq, List.cons_append, List.nil_append]
        refine RX.wp_region_plan (fun w w' => Below w.heap.size w w') [.it (.slice (some ⟨b, o, none⟩) n c), .it (.int .i64 (p : Int)), .it (.pointer (some ⟨b, o + p * 4, none⟩)), .it (.agg #[.int .u8 x.k, .int .i64 x.n, .int .i64 x.u, .string x.t]), .it (.slice (some ⟨b', o', none⟩) n c'), .it (.int .i64 (p : Int)), .it (.pointer (some ⟨b', o' + p * 4, none⟩)), .it (.agg #[.int .u8 y.k, .int .i64 y.n, .int .i64 y.u, .string y.t]), .it (.bool z)] (by kernel_rfl) (by kernel_rfl) (fun _ => Below.refl _ _) (fun _ _ _ => below_tr) ?_
        refine RX.seqP_value (fun _ => Below.refl _ _) _ (by first | rfl | simp) (fun w' hw' hctx => by (go_simp); (try first | with_reducible rfl | simp)) ?_
        simp only [Act.put, List.setIfInBounds_toArray, List.set_cons_zero, List.set_cons_succ]
        refine RX.seqP_value (fun _ => Below.refl _ _) _ (by first | rfl | simp) (fun w' hw' hctx => by (go_simp); (try first | with_reducible rfl | simp)) ?_
        simp only [Act.put, List.setIfInBounds_toArray, List.set_cons_zero, List.set_cons_succ]
        refine RX.seqP_value (fun _ => Below.refl _ _) _ (by first | rfl | simp) (fun w' hw' hctx => by (go_simp); (try first | with_reducible rfl | simp)) ?_
        simp only [Act.put, List.setIfInBounds_toArray, List.set_cons_zero, List.set_cons_succ]
        refine RX.seqP_value (fun _ => Below.refl _ _) _ (by first | rfl | simp) (fun w' hw' hctx => ?_) ?_
        · obtain ⟨c0, c1, c2, c3, c4⟩ := HX.out.below (below_tr hdr hw')
          go_simp
          try first | with_reducible rfl | simp
        simp only [Act.put, List.setIfInBounds_toArray, List.set_cons_zero, List.set_cons_succ]
        refine RX.seqP_value (fun _ => Below.refl _ _) _ (by first | rfl | simp) (fun w' hw' hctx => by (go_simp); (try first | with_reducible rfl | simp)) ?_
        simp only [Act.put, List.setIfInBounds_toArray, List.set_cons_zero, List.set_cons_succ]
        refine RX.seqP_value (fun _ => Below.refl _ _) _ (by first | rfl | simp) (fun w' hw' hctx => by (go_simp); (try first | with_reducible rfl | simp)) ?_
        simp only [Act.put, List.setIfInBounds_toArray, List.set_cons_zero, List.set_cons_succ]
        refine RX.seqP_value (fun _ => Below.refl _ _) _ (by first | rfl | simp) (fun w' hw' hctx => by (go_simp); (try first | with_reducible rfl | simp)) ?_
        simp only [Act.put, List.setIfInBounds_toArray, List.set_cons_zero, List.set_cons_succ]
        refine RX.seqP_value (fun _ => Below.refl _ _) _ (by first | rfl | simp) (fun w' hw' hctx => ?_) ?_
        · obtain ⟨c0, c1, c2, c3, c4⟩ := HY.out.below (below_tr hdr hw')
          go_simp
          try first | with_reducible rfl | simp
        simp only [Act.put, List.setIfInBounds_toArray, List.set_cons_zero, List.set_cons_succ]
        refine RX.seqP_value (fun _ => Below.refl _ _) _ (by first | rfl | simp) (fun w' hw' hctx => by (go_simp); (try first | with_reducible rfl | simp)) ?_
        simp only [Act.put, List.setIfInBounds_toArray, List.set_cons_zero, List.set_cons_succ]
        refine RX.seqP_nil (fun v1 hR hctx _ => ?_)
        have hv1 := below_tr hdr hR
        clear hctx hR
        cases z
        · go_wp2_with fail
          go_roundg (n - (p + 1))
          case measure => omega
          case rel => exact ⟨p + 1, by go_num, by omega, Nat.le_refl _, Lib.hid (take_same HT.out HGX.out HGY.out (by simpa using HE.out)), Lib.hid (BW.out.trans (hv1.mono BW.out.size))⟩
        · go_wp2_with fail
          go_ret
          obtain rfl : z0 = false := by rw [← HZ.out]; exact decide_eq_false (ne_at HGX.out HGY.out (by simpa using HE.out))
          exact ⟨rfl, BW.out.trans (hv1.mono BW.out.size)⟩
      · have hltz : ¬ (p : Int) < (n : Int) := by omega
        go_wp2_with fail
        go_ret
        have ht := HT.out
        rw [List.take_of_length_le (by rw [HN.out]; omega), List.take_of_length_le (by rw [HK.out]; omega)] at ht
        obtain rfl : z0 = true := by rw [← HZ.out]; exact decide_eq_true ht
        exact ⟨rfl, BW.out⟩
  · have hne : ¬ (n : Int) = (k : Int) := by omega
    have hz' : z0 = false := by rw [← hz]; exact decide_eq_false (fun e => hnk (by rw [← hn, ← hk, e]))
    subst hz'
    clear hn hk hz HZ
    go_enter Try.func55, Try.ntmps55
    go_wp2_with fail
    go_ret
    exact ⟨rfl, Below.refl _ _⟩

set_option maxRecDepth 100000 in
set_option maxHeartbeats 4000000 in
/-- A tuple is the same as itself, each in a row of its own. -/
theorem hsame_is (w : World) (t : Tup) (s s' : Value) (hw : ∀ x ∈ t.row, x.wf) (h1 : RowV w s t.row) (h2 : RowV w s' t.row) :
    Calls Try.prog 24 #[tupV t s, tupV t s'] w fun e w' => e = .returned (.bool true) ∧ Below w.heap.size w w' := by
  have b1 := Below.allocs w (.cells (tupC t s).toArray 46)
  have l1 := Lit.new w 46 (tupC t s)
  obtain ⟨g1, hg1⟩ : ∃ g, w.heap.size = g := ⟨_, rfl⟩
  obtain ⟨W1, hW1⟩ : ∃ W, w.alloc (.cells (tupC t s).toArray 46) = W := ⟨_, rfl⟩
  rw [hW1] at b1 l1
  rw [hg1] at l1
  have b2 := Below.allocs W1 (.cells (tupC t s').toArray 46)
  have l2 := Lit.new W1 46 (tupC t s')
  obtain ⟨g2, hg2⟩ : ∃ g, W1.heap.size = g := ⟨_, rfl⟩
  obtain ⟨W2, hW2⟩ : ∃ W, W1.alloc (.cells (tupC t s').toArray 46) = W := ⟨_, rfl⟩
  rw [hW2] at b2 l2
  rw [hg2] at l2
  have hb := below_tr b1 b2
  have l1' := l1.below b2
  obtain ⟨a, c, hs, q1⟩ := RowV.sl (RowF.below h1 hb) hw
  obtain ⟨a', c', hs', q2⟩ := RowV.sl (RowF.below h2 hb) hw
  subst hs hs'
  obtain ⟨n, hn⟩ : ∃ n, t.row.length = n := ⟨_, rfl⟩
  have hcon := rsame_is a a' c c' n n t.row t.row true hn hn (by simp) W2 q1 q2
  rw [hn] at hW1 hW2 l1' l2 ⊢
  have c0 := l1'.cell (o := 0) rfl
  have c1 := l1'.cell (o := 1) rfl
  have c2 := l1'.cell (o := 2) rfl
  have c3 := l1'.cell (o := 3) rfl
  have c4 := l1'.cell (o := 4) rfl
  have c5 := l1'.cell (o := 5) rfl
  have c6 := l1'.cell (o := 6) rfl
  have d0 := l2.cell (o := 0) rfl
  have d1 := l2.cell (o := 1) rfl
  have d2 := l2.cell (o := 2) rfl
  have d3 := l2.cell (o := 3) rfl
  have d4 := l2.cell (o := 4) rfl
  have d5 := l2.cell (o := 5) rfl
  have d6 := l2.cell (o := 6) rfl
  have HB := Lib.hid hb
  have HW1 := Lib.hid hW1
  have HW2 := Lib.hid hW2
  have HG1 := Lib.hid hg1
  have HG2 := Lib.hid hg2
  have HSZ : Hid (W1.heap.size = g1 + 1) := Lib.hid (by rw [← hW1, ← hg1]; simp)
  unfold tupC at HW1 HW2
  unfold tupV
  clear h1 h2 hw b1 b2 l1 l2 l1' hW1 hW2 hg1 hg2 hb q1 q2 hn
  go_enter Try.func24, Try.ntmps24
  go_upto_region 1 with (fail)
  rw [show w.alloc _ = W1 from HW1.out, show W1.alloc _ = W2 from HW2.out, HG1.out]
  try rw [HG2.out]
  try rw [show g1 + 1 = g2 by rw [← HSZ.out]; exact HG2.out]
  clear HW1 HW2 HG1 HG2 HSZ
  go_wp2_with fail
  refine hcon.mono ?_
  rintro e w3 ⟨rfl, hb3⟩
  have HE := Lib.hid (below_tr HB.out hb3)
  clear hcon hb3
  go_wp2_with fail
  go_ret
  exact ⟨rfl, HE.out⟩

end Go.Proofs.Ytkedkeelbbfmkaa
