/-
  anyMeet: do any two of a list meet?
-/
import Derived.Test.YtnifpphimodonaaSDel
namespace Go.Proofs.Ytnifpphimodonaa
open Go.RowKit

theorem anyS_iff (D : Nat → Val) (n : Nat) : anyS D n ↔ ¬ ((List.range n).map D).Pairwise fun a b => meetS a b = false := by
  rw [List.pairwise_map]
  constructor
  · rintro ⟨a, b, h1, h2, h3⟩ hp
    have := List.pairwise_iff_getElem.1 hp b a (by simp; omega) (by simpa using h2) h1
    simp at this
    rw [this] at h3
    cases h3
  · intro h
    refine Classical.byContradiction fun hn => h ?_
    refine List.pairwise_iff_getElem.2 fun i j hi hj hij => ?_
    simp at hi hj ⊢
    cases e : meetS (D i) (D j)
    · rfl
    · exact (hn ⟨j, i, hij, hj, e⟩).elim

theorem pair_sorted {n m : Nat} {D D' E : Nat → Val} (hs : SortedOf n D D') (he : (List.range m).map E = ((List.range n).map D').filter okS) :
    (((List.range m).map E).Pairwise (fun a b => meetS a b = false) ↔ ((List.range n).map D).Pairwise fun a b => meetS a b = false) := by
  rw [he, List.pairwise_filter]
  have h1 : ((List.range n).map D').Pairwise (fun a b => meetS a b = false) ↔ ((List.range n).map D).Pairwise fun a b => meetS a b = false :=
    hs.1.pairwise_iff (fun {x y} h => by rw [meetS_comm]; exact h)
  rw [← h1]
  constructor
  · intro h
    refine h.imp fun {a b} hab => ?_
    cases oa : okS a
    · simp [meetS, oa]
    · cases ob : okS b
      · simp [meetS, ob]
      · exact hab oa ob
  · intro h
    exact h.imp fun {a b} hab _ _ => hab

/-- What the loop over the neighbours finds out. -/
theorem any_no {n m : Nat} {D D' E : Nat → Val} (hs : SortedOf n D D') (he : (List.range m).map E = ((List.range n).map D').filter okS) (hn : ∀ t, t + 1 < m → meetS (E t) (E (t + 1)) = false) : ¬ anyS D n := by
  rw [anyS_iff, Classical.not_not, ← pair_sorted hs he]
  refine neighbours (fun v hv => ?_) ?_ (fun i h => ?_)
  · rw [he] at hv
    exact (List.mem_filter.1 hv).2
  · rw [he]
    refine List.Pairwise.filter _ ?_
    rw [List.pairwise_map]
    refine List.pairwise_iff_getElem.2 fun i j hi hj hij => ?_
    simp at hi hj ⊢
    exact hs.2 i j hij hj
  · simp at h ⊢
    exact hn i h

theorem any_yes {n m : Nat} {D D' E : Nat → Val} (hs : SortedOf n D D') (he : (List.range m).map E = ((List.range n).map D').filter okS) {t : Nat} (ht : t + 1 < m) (hm : meetS (E t) (E (t + 1)) = true) : anyS D n := by
  rw [anyS_iff, ← pair_sorted hs he]
  intro h
  have := List.pairwise_iff_getElem.1 h t (t + 1) (by simp; omega) (by simpa using ht) (by omega)
  simp at this
  rw [this] at hm
  cases hm

set_option maxRecDepth 100000 in
set_option maxHeartbeats 2000000 in
theorem any_is (b o n c : Nat) (D : Nat → Val) (w : World) (hn : n ≤ 1000) (hat : ∀ i, i < n → AtV w b (o + i * 4) (D i)) (r : Bool) (hr : r = true ↔ anyS D n) :
    Calls Try.prog 29 #[.slice (some ⟨b, o, none⟩) n c] w fun e w' => e = .returned (.bool r) ∧ Below w.heap.size w w' := by
  have HRR := Lib.hid hr
  clear hr
  have hcon := sorted_is b o n c D w hn hat
  clear hat
  have HN := Lib.hid hn
  go_enter Try.func29, Try.ntmps29
  go_wp2_with fail
  refine hcon.mono ?_
  rintro e w1 ⟨g, cap, D', rfl, hnc, hbg, hS, hR, hb1⟩
  have hcon2 := del_is g n cap D' w1 hR HN.out hnc
  have HB1 := Lib.hid hb1
  have HS := Lib.hid hS
  clear hcon hR hb1 hS hn
  go_wp2_with fail
  refine hcon2.mono ?_
  rintro e w2 ⟨m, E, rfl, hmn, hE, hR2, hb2⟩
  have HR := Lib.hid hR2
  have HB := Lib.hid (HB1.out.trans (hb2.mono hbg))
  have HE := Lib.hid hE
  have hm : m ≤ 1000 := by have := HN.out; omega
  clear hcon2 hR2 hb2 hE hmn hnc
  go_wp2_with fail
  go_loopg [4] m (fun gg s4 wr => ∃ (i : Nat), s4 = .int .i64 (((i + 1 : Nat)) : Int) ∧ m - i ≤ gg ∧ i ≤ 1000 ∧ Hid (∀ t, t < i → t + 1 < m → meetS (E t) (E (t + 1)) = false) ∧ Hid (RowF wr g m E) ∧ Hid (Below w.heap.size w wr))
  case atStart => exact ⟨0, by simp, by omega, by omega, Lib.hid (fun t ht => by omega), HR, HB⟩
  case round =>
    obtain ⟨i, rfl, hgg, hi, HM, RE, BE⟩ := hrel
    clear HR HB
    by_cases hlt : i + 1 < m
    · have hltz : ((i : Int) + 1) < (m : Int) := by omega
      have h0 := RE.out.at' i (by omega)
      have h1 := RE.out.at' (i + 1) hlt
      have HC0 := Lib.hid h0
      have HC1 := Lib.hid h1
      obtain ⟨x, hx⟩ : ∃ x, E i = x := ⟨_, rfl⟩
      obtain ⟨y, hy⟩ : ∃ y, E (i + 1) = y := ⟨_, rfl⟩
      rw [hx] at HC0
      rw [hy] at HC1
      have HX := Lib.hid hx
      have HY := Lib.hid hy
      obtain ⟨d, hd⟩ : ∃ d, meetS x y = d := ⟨_, rfl⟩
      have HD := Lib.hid hd
      clear h0 h1 hx hy hd
      have hw0 : IntKind.i64.wrap (i : Int) = (i : Int) := by simp [IntKind.wrap, IntKind.bits, IntKind.signed]; omega
      have z1 : ¬ m ≤ i := by omega
      have z2 : ¬ m ≤ i + 1 := by omega
      have z3 : ¬ ((i : Int) + 1 < 0) := by omega
      go_wp2_with fail
      have hdr := below_drw wr
      try simp only [List.append_eq, List.cons_append, List.nil_append]
      refine RX.wp_region_plan (fun w w' => Below w.heap.size w w') [.it (.slice (some ⟨g, 0, none⟩) m cap), .it (.int .i64 ((i : Int) + 1)), .it (.int .i64 (i : Int)), .it (.pointer (some ⟨g, i * 4, none⟩)), .it (.agg #[.int .u8 x.k, .int .i64 x.n, .int .i64 x.u, .string x.t]), .it (.slice (some ⟨g, 0, none⟩) m cap), .it (.int .i64 ((i : Int) + 1)), .it (.pointer (some ⟨g, (i + 1) * 4, none⟩)), .it (.agg #[.int .u8 y.k, .int .i64 y.n, .int .i64 y.u, .string y.t]), .it (.bool d)] (by kernel_rfl) (by kernel_rfl) (fun _ => Below.refl _ _) (fun _ _ _ => below_tr) ?_
      refine RX.seqP_value (fun _ => Below.refl _ _) _ (by first | rfl | simp) (fun w' hw' hctx => by (go_simp); (try first | with_reducible rfl | simp)) ?_
      simp only [Act.put, List.setIfInBounds_toArray, List.set_cons_zero, List.set_cons_succ]
      refine RX.seqP_value (fun _ => Below.refl _ _) _ (by first | rfl | simp) (fun w' hw' hctx => by (go_simp); (try first | with_reducible rfl | simp)) ?_
      simp only [Act.put, List.setIfInBounds_toArray, List.set_cons_zero, List.set_cons_succ]
      refine RX.seqP_value (fun _ => Below.refl _ _) _ (by first | rfl | simp) (fun w' hw' hctx => by (go_simp); (try first | with_reducible rfl | simp)) ?_
      simp only [Act.put, List.setIfInBounds_toArray, List.set_cons_zero, List.set_cons_succ]
      refine RX.seqP_value (fun _ => Below.refl _ _) _ (by first | rfl | simp) (fun w' hw' hctx => by (go_simp); (try first | with_reducible rfl | simp)) ?_
      simp only [Act.put, List.setIfInBounds_toArray, List.set_cons_zero, List.set_cons_succ]
      refine RX.seqP_value (fun _ => Below.refl _ _) _ (by first | rfl | simp) (fun w' hw' hctx => ?_) ?_
      · obtain ⟨c0, c1, c2, c3, c4⟩ := HC0.out.below (below_tr hdr hw')
        go_simp
        try first | with_reducible rfl | simp
      simp only [Act.put, List.setIfInBounds_toArray, List.set_cons_zero, List.set_cons_succ]
      refine RX.seqP_value (fun _ => Below.refl _ _) _ (by first | rfl | simp) (fun w' hw' hctx => by (go_simp); (try first | with_reducible rfl | simp)) ?_
      simp only [Act.put, List.setIfInBounds_toArray, List.set_cons_zero, List.set_cons_succ]
      refine RX.seqP_value (fun _ => Below.refl _ _) _ (by first | rfl | simp) (fun w' hw' hctx => by (go_simp); (try first | with_reducible rfl | simp)) ?_
      simp only [Act.put, List.setIfInBounds_toArray, List.set_cons_zero, List.set_cons_succ]
      refine RX.seqP_value (fun _ => Below.refl _ _) _ (by first | rfl | simp) (fun w' hw' hctx => by (go_simp); (try first | with_reducible rfl | simp)) ?_
      simp only [Act.put, List.setIfInBounds_toArray, List.set_cons_zero, List.set_cons_succ]
      refine RX.seqP_value (fun _ => Below.refl _ _) _ (by first | rfl | simp) (fun w' hw' hctx => ?_) ?_
      · obtain ⟨c0, c1, c2, c3, c4⟩ := HC1.out.below (below_tr hdr hw')
        go_simp
        try first | with_reducible rfl | simp
      simp only [Act.put, List.setIfInBounds_toArray, List.set_cons_zero, List.set_cons_succ]
      refine RX.seqP_call (18) #[.agg #[.int .u8 x.k, .int .i64 x.n, .int .i64 x.u, .string x.t], .agg #[.int .u8 y.k, .int .i64 y.n, .int .i64 y.u, .string y.t]] (.bool d) (by first | rfl | simp) (fun w' hw' hctx => ?_) (fun w' hw' hctx => meets_is x y d HD.out w') ?_
      · go_simp
      simp only [Act.put, List.setIfInBounds_toArray, List.set_cons_zero, List.set_cons_succ]
      refine RX.seqP_nil (fun v1 hR hctx _ => ?_)
      have hv1 := below_tr hdr hR
      clear hctx hR
      have hB := Lib.hid (BE.out.trans (hv1.mono BE.out.size))
      have hR := Lib.hid (RE.out.below hv1)
      clear hv1 hdr
      cases d
      · go_wp2_with fail
        go_roundg (m - (i + 1))
        case measure => omega
        case rel =>
          refine ⟨i + 1, by go_num, Nat.le_refl _, by omega, Lib.hid (fun t ht ht2 => ?_), hR, hB⟩
          rcases Nat.lt_succ_iff_lt_or_eq.1 ht with h | rfl
          · exact HM.out t h ht2
          · rw [HX.out, HY.out]; exact HD.out
      · go_wp2_with fail
        go_ret
        have hr : r = true := HRR.out.2 (any_yes HS.out HE.out hlt (by rw [HX.out, HY.out]; exact HD.out))
        subst hr
        exact ⟨rfl, hB.out⟩
    · have hltz : ¬ ((i : Int) + 1) < (m : Int) := by omega
      go_wp2_with fail
      go_ret
      have hr : r = false := by
        cases h : r
        · rfl
        · exact (any_no HS.out HE.out (fun t ht => HM.out t (by omega) ht) (HRR.out.1 h)).elim
      subst hr
      exact ⟨rfl, BE.out⟩
end Go.Proofs.Ytnifpphimodonaa
