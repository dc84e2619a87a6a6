/-
  SpanFree, walked.
-/
import Derived.Test.YtnifpphimodonaaSAwake
namespace Go.Proofs.Ytnifpphimodonaa
open Go.RowKit

/-- Is a number in one of the gaps? -/
def inG (L : List (Int × Int)) (m : Nat) (z : Int) : Bool := (List.range m).any fun i => hasS (gapV L i) z

theorem inG_succ (L : List (Int × Int)) (m : Nat) (z : Int) : inG L (m + 1) z = (inG L m z || hasS (gapV L m) z) := by
  simp [inG, List.range_succ]

theorem gapV_get (L : List (Int × Int)) (i : Nat) (h : i < L.length) : gapV L i = spanV (L[i]).1 (L[i]).2 := by
  simp [gapV, h]

/-- Is a number in none of the first m others? -/
def outD (D : Nat → Val) (m : Nat) (z : Int) : Bool := (List.range m).all fun i => !hasS (D i) z

theorem outD_succ (D : Nat → Val) (m : Nat) (z : Int) : outD D (m + 1) z = (outD D m z && !hasS (D m) z) := by
  simp [outD, List.range_succ]

theorem gaps_ok {v : Val} {D : Nat → Val} {n : Nat} {L : List (Int × Int)} (h : GapsS v D n L) {i : Nat} (hi : i < L.length) : okS (gapV L i) = true := by
  rw [gapV_get L i hi, okS_span]
  exact decide_eq_true (h.lt _ (List.getElem_mem hi))

theorem gaps_sep {v : Val} {D : Nat → Val} {n : Nat} {L : List (Int × Int)} (h : GapsS v D n L) {i : Nat} (hi : i + 1 < L.length) : (gapV L i).u < (gapV L (i + 1)).n := by
  rw [gapV_get L i (by omega), gapV_get L (i + 1) hi]
  exact List.pairwise_iff_getElem.1 h.sep i (i + 1) (by omega) hi (by omega)

theorem gaps_apart {v : Val} {D : Nat → Val} {n : Nat} {L : List (Int × Int)} (h : GapsS v D n L) {i j : Nat} (hi : i < L.length) (hj : j < n) : meetS (gapV L i) (D j) = false := by
  cases e : meetS (gapV L i) (D j)
  · rfl
  · obtain ⟨h1, h2, h3, h4⟩ := meetS_iff.1 e
    have l1 := okS_lt h1
    have l2 := okS_lt h2
    rw [gapV_get L i hi] at h3 h4 l1
    have := (h.iff (max (L[i]).1 (D j).n)).1 ⟨L[i], List.getElem_mem hi, by omega, by
      have h3' : (L[i]).1 < (D j).u := h3
      have h4' : (D j).n < (L[i]).2 := h4
      have l1' : (L[i]).1 < (L[i]).2 := l1
      omega⟩
    have h3' : (L[i]).1 < (D j).u := h3
    exact absurd ⟨by omega, by omega⟩ (this.2.2 j hj)

theorem gaps_in {v : Val} {D : Nat → Val} {n : Nat} {L : List (Int × Int)} (h : GapsS v D n L) (hv : okS v = true) (hok : ∀ j, j < n → okS (D j) = true) (z : Int) : inG L L.length z = (hasS v z && outD D n z) := by
  rw [Bool.eq_iff_iff, Bool.and_eq_true]
  have a1 : inG L L.length z = true ↔ ∃ g ∈ L, g.1 ≤ z ∧ z < g.2 := by
    simp only [inG, List.any_eq_true, List.mem_range]
    constructor
    · rintro ⟨i, hi, hh⟩
      rw [gapV_get L i hi] at hh
      obtain ⟨_, h1, h2⟩ := hasS_iff.1 hh
      exact ⟨L[i], List.getElem_mem hi, h1, h2⟩
    · rintro ⟨g, hg, h1, h2⟩
      obtain ⟨i, hi, rfl⟩ := List.getElem_of_mem hg
      refine ⟨i, hi, ?_⟩
      rw [hasS_iff]
      refine ⟨gaps_ok h hi, ?_, ?_⟩ <;> rw [gapV_get L i hi]
      · exact h1
      · exact h2
  have a2 : outD D n z = true ↔ ∀ j, j < n → ¬ ((D j).n ≤ z ∧ z < (D j).u) := by
    simp only [outD, List.all_eq_true, List.mem_range, Bool.not_eq_true']
    refine ⟨fun hh j hj hz => ?_, fun hh j hj => ?_⟩
    · have := hasS_iff.2 ⟨hok j hj, hz.1, hz.2⟩
      rw [hh j hj] at this
      cases this
    · cases e : hasS (D j) z
      · rfl
      · exact absurd (hasS_iff.1 e).2 (hh j hj)
  rw [a1, a2, h.iff z, hasS_iff]
  exact ⟨fun ⟨x, y, w⟩ => ⟨⟨hv, x, y⟩, w⟩, fun ⟨⟨_, x, y⟩, w⟩ => ⟨x, y, w⟩⟩

theorem gaps_zero {D : Nat → Val} (v : Val) (hv : okS v = true) : GapsS v D 0 [(v.n, v.u)] := by
  refine ⟨fun g hg => ?_, List.pairwise_singleton _ _, fun x => ?_⟩
  · rw [List.mem_singleton] at hg; subst hg; exact okS_lt hv
  · simp

set_option maxRecDepth 100000 in
set_option maxHeartbeats 4000000 in
theorem freel_a (v : Val) (a : Option Addr) (n c : Nat) (h : 100 < n) (z : Int) (w : World)  :
    Calls Try.prog 7 #[.agg #[.int .u8 v.k, .int .i64 v.n, .int .i64 v.u, .string v.t], .slice a n c, .int .i64 z] w fun e w' => e = .returned (.bool true) ∧ Below w.heap.size w w' := by
  obtain ⟨W, g0, hW, hg, B0, hb0, hs⟩ := boxX w v
  subst hg
  have HB := Lib.hid hb0
  have H0 := Lib.hid B0
  clear hs B0
  have h' : (100 : Int) < (n : Int) := by omega
  clear h hb0
  go_enter Try.func7, Try.ntmps7
  go_wp2_with fail
  refine (awake_is _).mono ?_
  rintro e w1 ⟨rfl, hb1⟩
  go_wp2_with fail
  go_ret
  exact ⟨rfl, below_tr HB.out hb1⟩

set_option maxRecDepth 100000 in
set_option maxHeartbeats 4000000 in
theorem freel_b (v : Val) (a : Option Addr) (n c : Nat) (hn : n ≤ 100) (D : Nat → Val) (z : Int) (w : World) (hl : SlV w a n c D) (hbad : okS v = false ∨ (okS v = true ∧ ((List.range n).map D).any (fun v => !okS v) = true)) :
    Calls Try.prog 7 #[.agg #[.int .u8 v.k, .int .i64 v.n, .int .i64 v.u, .string v.t], .slice a n c, .int .i64 z] w fun e w' => e = .returned (.bool true) ∧ Below w.heap.size w w' := by
  obtain ⟨W, g0, hW, hg, B0, hb0, hs⟩ := boxX w v
  subst hg
  have HB := Lib.hid hb0
  have H0 := Lib.hid B0
  clear hs B0
  have hf : ∀ w' (hb : Below W.heap.size W w'), Calls Try.prog 22 #[.agg #[.int .u8 v.k, .int .i64 v.n, .int .i64 v.u, .string v.t], .slice a n c] w' fun e w'' => e = .returned (.tuple #[.slice none 0 0, .int .i64 4]) ∧ Below w'.heap.size w' w'' := fun w' hb => by
    rcases hbad with h | ⟨h1, h2⟩
    · exact free_bad1 v a n c w' h
    · exact free_bad2 v a n c D w' ((hl.below hb0).below hb) h1 h2
  have HF := Lib.hid hf
  clear hf hbad hl
  have h' : ¬ (100 : Int) < (n : Int) := by omega
  clear hb0
  go_enter Try.func7, Try.ntmps7
  go_wp2_with fail
  refine (awake_is _).mono ?_
  rintro e w1 ⟨rfl, hb1⟩
  have HB1 := Lib.hid (below_tr HB.out hb1)
  have H1 := Lib.hid (H0.out.below hb1)
  have HE1 := Lib.hid hb1
  clear hb1
  obtain ⟨b0, b1, b2, b3, b4⟩ := H1.out
  go_wp2_with fail
  clear b0 b1 b2 b3 b4
  refine (HF.out _ HE1.out).mono ?_
  rintro e w2 ⟨rfl, hb2⟩
  go_wp2_with fail
  go_ret
  exact ⟨rfl, below_tr HB1.out hb2⟩

set_option maxRecDepth 100000 in
set_option maxHeartbeats 4000000 in
theorem freel_0 (v : Val) (a : Option Addr) (c : Nat) (D : Nat → Val) (z : Int) (w : World) (hl : SlV w a 0 c D) (hv : okS v = true) (hok : ∀ i, i < 0 → okS (D i) = true) (L : List (Int × Int)) (hL : GapsS v D 0 L) (hlen : L.length ≤ 101) :
    Calls Try.prog 7 #[.agg #[.int .u8 v.k, .int .i64 v.n, .int .i64 v.u, .string v.t], .slice (a) 0 c, .int .i64 z] w fun e w' => e = .returned (.bool true) ∧ Below w.heap.size w w' := by
  obtain ⟨W, g0, hW, hg, B0, hb0, hs⟩ := boxX w v
  subst hg
  have HB := Lib.hid hb0
  have H0 := Lib.hid B0
  clear hs B0
  have hf : ∀ w' (hb : Below W.heap.size W w'), Calls Try.prog 22 #[.agg #[.int .u8 v.k, .int .i64 v.n, .int .i64 v.u, .string v.t], .slice (a) 0 c] w' fun e w'' => ∃ s, e = .returned (.tuple #[s, .int .i64 0]) ∧ w''.ownsRow w'.heap.size 23 4 s L.length (flatG L) ∧ Below w'.heap.size w' w'' := fun w' hb => free_ok v _ _ c D w' ((hl.below hb0).below hb) hv hok L hL
  have HF := Lib.hid hf
  have hhv := fun w => has_is v z _ rfl w
  obtain ⟨h0, hh0⟩ : ∃ b, hasS v z = b := ⟨_, rfl⟩
  rw [hh0] at hhv
  have HHV := Lib.hid hhv
  have HFIN : Hid (inG L L.length z = (h0 && outD D 0 z)) := Lib.hid (by rw [← hh0]; exact gaps_in hL hv hok z)
  have HOKG := Lib.hid (fun i (hi : i < L.length) => gaps_ok hL hi)
  have HSEP := Lib.hid (fun i (hi : i + 1 < L.length) => gaps_sep hL hi)
  have HAP := Lib.hid (fun i j (hi : i < L.length) (hj : j < 0) => gaps_apart hL hi hj)
  have HLEN := Lib.hid hlen
  clear hf hv hok hL hl hhv hh0
  clear hb0
  go_enter Try.func7, Try.ntmps7
  go_wp2_with fail
  refine (awake_is _).mono ?_
  rintro e w1 ⟨rfl, hb1⟩
  have HB1 := Lib.hid (below_tr HB.out hb1)
  have H1 := Lib.hid (H0.out.below hb1)
  have HE1 := Lib.hid hb1
  clear hb1
  obtain ⟨b0, b1, b2, b3, b4⟩ := H1.out
  go_wp2_with fail
  clear b0 b1 b2 b3 b4
  refine (HF.out _ HE1.out).mono ?_
  rintro e w2 ⟨s, rfl, ho, hb2⟩
  have HB2 := Lib.hid (below_tr HB1.out hb2)
  have H2 := Lib.hid (H1.out.below hb2)
  have HE2 := Lib.hid (below_tr HE1.out hb2)
  have HOWN := Lib.hid (own_row ho)
  obtain ⟨A, m, cap, rfl, hm, hrow⟩ : ∃ A m cap, s = .slice A m cap ∧ m = L.length ∧ (0 < m → ∃ g, A = some ⟨g, 0, none⟩ ∧ RowF w2 g m (gapV L)) := by
    rcases own_row ho with ⟨h1, h2⟩ | ⟨g, cap, h1, _, _, _, h2⟩
    · exact ⟨none, 0, 0, h1, by rw [h2]; rfl, fun h => absurd h (Nat.lt_irrefl _)⟩
    · exact ⟨_, _, cap, h1, rfl, fun _ => ⟨g, rfl, h2⟩⟩
  have HROW := Lib.hid hrow
  have hm100 : m ≤ 101 := by have := HLEN.out; omega
  have HM := Lib.hid hm
  obtain ⟨b0, b1, b2, b3, b4⟩ := H2.out
  clear ho hb2 HOWN HF HB1 H1 HE1 H0 HB hrow hm hlen
  go_wp2_with fail
  clear b0 b1 b2 b3 b4
  refine (HHV.out _).mono ?_
  rintro e w3 ⟨rfl, hb3⟩
  have HB3 := Lib.hid (below_tr HB2.out hb3)
  have HE3 := Lib.hid (below_tr HE2.out hb3)
  have HR3 : Hid (0 < m → ∃ g, A = some ⟨g, 0, none⟩ ∧ RowF w3 g m (gapV L)) := Lib.hid (fun h => by obtain ⟨g, e, h2⟩ := HROW.out h; exact ⟨g, e, h2.below hb3⟩)
  clear hb3 HB2 H2 HROW HHV HE2
  go_wp2_with fail
  refine wp_loop_rounds 1 ?_
  rw [rounds_succ]
  go_wp2_with fail
  have HIN : Hid (Below w.heap.size w w3) := HB3
  have HRW := HR3
  have HE := HE3
  obtain ⟨q0, hq0⟩ : ∃ b, (h0 && outD D 0 z) = b := ⟨_, rfl⟩
  have hq1 : h0 = q0 := by rw [← hq0]; simp [outD]
  subst hq1
  rw [hq0] at HFIN
  clear hq0 HB3 HR3 HE3
  have hE0 : W.heap.size ≤ (w3).heap.size := HE.out.size
  go_loopg [11, 12, 13] m (fun gg s11 s12 _ wt => ∃ p2 : Nat, s12 = .int .i64 p2 ∧ p2 ≤ m ∧ m - p2 ≤ gg ∧ s11 = .bool (inG L p2 z) ∧ Hid (Below w.heap.size w wt) ∧ Hid (Below (w3).heap.size (w3) wt))
  case atStart => exact ⟨0, rfl, Nat.zero_le _, by omega, by simp [inG], HIN, Lib.hid (Below.refl _ _)⟩
  case round =>
    obtain ⟨p2, rfl, hpm, hgg2, rfl, BT, BT0⟩ := hrel
    by_cases hlt2 : p2 < m
    · have hltz2 : (p2 : Int) < (m : Int) := by omega
      have y1 : ¬ m ≤ p2 := by omega
      obtain ⟨g, rfl, hR⟩ := HRW.out (by omega)
      have HR := Lib.hid (hR.below BT0.out)
      obtain ⟨u, hu⟩ : ∃ u, gapV L p2 = u := ⟨_, rfl⟩
      have hat2 := HR.out.at' p2 hlt2
      rw [hu] at hat2
      have HU := Lib.hid hu
      have HUA := Lib.hid hat2
      have HUOK : Hid (okS u = true) := Lib.hid (by rw [← hu]; exact HOKG.out p2 (by have := HM.out; omega))
      obtain ⟨t, ht⟩ : ∃ b, inG L p2 z = b := ⟨_, rfl⟩
      rw [ht]
      have HT := Lib.hid ht
      clear ht hu hR
      cases t
      · obtain ⟨c0, c1, c2, c3, c4⟩ := hat2
        obtain ⟨y, hy⟩ : ∃ b, hasS u z = b := ⟨_, rfl⟩
        have HH := Lib.hid hy
        clear hy
        go_wp2_with fail
        refine (has_is u z y HH.out _).mono ?_
        rintro e w5 ⟨rfl, hb5⟩
        have HS : Hid (inG L (p2 + 1) z = y) := Lib.hid (by rw [inG_succ, HT.out, HU.out, HH.out]; rfl)
        have BU := Lib.hid (BT.out.trans (hb5.mono BT.out.size))
        have BU0 := Lib.hid (BT0.out.trans (hb5.mono BT0.out.size))
        have HUA5 := Lib.hid (HUA.out.below hb5)
        have HR5 := Lib.hid (HR.out.below hb5)
        clear hb5
        by_cases hp2 : p2 = 0
        · subst hp2
          go_wp2_with fail
          have hdr := below_drw w5
          try simp only [List.append_eq, List.cons_append, List.nil_append]
          refine RX.wp_region_plan (fun w w' => Below w.heap.size w w') [.it (.slice (some ⟨g, 0, none⟩) m cap), .it (.int .i64 (0 : Int)), .it (.pointer (some ⟨g, 0, none⟩)), .it (.agg #[.int .u8 u.k, .int .i64 u.n, .int .i64 u.u, .string u.t]), .it (.bool true), .it (.bool false), .it (.bool false), .it (.int .i64 (0 : Int)), .it (.bool false), .it (.bool false), .it undef, .it undef, .it undef, .it undef, .it undef, .it undef, .it undef, .it undef, .it undef, .it undef, .it undef, .it undef, .it (.bool false), .it (.bool false)] (by kernel_rfl) (by kernel_rfl) (fun _ => Below.refl _ _) (fun _ _ _ => below_tr) ?_
          refine RX.seqP_value (fun _ => Below.refl _ _) _ (by first | rfl | simp) (fun w' hw' hctx => by (go_simp); (try first | with_reducible rfl | simp)) ?_
          simp only [Act.put, List.setIfInBounds_toArray, List.set_cons_zero, List.set_cons_succ]
          refine RX.seqP_value (fun _ => Below.refl _ _) _ (by first | rfl | simp) (fun w' hw' hctx => by (go_simp); (try first | with_reducible rfl | simp)) ?_
          simp only [Act.put, List.setIfInBounds_toArray, List.set_cons_zero, List.set_cons_succ]
          refine RX.seqP_value (fun _ => Below.refl _ _) _ (by first | rfl | simp) (fun w' hw' hctx => by (go_simp); (try first | with_reducible rfl | simp)) ?_
          simp only [Act.put, List.setIfInBounds_toArray, List.set_cons_zero, List.set_cons_succ]
          refine RX.seqP_value (fun _ => Below.refl _ _) _ (by first | rfl | simp) (fun w' hw' hctx => ?_) ?_
          · obtain ⟨c0, c1, c2, c3, c4⟩ := HUA5.out.below (below_tr hdr hw')
            go_simp
            try first | with_reducible rfl | simp
          simp only [Act.put, List.setIfInBounds_toArray, List.set_cons_zero, List.set_cons_succ]
          refine RX.seqP_call (14) #[.agg #[.int .u8 u.k, .int .i64 u.n, .int .i64 u.u, .string u.t]] (.bool true) (by first | rfl | simp) (fun w' hw' hctx => ?_) (fun w' hw' hctx => may_is u true HUOK.out w') ?_
          · go_simp
          simp only [Act.put, List.setIfInBounds_toArray, List.set_cons_zero, List.set_cons_succ]
          refine RX.seqP_value (fun _ => Below.refl _ _) _ (by first | rfl | simp) (fun w' hw' hctx => by (go_simp); (try first | with_reducible rfl | simp)) ?_
          simp only [Act.put, List.setIfInBounds_toArray, List.set_cons_zero, List.set_cons_succ]
          refine RX.seqP_value (fun _ => Below.refl _ _) _ (by first | rfl | simp) (fun w' hw' hctx => by (go_simp); (try first | with_reducible rfl | simp)) ?_
          simp only [Act.put, List.setIfInBounds_toArray, List.set_cons_zero, List.set_cons_succ]
          refine RX.seqP_value (fun _ => Below.refl _ _) _ (by first | rfl | simp) (fun w' hw' hctx => by (go_simp); (try first | with_reducible rfl | simp)) ?_
          simp only [Act.put, List.setIfInBounds_toArray, List.set_cons_zero, List.set_cons_succ]
          refine RX.seqP_value (fun _ => Below.refl _ _) _ (by first | rfl | simp) (fun w' hw' hctx => by (go_simp); (try first | with_reducible rfl | simp)) ?_
          simp only [Act.put, List.setIfInBounds_toArray, List.set_cons_zero, List.set_cons_succ]
          refine RX.seqP_value (fun _ => Below.refl _ _) _ (by first | rfl | simp) (fun w' hw' hctx => by (go_simp); (try first | with_reducible rfl | simp)) ?_
          simp only [Act.put, List.setIfInBounds_toArray, List.set_cons_zero, List.set_cons_succ]
          refine RX.seqP_skip (by first | rfl | simp) ?_
          simp only [Act.put, List.setIfInBounds_toArray, List.set_cons_zero, List.set_cons_succ]
          refine RX.seqP_skip (by first | rfl | simp) ?_
          simp only [Act.put, List.setIfInBounds_toArray, List.set_cons_zero, List.set_cons_succ]
          refine RX.seqP_skip (by first | rfl | simp) ?_
          simp only [Act.put, List.setIfInBounds_toArray, List.set_cons_zero, List.set_cons_succ]
          refine RX.seqP_skip (by first | rfl | simp) ?_
          simp only [Act.put, List.setIfInBounds_toArray, List.set_cons_zero, List.set_cons_succ]
          refine RX.seqP_skip (by first | rfl | simp) ?_
          simp only [Act.put, List.setIfInBounds_toArray, List.set_cons_zero, List.set_cons_succ]
          refine RX.seqP_skip (by first | rfl | simp) ?_
          simp only [Act.put, List.setIfInBounds_toArray, List.set_cons_zero, List.set_cons_succ]
          refine RX.seqP_skip (by first | rfl | simp) ?_
          simp only [Act.put, List.setIfInBounds_toArray, List.set_cons_zero, List.set_cons_succ]
          refine RX.seqP_skip (by first | rfl | simp) ?_
          simp only [Act.put, List.setIfInBounds_toArray, List.set_cons_zero, List.set_cons_succ]
          refine RX.seqP_skip (by first | rfl | simp) ?_
          simp only [Act.put, List.setIfInBounds_toArray, List.set_cons_zero, List.set_cons_succ]
          refine RX.seqP_skip (by first | rfl | simp) ?_
          simp only [Act.put, List.setIfInBounds_toArray, List.set_cons_zero, List.set_cons_succ]
          refine RX.seqP_skip (by first | rfl | simp) ?_
          simp only [Act.put, List.setIfInBounds_toArray, List.set_cons_zero, List.set_cons_succ]
          refine RX.seqP_skip (by first | rfl | simp) ?_
          simp only [Act.put, List.setIfInBounds_toArray, List.set_cons_zero, List.set_cons_succ]
          refine RX.seqP_value (fun _ => Below.refl _ _) _ (by first | rfl | simp) (fun w' hw' hctx => by (go_simp); (try first | with_reducible rfl | simp)) ?_
          simp only [Act.put, List.setIfInBounds_toArray, List.set_cons_zero, List.set_cons_succ]
          refine RX.seqP_value (fun _ => Below.refl _ _) _ (by first | rfl | simp) (fun w' hw' hctx => by (go_simp); (try first | with_reducible rfl | simp)) ?_
          simp only [Act.put, List.setIfInBounds_toArray, List.set_cons_zero, List.set_cons_succ]
          refine RX.seqP_nil (fun v5 hR hctx _ => ?_)
          have hv5 := below_tr hdr hR
          clear hctx hR
          have BV := Lib.hid (BU.out.trans (hv5.mono BU.out.size))
          have BV0 := Lib.hid (BU0.out.trans (hv5.mono BU0.out.size))
          have HUAV := Lib.hid (HUA5.out.below hv5)
          clear hv5 hdr
          go_wp2_with fail
          refine wp_loop_rounds 1 ?_
          rw [rounds_succ]
          go_wp2_with fail
          go_roundg (m - (0 + 1))
          case measure => omega
          case rel => exact ⟨0 + 1, by go_num, by omega, Nat.le_refl _, by rw [HS.out], BV, BV0⟩
        · have hp3 : 0 < p2 := by omega
          have hp4 : (0 : Int) < (p2 : Int) := by omega
          have hp5 : ¬ m ≤ p2 - 1 := by omega
          have hp6 : ((p2 : Int) - 1).toNat = p2 - 1 := by omega
          have hp7 : ¬ (m : Int) ≤ (p2 : Int) - 1 := by omega
          have hp8 : ¬ ((p2 : Int) - 1 < 0) := by omega
          have hp9 : IntKind.i64.wrap ((p2 : Int) - 1) = (p2 : Int) - 1 := by simp [IntKind.wrap, IntKind.bits, IntKind.signed]; omega
          have hp10 : ¬ ((p2 : Int) < 1) := by omega
          have hp11 : ¬ ((m : Int) < (p2 : Int)) := by omega
          obtain ⟨u', hu'⟩ : ∃ u, gapV L (p2 - 1) = u := ⟨_, rfl⟩
          have hup := HR5.out.at' (p2 - 1) (by omega)
          rw [hu'] at hup
          have HUP := Lib.hid hup
          have hsep := HSEP.out (p2 - 1) (by have := HM.out; omega)
          rw [Nat.sub_add_cancel hp3, hu', HU.out] at hsep
          have hnle : ¬ u.n ≤ u'.u := by omega
          clear hup hu' hsep
          go_wp2_with fail
          have hdr := below_drw w5
          try simp only [List.append_eq, List.cons_append, List.nil_append]
          refine RX.wp_region_plan (fun w w' => Below w.heap.size w w') [.it (.slice (some ⟨g, 0, none⟩) m cap), .it (.int .i64 (p2 : Int)), .it (.pointer (some ⟨g, p2 * 4, none⟩)), .it (.agg #[.int .u8 u.k, .int .i64 u.n, .int .i64 u.u, .string u.t]), .it (.bool true), .it (.bool false), .it (.bool false), .it (.int .i64 (p2 : Int)), .it (.bool true), .it (.bool true), .it (.slice (some ⟨g, 0, none⟩) m cap), .it (.int .i64 (p2 : Int)), .it (.pointer (some ⟨g, p2 * 4, none⟩)), .it (.pointer (some ⟨g, p2 * 4 + 1, none⟩)), .it (.int .i64 u.n), .it (.slice (some ⟨g, 0, none⟩) m cap), .it (.int .i64 (p2 : Int)), .it (.int .i64 ((p2 : Int) - 1)), .it (.pointer (some ⟨g, (p2 - 1) * 4, none⟩)), .it (.pointer (some ⟨g, (p2 - 1) * 4 + 2, none⟩)), .it (.int .i64 u'.u), .it (.bool false), .it (.bool false), .it (.bool false)] (by kernel_rfl) (by kernel_rfl) (fun _ => Below.refl _ _) (fun _ _ _ => below_tr) ?_
          refine RX.seqP_value (fun _ => Below.refl _ _) _ (by first | rfl | simp) (fun w' hw' hctx => by (go_simp); (try first | with_reducible rfl | simp)) ?_
          simp only [Act.put, List.setIfInBounds_toArray, List.set_cons_zero, List.set_cons_succ]
          refine RX.seqP_value (fun _ => Below.refl _ _) _ (by first | rfl | simp) (fun w' hw' hctx => by (go_simp); (try first | with_reducible rfl | simp)) ?_
          simp only [Act.put, List.setIfInBounds_toArray, List.set_cons_zero, List.set_cons_succ]
          refine RX.seqP_value (fun _ => Below.refl _ _) _ (by first | rfl | simp) (fun w' hw' hctx => by (go_simp); (try first | with_reducible rfl | simp)) ?_
          simp only [Act.put, List.setIfInBounds_toArray, List.set_cons_zero, List.set_cons_succ]
          refine RX.seqP_value (fun _ => Below.refl _ _) _ (by first | rfl | simp) (fun w' hw' hctx => ?_) ?_
          · obtain ⟨c0, c1, c2, c3, c4⟩ := HUA5.out.below (below_tr hdr hw')
            go_simp
            try first | with_reducible rfl | simp
          simp only [Act.put, List.setIfInBounds_toArray, List.set_cons_zero, List.set_cons_succ]
          refine RX.seqP_call (14) #[.agg #[.int .u8 u.k, .int .i64 u.n, .int .i64 u.u, .string u.t]] (.bool true) (by first | rfl | simp) (fun w' hw' hctx => ?_) (fun w' hw' hctx => may_is u true HUOK.out w') ?_
          · go_simp
          simp only [Act.put, List.setIfInBounds_toArray, List.set_cons_zero, List.set_cons_succ]
          refine RX.seqP_value (fun _ => Below.refl _ _) _ (by first | rfl | simp) (fun w' hw' hctx => by (go_simp); (try first | with_reducible rfl | simp)) ?_
          simp only [Act.put, List.setIfInBounds_toArray, List.set_cons_zero, List.set_cons_succ]
          refine RX.seqP_value (fun _ => Below.refl _ _) _ (by first | rfl | simp) (fun w' hw' hctx => by (go_simp); (try first | with_reducible rfl | simp)) ?_
          simp only [Act.put, List.setIfInBounds_toArray, List.set_cons_zero, List.set_cons_succ]
          refine RX.seqP_value (fun _ => Below.refl _ _) _ (by first | rfl | simp) (fun w' hw' hctx => by (go_simp); (try first | with_reducible rfl | simp)) ?_
          simp only [Act.put, List.setIfInBounds_toArray, List.set_cons_zero, List.set_cons_succ]
          refine RX.seqP_value (fun _ => Below.refl _ _) _ (by first | rfl | simp) (fun w' hw' hctx => by (go_simp); (try first | with_reducible rfl | simp)) ?_
          simp only [Act.put, List.setIfInBounds_toArray, List.set_cons_zero, List.set_cons_succ]
          refine RX.seqP_value (fun _ => Below.refl _ _) _ (by first | rfl | simp) (fun w' hw' hctx => by (go_simp); (try first | with_reducible rfl | simp)) ?_
          simp only [Act.put, List.setIfInBounds_toArray, List.set_cons_zero, List.set_cons_succ]
          refine RX.seqP_value (fun _ => Below.refl _ _) _ (by first | rfl | simp) (fun w' hw' hctx => by (go_simp); (try first | with_reducible rfl | simp)) ?_
          simp only [Act.put, List.setIfInBounds_toArray, List.set_cons_zero, List.set_cons_succ]
          refine RX.seqP_value (fun _ => Below.refl _ _) _ (by first | rfl | simp) (fun w' hw' hctx => by (go_simp); (try first | with_reducible rfl | simp)) ?_
          simp only [Act.put, List.setIfInBounds_toArray, List.set_cons_zero, List.set_cons_succ]
          refine RX.seqP_value (fun _ => Below.refl _ _) _ (by first | rfl | simp) (fun w' hw' hctx => by (go_simp); (try first | with_reducible rfl | simp)) ?_
          simp only [Act.put, List.setIfInBounds_toArray, List.set_cons_zero, List.set_cons_succ]
          refine RX.seqP_value (fun _ => Below.refl _ _) _ (by first | rfl | simp) (fun w' hw' hctx => by (go_simp); (try first | with_reducible rfl | simp)) ?_
          simp only [Act.put, List.setIfInBounds_toArray, List.set_cons_zero, List.set_cons_succ]
          refine RX.seqP_value (fun _ => Below.refl _ _) _ (by first | rfl | simp) (fun w' hw' hctx => ?_) ?_
          · obtain ⟨c0, c1, c2, c3, c4⟩ := HUA5.out.below (below_tr hdr hw')
            go_simp
            try first | with_reducible rfl | simp
          simp only [Act.put, List.setIfInBounds_toArray, List.set_cons_zero, List.set_cons_succ]
          refine RX.seqP_value (fun _ => Below.refl _ _) _ (by first | rfl | simp) (fun w' hw' hctx => by (go_simp); (try first | with_reducible rfl | simp)) ?_
          simp only [Act.put, List.setIfInBounds_toArray, List.set_cons_zero, List.set_cons_succ]
          refine RX.seqP_value (fun _ => Below.refl _ _) _ (by first | rfl | simp) (fun w' hw' hctx => by (go_simp); (try first | with_reducible rfl | simp)) ?_
          simp only [Act.put, List.setIfInBounds_toArray, List.set_cons_zero, List.set_cons_succ]
          refine RX.seqP_value (fun _ => Below.refl _ _) _ (by first | rfl | simp) (fun w' hw' hctx => by (go_simp); (try first | with_reducible rfl | simp)) ?_
          simp only [Act.put, List.setIfInBounds_toArray, List.set_cons_zero, List.set_cons_succ]
          refine RX.seqP_value (fun _ => Below.refl _ _) _ (by first | rfl | simp) (fun w' hw' hctx => by (go_simp); (try first | with_reducible rfl | simp)) ?_
          simp only [Act.put, List.setIfInBounds_toArray, List.set_cons_zero, List.set_cons_succ]
          refine RX.seqP_value (fun _ => Below.refl _ _) _ (by first | rfl | simp) (fun w' hw' hctx => by (go_simp); (try first | with_reducible rfl | simp)) ?_
          simp only [Act.put, List.setIfInBounds_toArray, List.set_cons_zero, List.set_cons_succ]
          refine RX.seqP_value (fun _ => Below.refl _ _) _ (by first | rfl | simp) (fun w' hw' hctx => ?_) ?_
          · obtain ⟨c0, c1, c2, c3, c4⟩ := HUP.out.below (below_tr hdr hw')
            go_simp
            try first | with_reducible rfl | simp
          simp only [Act.put, List.setIfInBounds_toArray, List.set_cons_zero, List.set_cons_succ]
          refine RX.seqP_value (fun _ => Below.refl _ _) _ (by first | rfl | simp) (fun w' hw' hctx => by (go_simp); (try first | with_reducible rfl | simp)) ?_
          simp only [Act.put, List.setIfInBounds_toArray, List.set_cons_zero, List.set_cons_succ]
          refine RX.seqP_value (fun _ => Below.refl _ _) _ (by first | rfl | simp) (fun w' hw' hctx => by (go_simp); (try first | with_reducible rfl | simp)) ?_
          simp only [Act.put, List.setIfInBounds_toArray, List.set_cons_zero, List.set_cons_succ]
          refine RX.seqP_value (fun _ => Below.refl _ _) _ (by first | rfl | simp) (fun w' hw' hctx => by (go_simp); (try first | with_reducible rfl | simp)) ?_
          simp only [Act.put, List.setIfInBounds_toArray, List.set_cons_zero, List.set_cons_succ]
          refine RX.seqP_nil (fun v5 hR hctx _ => ?_)
          have hv5 := below_tr hdr hR
          clear hctx hR
          have BV := Lib.hid (BU.out.trans (hv5.mono BU.out.size))
          have BV0 := Lib.hid (BU0.out.trans (hv5.mono BU0.out.size))
          have HUAV := Lib.hid (HUA5.out.below hv5)
          clear hv5 hdr
          go_wp2_with fail
          refine wp_loop_rounds 1 ?_
          rw [rounds_succ]
          go_wp2_with fail
          go_roundg (m - (p2 + 1))
          case measure => omega
          case rel => exact ⟨p2 + 1, by go_num, by omega, Nat.le_refl _, by rw [HS.out], BV, BV0⟩
      · have hb5 : Below wr.heap.size wr wr := Below.refl _ _
        have HS : Hid (inG L (p2 + 1) z = true) := Lib.hid (by rw [inG_succ, HT.out]; rfl)
        clear hat2
        have BU := Lib.hid (BT.out.trans (hb5.mono BT.out.size))
        have BU0 := Lib.hid (BT0.out.trans (hb5.mono BT0.out.size))
        have HUA5 := Lib.hid (HUA.out.below hb5)
        have HR5 := Lib.hid (HR.out.below hb5)
        clear hb5
        by_cases hp2 : p2 = 0
        · subst hp2
          go_wp2_with fail
          have hdr := below_drw wr
          try simp only [List.append_eq, List.cons_append, List.nil_append]
          refine RX.wp_region_plan (fun w w' => Below w.heap.size w w') [.it (.slice (some ⟨g, 0, none⟩) m cap), .it (.int .i64 (0 : Int)), .it (.pointer (some ⟨g, 0, none⟩)), .it (.agg #[.int .u8 u.k, .int .i64 u.n, .int .i64 u.u, .string u.t]), .it (.bool true), .it (.bool false), .it (.bool false), .it (.int .i64 (0 : Int)), .it (.bool false), .it (.bool false), .it undef, .it undef, .it undef, .it undef, .it undef, .it undef, .it undef, .it undef, .it undef, .it undef, .it undef, .it undef, .it (.bool false), .it (.bool false)] (by kernel_rfl) (by kernel_rfl) (fun _ => Below.refl _ _) (fun _ _ _ => below_tr) ?_
          refine RX.seqP_value (fun _ => Below.refl _ _) _ (by first | rfl | simp) (fun w' hw' hctx => by (go_simp); (try first | with_reducible rfl | simp)) ?_
          simp only [Act.put, List.setIfInBounds_toArray, List.set_cons_zero, List.set_cons_succ]
          refine RX.seqP_value (fun _ => Below.refl _ _) _ (by first | rfl | simp) (fun w' hw' hctx => by (go_simp); (try first | with_reducible rfl | simp)) ?_
          simp only [Act.put, List.setIfInBounds_toArray, List.set_cons_zero, List.set_cons_succ]
          refine RX.seqP_value (fun _ => Below.refl _ _) _ (by first | rfl | simp) (fun w' hw' hctx => by (go_simp); (try first | with_reducible rfl | simp)) ?_
          simp only [Act.put, List.setIfInBounds_toArray, List.set_cons_zero, List.set_cons_succ]
          refine RX.seqP_value (fun _ => Below.refl _ _) _ (by first | rfl | simp) (fun w' hw' hctx => ?_) ?_
          · obtain ⟨c0, c1, c2, c3, c4⟩ := HUA5.out.below (below_tr hdr hw')
            go_simp
            try first | with_reducible rfl | simp
          simp only [Act.put, List.setIfInBounds_toArray, List.set_cons_zero, List.set_cons_succ]
          refine RX.seqP_call (14) #[.agg #[.int .u8 u.k, .int .i64 u.n, .int .i64 u.u, .string u.t]] (.bool true) (by first | rfl | simp) (fun w' hw' hctx => ?_) (fun w' hw' hctx => may_is u true HUOK.out w') ?_
          · go_simp
          simp only [Act.put, List.setIfInBounds_toArray, List.set_cons_zero, List.set_cons_succ]
          refine RX.seqP_value (fun _ => Below.refl _ _) _ (by first | rfl | simp) (fun w' hw' hctx => by (go_simp); (try first | with_reducible rfl | simp)) ?_
          simp only [Act.put, List.setIfInBounds_toArray, List.set_cons_zero, List.set_cons_succ]
          refine RX.seqP_value (fun _ => Below.refl _ _) _ (by first | rfl | simp) (fun w' hw' hctx => by (go_simp); (try first | with_reducible rfl | simp)) ?_
          simp only [Act.put, List.setIfInBounds_toArray, List.set_cons_zero, List.set_cons_succ]
          refine RX.seqP_value (fun _ => Below.refl _ _) _ (by first | rfl | simp) (fun w' hw' hctx => by (go_simp); (try first | with_reducible rfl | simp)) ?_
          simp only [Act.put, List.setIfInBounds_toArray, List.set_cons_zero, List.set_cons_succ]
          refine RX.seqP_value (fun _ => Below.refl _ _) _ (by first | rfl | simp) (fun w' hw' hctx => by (go_simp); (try first | with_reducible rfl | simp)) ?_
          simp only [Act.put, List.setIfInBounds_toArray, List.set_cons_zero, List.set_cons_succ]
          refine RX.seqP_value (fun _ => Below.refl _ _) _ (by first | rfl | simp) (fun w' hw' hctx => by (go_simp); (try first | with_reducible rfl | simp)) ?_
          simp only [Act.put, List.setIfInBounds_toArray, List.set_cons_zero, List.set_cons_succ]
          refine RX.seqP_skip (by first | rfl | simp) ?_
          simp only [Act.put, List.setIfInBounds_toArray, List.set_cons_zero, List.set_cons_succ]
          refine RX.seqP_skip (by first | rfl | simp) ?_
          simp only [Act.put, List.setIfInBounds_toArray, List.set_cons_zero, List.set_cons_succ]
          refine RX.seqP_skip (by first | rfl | simp) ?_
          simp only [Act.put, List.setIfInBounds_toArray, List.set_cons_zero, List.set_cons_succ]
          refine RX.seqP_skip (by first | rfl | simp) ?_
          simp only [Act.put, List.setIfInBounds_toArray, List.set_cons_zero, List.set_cons_succ]
          refine RX.seqP_skip (by first | rfl | simp) ?_
          simp only [Act.put, List.setIfInBounds_toArray, List.set_cons_zero, List.set_cons_succ]
          refine RX.seqP_skip (by first | rfl | simp) ?_
          simp only [Act.put, List.setIfInBounds_toArray, List.set_cons_zero, List.set_cons_succ]
          refine RX.seqP_skip (by first | rfl | simp) ?_
          simp only [Act.put, List.setIfInBounds_toArray, List.set_cons_zero, List.set_cons_succ]
          refine RX.seqP_skip (by first | rfl | simp) ?_
          simp only [Act.put, List.setIfInBounds_toArray, List.set_cons_zero, List.set_cons_succ]
          refine RX.seqP_skip (by first | rfl | simp) ?_
          simp only [Act.put, List.setIfInBounds_toArray, List.set_cons_zero, List.set_cons_succ]
          refine RX.seqP_skip (by first | rfl | simp) ?_
          simp only [Act.put, List.setIfInBounds_toArray, List.set_cons_zero, List.set_cons_succ]
          refine RX.seqP_skip (by first | rfl | simp) ?_
          simp only [Act.put, List.setIfInBounds_toArray, List.set_cons_zero, List.set_cons_succ]
          refine RX.seqP_skip (by first | rfl | simp) ?_
          simp only [Act.put, List.setIfInBounds_toArray, List.set_cons_zero, List.set_cons_succ]
          refine RX.seqP_value (fun _ => Below.refl _ _) _ (by first | rfl | simp) (fun w' hw' hctx => by (go_simp); (try first | with_reducible rfl | simp)) ?_
          simp only [Act.put, List.setIfInBounds_toArray, List.set_cons_zero, List.set_cons_succ]
          refine RX.seqP_value (fun _ => Below.refl _ _) _ (by first | rfl | simp) (fun w' hw' hctx => by (go_simp); (try first | with_reducible rfl | simp)) ?_
          simp only [Act.put, List.setIfInBounds_toArray, List.set_cons_zero, List.set_cons_succ]
          refine RX.seqP_nil (fun v5 hR hctx _ => ?_)
          have hv5 := below_tr hdr hR
          clear hctx hR
          have BV := Lib.hid (BU.out.trans (hv5.mono BU.out.size))
          have BV0 := Lib.hid (BU0.out.trans (hv5.mono BU0.out.size))
          have HUAV := Lib.hid (HUA5.out.below hv5)
          clear hv5 hdr
          go_wp2_with fail
          refine wp_loop_rounds 1 ?_
          rw [rounds_succ]
          go_wp2_with fail
          go_roundg (m - (0 + 1))
          case measure => omega
          case rel => exact ⟨0 + 1, by go_num, by omega, Nat.le_refl _, by rw [HS.out], BV, BV0⟩
        · have hp3 : 0 < p2 := by omega
          have hp4 : (0 : Int) < (p2 : Int) := by omega
          have hp5 : ¬ m ≤ p2 - 1 := by omega
          have hp6 : ((p2 : Int) - 1).toNat = p2 - 1 := by omega
          have hp7 : ¬ (m : Int) ≤ (p2 : Int) - 1 := by omega
          have hp8 : ¬ ((p2 : Int) - 1 < 0) := by omega
          have hp9 : IntKind.i64.wrap ((p2 : Int) - 1) = (p2 : Int) - 1 := by simp [IntKind.wrap, IntKind.bits, IntKind.signed]; omega
          have hp10 : ¬ ((p2 : Int) < 1) := by omega
          have hp11 : ¬ ((m : Int) < (p2 : Int)) := by omega
          obtain ⟨u', hu'⟩ : ∃ u, gapV L (p2 - 1) = u := ⟨_, rfl⟩
          have hup := HR5.out.at' (p2 - 1) (by omega)
          rw [hu'] at hup
          have HUP := Lib.hid hup
          have hsep := HSEP.out (p2 - 1) (by have := HM.out; omega)
          rw [Nat.sub_add_cancel hp3, hu', HU.out] at hsep
          have hnle : ¬ u.n ≤ u'.u := by omega
          clear hup hu' hsep
          go_wp2_with fail
          have hdr := below_drw wr
          try simp only [List.append_eq, List.cons_append, List.nil_append]
          refine RX.wp_region_plan (fun w w' => Below w.heap.size w w') [.it (.slice (some ⟨g, 0, none⟩) m cap), .it (.int .i64 (p2 : Int)), .it (.pointer (some ⟨g, p2 * 4, none⟩)), .it (.agg #[.int .u8 u.k, .int .i64 u.n, .int .i64 u.u, .string u.t]), .it (.bool true), .it (.bool false), .it (.bool false), .it (.int .i64 (p2 : Int)), .it (.bool true), .it (.bool true), .it (.slice (some ⟨g, 0, none⟩) m cap), .it (.int .i64 (p2 : Int)), .it (.pointer (some ⟨g, p2 * 4, none⟩)), .it (.pointer (some ⟨g, p2 * 4 + 1, none⟩)), .it (.int .i64 u.n), .it (.slice (some ⟨g, 0, none⟩) m cap), .it (.int .i64 (p2 : Int)), .it (.int .i64 ((p2 : Int) - 1)), .it (.pointer (some ⟨g, (p2 - 1) * 4, none⟩)), .it (.pointer (some ⟨g, (p2 - 1) * 4 + 2, none⟩)), .it (.int .i64 u'.u), .it (.bool false), .it (.bool false), .it (.bool false)] (by kernel_rfl) (by kernel_rfl) (fun _ => Below.refl _ _) (fun _ _ _ => below_tr) ?_
          refine RX.seqP_value (fun _ => Below.refl _ _) _ (by first | rfl | simp) (fun w' hw' hctx => by (go_simp); (try first | with_reducible rfl | simp)) ?_
          simp only [Act.put, List.setIfInBounds_toArray, List.set_cons_zero, List.set_cons_succ]
          refine RX.seqP_value (fun _ => Below.refl _ _) _ (by first | rfl | simp) (fun w' hw' hctx => by (go_simp); (try first | with_reducible rfl | simp)) ?_
          simp only [Act.put, List.setIfInBounds_toArray, List.set_cons_zero, List.set_cons_succ]
          refine RX.seqP_value (fun _ => Below.refl _ _) _ (by first | rfl | simp) (fun w' hw' hctx => by (go_simp); (try first | with_reducible rfl | simp)) ?_
          simp only [Act.put, List.setIfInBounds_toArray, List.set_cons_zero, List.set_cons_succ]
          refine RX.seqP_value (fun _ => Below.refl _ _) _ (by first | rfl | simp) (fun w' hw' hctx => ?_) ?_
          · obtain ⟨c0, c1, c2, c3, c4⟩ := HUA5.out.below (below_tr hdr hw')
            go_simp
            try first | with_reducible rfl | simp
          simp only [Act.put, List.setIfInBounds_toArray, List.set_cons_zero, List.set_cons_succ]
          refine RX.seqP_call (14) #[.agg #[.int .u8 u.k, .int .i64 u.n, .int .i64 u.u, .string u.t]] (.bool true) (by first | rfl | simp) (fun w' hw' hctx => ?_) (fun w' hw' hctx => may_is u true HUOK.out w') ?_
          · go_simp
          simp only [Act.put, List.setIfInBounds_toArray, List.set_cons_zero, List.set_cons_succ]
          refine RX.seqP_value (fun _ => Below.refl _ _) _ (by first | rfl | simp) (fun w' hw' hctx => by (go_simp); (try first | with_reducible rfl | simp)) ?_
          simp only [Act.put, List.setIfInBounds_toArray, List.set_cons_zero, List.set_cons_succ]
          refine RX.seqP_value (fun _ => Below.refl _ _) _ (by first | rfl | simp) (fun w' hw' hctx => by (go_simp); (try first | with_reducible rfl | simp)) ?_
          simp only [Act.put, List.setIfInBounds_toArray, List.set_cons_zero, List.set_cons_succ]
          refine RX.seqP_value (fun _ => Below.refl _ _) _ (by first | rfl | simp) (fun w' hw' hctx => by (go_simp); (try first | with_reducible rfl | simp)) ?_
          simp only [Act.put, List.setIfInBounds_toArray, List.set_cons_zero, List.set_cons_succ]
          refine RX.seqP_value (fun _ => Below.refl _ _) _ (by first | rfl | simp) (fun w' hw' hctx => by (go_simp); (try first | with_reducible rfl | simp)) ?_
          simp only [Act.put, List.setIfInBounds_toArray, List.set_cons_zero, List.set_cons_succ]
          refine RX.seqP_value (fun _ => Below.refl _ _) _ (by first | rfl | simp) (fun w' hw' hctx => by (go_simp); (try first | with_reducible rfl | simp)) ?_
          simp only [Act.put, List.setIfInBounds_toArray, List.set_cons_zero, List.set_cons_succ]
          refine RX.seqP_value (fun _ => Below.refl _ _) _ (by first | rfl | simp) (fun w' hw' hctx => by (go_simp); (try first | with_reducible rfl | simp)) ?_
          simp only [Act.put, List.setIfInBounds_toArray, List.set_cons_zero, List.set_cons_succ]
          refine RX.seqP_value (fun _ => Below.refl _ _) _ (by first | rfl | simp) (fun w' hw' hctx => by (go_simp); (try first | with_reducible rfl | simp)) ?_
          simp only [Act.put, List.setIfInBounds_toArray, List.set_cons_zero, List.set_cons_succ]
          refine RX.seqP_value (fun _ => Below.refl _ _) _ (by first | rfl | simp) (fun w' hw' hctx => by (go_simp); (try first | with_reducible rfl | simp)) ?_
          simp only [Act.put, List.setIfInBounds_toArray, List.set_cons_zero, List.set_cons_succ]
          refine RX.seqP_value (fun _ => Below.refl _ _) _ (by first | rfl | simp) (fun w' hw' hctx => by (go_simp); (try first | with_reducible rfl | simp)) ?_
          simp only [Act.put, List.setIfInBounds_toArray, List.set_cons_zero, List.set_cons_succ]
          refine RX.seqP_value (fun _ => Below.refl _ _) _ (by first | rfl | simp) (fun w' hw' hctx => ?_) ?_
          · obtain ⟨c0, c1, c2, c3, c4⟩ := HUA5.out.below (below_tr hdr hw')
            go_simp
            try first | with_reducible rfl | simp
          simp only [Act.put, List.setIfInBounds_toArray, List.set_cons_zero, List.set_cons_succ]
          refine RX.seqP_value (fun _ => Below.refl _ _) _ (by first | rfl | simp) (fun w' hw' hctx => by (go_simp); (try first | with_reducible rfl | simp)) ?_
          simp only [Act.put, List.setIfInBounds_toArray, List.set_cons_zero, List.set_cons_succ]
          refine RX.seqP_value (fun _ => Below.refl _ _) _ (by first | rfl | simp) (fun w' hw' hctx => by (go_simp); (try first | with_reducible rfl | simp)) ?_
          simp only [Act.put, List.setIfInBounds_toArray, List.set_cons_zero, List.set_cons_succ]
          refine RX.seqP_value (fun _ => Below.refl _ _) _ (by first | rfl | simp) (fun w' hw' hctx => by (go_simp); (try first | with_reducible rfl | simp)) ?_
          simp only [Act.put, List.setIfInBounds_toArray, List.set_cons_zero, List.set_cons_succ]
          refine RX.seqP_value (fun _ => Below.refl _ _) _ (by first | rfl | simp) (fun w' hw' hctx => by (go_simp); (try first | with_reducible rfl | simp)) ?_
          simp only [Act.put, List.setIfInBounds_toArray, List.set_cons_zero, List.set_cons_succ]
          refine RX.seqP_value (fun _ => Below.refl _ _) _ (by first | rfl | simp) (fun w' hw' hctx => by (go_simp); (try first | with_reducible rfl | simp)) ?_
          simp only [Act.put, List.setIfInBounds_toArray, List.set_cons_zero, List.set_cons_succ]
          refine RX.seqP_value (fun _ => Below.refl _ _) _ (by first | rfl | simp) (fun w' hw' hctx => ?_) ?_
          · obtain ⟨c0, c1, c2, c3, c4⟩ := HUP.out.below (below_tr hdr hw')
            go_simp
            try first | with_reducible rfl | simp
          simp only [Act.put, List.setIfInBounds_toArray, List.set_cons_zero, List.set_cons_succ]
          refine RX.seqP_value (fun _ => Below.refl _ _) _ (by first | rfl | simp) (fun w' hw' hctx => by (go_simp); (try first | with_reducible rfl | simp)) ?_
          simp only [Act.put, List.setIfInBounds_toArray, List.set_cons_zero, List.set_cons_succ]
          refine RX.seqP_value (fun _ => Below.refl _ _) _ (by first | rfl | simp) (fun w' hw' hctx => by (go_simp); (try first | with_reducible rfl | simp)) ?_
          simp only [Act.put, List.setIfInBounds_toArray, List.set_cons_zero, List.set_cons_succ]
          refine RX.seqP_value (fun _ => Below.refl _ _) _ (by first | rfl | simp) (fun w' hw' hctx => by (go_simp); (try first | with_reducible rfl | simp)) ?_
          simp only [Act.put, List.setIfInBounds_toArray, List.set_cons_zero, List.set_cons_succ]
          refine RX.seqP_nil (fun v5 hR hctx _ => ?_)
          have hv5 := below_tr hdr hR
          clear hctx hR
          have BV := Lib.hid (BU.out.trans (hv5.mono BU.out.size))
          have BV0 := Lib.hid (BU0.out.trans (hv5.mono BU0.out.size))
          have HUAV := Lib.hid (HUA5.out.below hv5)
          clear hv5 hdr
          go_wp2_with fail
          refine wp_loop_rounds 1 ?_
          rw [rounds_succ]
          go_wp2_with fail
          go_roundg (m - (p2 + 1))
          case measure => omega
          case rel => exact ⟨p2 + 1, by go_num, by omega, Nat.le_refl _, by rw [HS.out], BV, BV0⟩
    · obtain rfl : p2 = m := by omega
      have hltz2 : ¬ (p2 : Int) < (p2 : Int) := by omega
      have hfin : inG L p2 z = h0 := by rw [HM.out]; exact HFIN.out
      rw [hfin]
      go_wp2_with fail
      go_ret
      exact ⟨by simp, BT.out⟩
set_option maxRecDepth 100000 in
set_option maxHeartbeats 4000000 in
theorem freel_n (v : Val) (b o n c : Nat) (hn : n ≤ 100) (hn0 : 0 < n) (D : Nat → Val) (z : Int) (w : World) (hl : SlV w (some ⟨b, o, none⟩) n c D) (hat : ∀ i, i < n → AtV w b (o + i * 4) (D i)) (hv : okS v = true) (hok : ∀ i, i < n → okS (D i) = true) (L : List (Int × Int)) (hL : GapsS v D n L) (hlen : L.length ≤ 101) :
    Calls Try.prog 7 #[.agg #[.int .u8 v.k, .int .i64 v.n, .int .i64 v.u, .string v.t], .slice (some ⟨b, o, none⟩) n c, .int .i64 z] w fun e w' => e = .returned (.bool true) ∧ Below w.heap.size w w' := by
  obtain ⟨W, g0, hW, hg, B0, hb0, hs⟩ := boxX w v
  subst hg
  have HB := Lib.hid hb0
  have H0 := Lib.hid B0
  clear hs B0
  have hf : ∀ w' (hb : Below W.heap.size W w'), Calls Try.prog 22 #[.agg #[.int .u8 v.k, .int .i64 v.n, .int .i64 v.u, .string v.t], .slice (some ⟨b, o, none⟩) n c] w' fun e w'' => ∃ s, e = .returned (.tuple #[s, .int .i64 0]) ∧ w''.ownsRow w'.heap.size 23 4 s L.length (flatG L) ∧ Below w'.heap.size w' w'' := fun w' hb => free_ok v _ _ c D w' ((hl.below hb0).below hb) hv hok L hL
  have HF := Lib.hid hf
  have hhv := fun w => has_is v z _ rfl w
  obtain ⟨h0, hh0⟩ : ∃ b, hasS v z = b := ⟨_, rfl⟩
  rw [hh0] at hhv
  have HHV := Lib.hid hhv
  have HFIN : Hid (inG L L.length z = (h0 && outD D n z)) := Lib.hid (by rw [← hh0]; exact gaps_in hL hv hok z)
  have HOKG := Lib.hid (fun i (hi : i < L.length) => gaps_ok hL hi)
  have HSEP := Lib.hid (fun i (hi : i + 1 < L.length) => gaps_sep hL hi)
  have HAP := Lib.hid (fun i j (hi : i < L.length) (hj : j < n) => gaps_apart hL hi hj)
  have HAT := Lib.hid (fun i hi => (hat i hi).below hb0)
  have HLEN := Lib.hid hlen
  clear hf hv hok hL hl hhv hh0 hat
  have h' : ¬ (100 : Int) < (n : Int) := by omega
  clear hb0
  go_enter Try.func7, Try.ntmps7
  go_wp2_with fail
  refine (awake_is _).mono ?_
  rintro e w1 ⟨rfl, hb1⟩
  have HB1 := Lib.hid (below_tr HB.out hb1)
  have H1 := Lib.hid (H0.out.below hb1)
  have HE1 := Lib.hid hb1
  clear hb1
  obtain ⟨b0, b1, b2, b3, b4⟩ := H1.out
  go_wp2_with fail
  clear b0 b1 b2 b3 b4
  refine (HF.out _ HE1.out).mono ?_
  rintro e w2 ⟨s, rfl, ho, hb2⟩
  have HB2 := Lib.hid (below_tr HB1.out hb2)
  have H2 := Lib.hid (H1.out.below hb2)
  have HE2 := Lib.hid (below_tr HE1.out hb2)
  have HOWN := Lib.hid (own_row ho)
  obtain ⟨A, m, cap, rfl, hm, hrow⟩ : ∃ A m cap, s = .slice A m cap ∧ m = L.length ∧ (0 < m → ∃ g, A = some ⟨g, 0, none⟩ ∧ RowF w2 g m (gapV L)) := by
    rcases own_row ho with ⟨h1, h2⟩ | ⟨g, cap, h1, _, _, _, h2⟩
    · exact ⟨none, 0, 0, h1, by rw [h2]; rfl, fun h => absurd h (Nat.lt_irrefl _)⟩
    · exact ⟨_, _, cap, h1, rfl, fun _ => ⟨g, rfl, h2⟩⟩
  have HROW := Lib.hid hrow
  have hm100 : m ≤ 101 := by have := HLEN.out; omega
  have HM := Lib.hid hm
  obtain ⟨b0, b1, b2, b3, b4⟩ := H2.out
  clear ho hb2 HOWN HF HB1 H1 HE1 H0 HB hrow hm hlen
  go_wp2_with fail
  clear b0 b1 b2 b3 b4
  refine (HHV.out _).mono ?_
  rintro e w3 ⟨rfl, hb3⟩
  have HB3 := Lib.hid (below_tr HB2.out hb3)
  have HE3 := Lib.hid (below_tr HE2.out hb3)
  have HR3 : Hid (0 < m → ∃ g, A = some ⟨g, 0, none⟩ ∧ RowF w3 g m (gapV L)) := Lib.hid (fun h => by obtain ⟨g, e, h2⟩ := HROW.out h; exact ⟨g, e, h2.below hb3⟩)
  clear hb3 HB2 H2 HROW HHV HE2
  go_wp2_with fail
  go_loopg [9, 10] n (fun gg s9 s10 wr => ∃ p : Nat, s10 = .int .i64 p ∧ p ≤ n ∧ n - p ≤ gg ∧ s9 = .bool (h0 && outD D p z) ∧ Hid (Below w.heap.size w wr) ∧ Hid (Below w3.heap.size w3 wr))
  case atStart => exact ⟨0, rfl, Nat.zero_le _, by omega, by simp [outD], HB3, Lib.hid (Below.refl _ _)⟩
  case round =>
    obtain ⟨p, rfl, hpn, hgg, rfl, BW, BW3⟩ := hrel
    by_cases hlt : p < n
    · have hltz : (p : Int) < (n : Int) := by omega
      have z1 : ¬ n ≤ p := by omega
      obtain ⟨t, ht⟩ : ∃ b, (h0 && outD D p z) = b := ⟨_, rfl⟩
      rw [ht]
      have hp0 := HAT.out p hlt
      obtain ⟨x, hx⟩ : ∃ x, D p = x := ⟨_, rfl⟩
      rw [hx] at hp0
      have HX := Lib.hid ((hp0.below HE3.out).below BW3.out)
      have HXE := Lib.hid hx
      have HT := Lib.hid ht
      clear hp0 hx ht
      cases t
      · go_wp2_with fail
        go_roundg (n - (p + 1))
        case measure => omega
        case rel => exact ⟨p + 1, by go_num, by omega, Nat.le_refl _, by rw [outD_succ, ← Bool.and_assoc, HT.out]; rfl, BW, BW3⟩
      · obtain ⟨c0, c1, c2, c3, c4⟩ := HX.out
        obtain ⟨y, hy⟩ : ∃ b, hasS x z = b := ⟨_, rfl⟩
        have HH := Lib.hid hy
        clear hy
        go_wp2_with fail
        refine (has_is x z y HH.out _).mono ?_
        rintro e w4 ⟨rfl, hb4⟩
        go_wp2_with fail
        go_roundg (n - (p + 1))
        case measure => omega
        case rel => exact ⟨p + 1, by go_num, by omega, Nat.le_refl _, by rw [outD_succ, ← Bool.and_assoc, HT.out, HXE.out, HH.out]; rfl, Lib.hid (below_tr BW.out hb4), Lib.hid (below_tr BW3.out hb4)⟩
    · obtain rfl : p = n := by omega
      have hltz : ¬ (p : Int) < (p : Int) := by omega
      obtain ⟨q0, hq0⟩ : ∃ b, (h0 && outD D p z) = b := ⟨_, rfl⟩
      rw [hq0] at HFIN
      rw [hq0]
      have HE := Lib.hid (below_tr HE3.out BW3.out)
      have HIN := BW
      have HRW : Hid (0 < m → ∃ g, A = some ⟨g, 0, none⟩ ∧ RowF wr g m (gapV L)) := Lib.hid (fun h => by obtain ⟨g, e, h2⟩ := HR3.out h; exact ⟨g, e, h2.below BW3.out⟩)
      clear hq0 HB3 HR3 HE3 BW3 BW
      go_wp2_with fail
      have hE0 : W.heap.size ≤ (wr).heap.size := HE.out.size
      go_loopg [11, 12, 13] m (fun gg s11 s12 _ wt => ∃ p2 : Nat, s12 = .int .i64 p2 ∧ p2 ≤ m ∧ m - p2 ≤ gg ∧ s11 = .bool (inG L p2 z) ∧ Hid (Below w.heap.size w wt) ∧ Hid (Below (wr).heap.size (wr) wt))
      case atStart => exact ⟨0, rfl, Nat.zero_le _, by omega, by simp [inG], HIN, Lib.hid (Below.refl _ _)⟩
      case round =>
        obtain ⟨p2, rfl, hpm, hgg2, rfl, BT, BT0⟩ := hrel
        by_cases hlt2 : p2 < m
        · have hltz2 : (p2 : Int) < (m : Int) := by omega
          have y1 : ¬ m ≤ p2 := by omega
          obtain ⟨g, rfl, hR⟩ := HRW.out (by omega)
          have HR := Lib.hid (hR.below BT0.out)
          obtain ⟨u, hu⟩ : ∃ u, gapV L p2 = u := ⟨_, rfl⟩
          have hat2 := HR.out.at' p2 hlt2
          rw [hu] at hat2
          have HU := Lib.hid hu
          have HUA := Lib.hid hat2
          have HUOK : Hid (okS u = true) := Lib.hid (by rw [← hu]; exact HOKG.out p2 (by have := HM.out; omega))
          obtain ⟨t, ht⟩ : ∃ b, inG L p2 z = b := ⟨_, rfl⟩
          rw [ht]
          have HT := Lib.hid ht
          clear ht hu hR
          cases t
          · obtain ⟨c0, c1, c2, c3, c4⟩ := hat2
            obtain ⟨y, hy⟩ : ∃ b, hasS u z = b := ⟨_, rfl⟩
            have HH := Lib.hid hy
            clear hy
            go_wp2_with fail
            refine (has_is u z y HH.out _).mono ?_
            rintro e w5 ⟨rfl, hb5⟩
            have HS : Hid (inG L (p2 + 1) z = y) := Lib.hid (by rw [inG_succ, HT.out, HU.out, HH.out]; rfl)
            have BU := Lib.hid (BT.out.trans (hb5.mono BT.out.size))
            have BU0 := Lib.hid (BT0.out.trans (hb5.mono BT0.out.size))
            have HUA5 := Lib.hid (HUA.out.below hb5)
            have HR5 := Lib.hid (HR.out.below hb5)
            clear hb5
            by_cases hp2 : p2 = 0
            · subst hp2
              go_wp2_with fail
              have hdr := below_drw w5
              try simp only [List.append_eq, List.cons_append, List.nil_append]
              refine RX.wp_region_plan (fun w w' => Below w.heap.size w w') [.it (.slice (some ⟨g, 0, none⟩) m cap), .it (.int .i64 (0 : Int)), .it (.pointer (some ⟨g, 0, none⟩)), .it (.agg #[.int .u8 u.k, .int .i64 u.n, .int .i64 u.u, .string u.t]), .it (.bool true), .it (.bool false), .it (.bool false), .it (.int .i64 (0 : Int)), .it (.bool false), .it (.bool false), .it undef, .it undef, .it undef, .it undef, .it undef, .it undef, .it undef, .it undef, .it undef, .it undef, .it undef, .it undef, .it (.bool false), .it (.bool false)] (by kernel_rfl) (by kernel_rfl) (fun _ => Below.refl _ _) (fun _ _ _ => below_tr) ?_
              refine RX.seqP_value (fun _ => Below.refl _ _) _ (by first | rfl | simp) (fun w' hw' hctx => by (go_simp); (try first | with_reducible rfl | simp)) ?_
              simp only [Act.put, List.setIfInBounds_toArray, List.set_cons_zero, List.set_cons_succ]
              refine RX.seqP_value (fun _ => Below.refl _ _) _ (by first | rfl | simp) (fun w' hw' hctx => by (go_simp); (try first | with_reducible rfl | simp)) ?_
              simp only [Act.put, List.setIfInBounds_toArray, List.set_cons_zero, List.set_cons_succ]
              refine RX.seqP_value (fun _ => Below.refl _ _) _ (by first | rfl | simp) (fun w' hw' hctx => by (go_simp); (try first | with_reducible rfl | simp)) ?_
              simp only [Act.put, List.setIfInBounds_toArray, List.set_cons_zero, List.set_cons_succ]
              refine RX.seqP_value (fun _ => Below.refl _ _) _ (by first | rfl | simp) (fun w' hw' hctx => ?_) ?_
              · obtain ⟨c0, c1, c2, c3, c4⟩ := HUA5.out.below (below_tr hdr hw')
                go_simp
                try first | with_reducible rfl | simp
              simp only [Act.put, List.setIfInBounds_toArray, List.set_cons_zero, List.set_cons_succ]
              refine RX.seqP_call (14) #[.agg #[.int .u8 u.k, .int .i64 u.n, .int .i64 u.u, .string u.t]] (.bool true) (by first | rfl | simp) (fun w' hw' hctx => ?_) (fun w' hw' hctx => may_is u true HUOK.out w') ?_
              · go_simp
              simp only [Act.put, List.setIfInBounds_toArray, List.set_cons_zero, List.set_cons_succ]
              refine RX.seqP_value (fun _ => Below.refl _ _) _ (by first | rfl | simp) (fun w' hw' hctx => by (go_simp); (try first | with_reducible rfl | simp)) ?_
              simp only [Act.put, List.setIfInBounds_toArray, List.set_cons_zero, List.set_cons_succ]
              refine RX.seqP_value (fun _ => Below.refl _ _) _ (by first | rfl | simp) (fun w' hw' hctx => by (go_simp); (try first | with_reducible rfl | simp)) ?_
              simp only [Act.put, List.setIfInBounds_toArray, List.set_cons_zero, List.set_cons_succ]
              refine RX.seqP_value (fun _ => Below.refl _ _) _ (by first | rfl | simp) (fun w' hw' hctx => by (go_simp); (try first | with_reducible rfl | simp)) ?_
              simp only [Act.put, List.setIfInBounds_toArray, List.set_cons_zero, List.set_cons_succ]
              refine RX.seqP_value (fun _ => Below.refl _ _) _ (by first | rfl | simp) (fun w' hw' hctx => by (go_simp); (try first | with_reducible rfl | simp)) ?_
              simp only [Act.put, List.setIfInBounds_toArray, List.set_cons_zero, List.set_cons_succ]
              refine RX.seqP_value (fun _ => Below.refl _ _) _ (by first | rfl | simp) (fun w' hw' hctx => by (go_simp); (try first | with_reducible rfl | simp)) ?_
              simp only [Act.put, List.setIfInBounds_toArray, List.set_cons_zero, List.set_cons_succ]
              refine RX.seqP_skip (by first | rfl | simp) ?_
              simp only [Act.put, List.setIfInBounds_toArray, List.set_cons_zero, List.set_cons_succ]
              refine RX.seqP_skip (by first | rfl | simp) ?_
              simp only [Act.put, List.setIfInBounds_toArray, List.set_cons_zero, List.set_cons_succ]
              refine RX.seqP_skip (by first | rfl | simp) ?_
              simp only [Act.put, List.setIfInBounds_toArray, List.set_cons_zero, List.set_cons_succ]
              refine RX.seqP_skip (by first | rfl | simp) ?_
              simp only [Act.put, List.setIfInBounds_toArray, List.set_cons_zero, List.set_cons_succ]
              refine RX.seqP_skip (by first | rfl | simp) ?_
              simp only [Act.put, List.setIfInBounds_toArray, List.set_cons_zero, List.set_cons_succ]
              refine RX.seqP_skip (by first | rfl | simp) ?_
              simp only [Act.put, List.setIfInBounds_toArray, List.set_cons_zero, List.set_cons_succ]
              refine RX.seqP_skip (by first | rfl | simp) ?_
              simp only [Act.put, List.setIfInBounds_toArray, List.set_cons_zero, List.set_cons_succ]
              refine RX.seqP_skip (by first | rfl | simp) ?_
              simp only [Act.put, List.setIfInBounds_toArray, List.set_cons_zero, List.set_cons_succ]
              refine RX.seqP_skip (by first | rfl | simp) ?_
              simp only [Act.put, List.setIfInBounds_toArray, List.set_cons_zero, List.set_cons_succ]
              refine RX.seqP_skip (by first | rfl | simp) ?_
              simp only [Act.put, List.setIfInBounds_toArray, List.set_cons_zero, List.set_cons_succ]
              refine RX.seqP_skip (by first | rfl | simp) ?_
              simp only [Act.put, List.setIfInBounds_toArray, List.set_cons_zero, List.set_cons_succ]
              refine RX.seqP_skip (by first | rfl | simp) ?_
              simp only [Act.put, List.setIfInBounds_toArray, List.set_cons_zero, List.set_cons_succ]
              refine RX.seqP_value (fun _ => Below.refl _ _) _ (by first | rfl | simp) (fun w' hw' hctx => by (go_simp); (try first | with_reducible rfl | simp)) ?_
              simp only [Act.put, List.setIfInBounds_toArray, List.set_cons_zero, List.set_cons_succ]
              refine RX.seqP_value (fun _ => Below.refl _ _) _ (by first | rfl | simp) (fun w' hw' hctx => by (go_simp); (try first | with_reducible rfl | simp)) ?_
              simp only [Act.put, List.setIfInBounds_toArray, List.set_cons_zero, List.set_cons_succ]
              refine RX.seqP_nil (fun v5 hR hctx _ => ?_)
              have hv5 := below_tr hdr hR
              clear hctx hR
              have BV := Lib.hid (BU.out.trans (hv5.mono BU.out.size))
              have BV0 := Lib.hid (BU0.out.trans (hv5.mono BU0.out.size))
              have HUAV := Lib.hid (HUA5.out.below hv5)
              clear hv5 hdr
              go_wp2_with fail
              go_loopg [13] p (fun gi s13 wi => ∃ j : Nat, s13 = .int .i64 j ∧ j ≤ p ∧ p - j ≤ gi ∧ Hid (Below w.heap.size w wi) ∧ Hid (Below v5.heap.size v5 wi))
              case atStart => exact ⟨0, rfl, Nat.zero_le _, by omega, BV, Lib.hid (Below.refl _ _)⟩
              case round =>
                obtain ⟨j, rfl, hjn, hgj, BI, BI0⟩ := hrel
                by_cases hj : j < p
                · have hjz : (j : Int) < (p : Int) := by omega
                  have z1 : ¬ p ≤ j := by omega
                  have hj0 := HAT.out j hj
                  have hno := HAP.out 0 j (by have := HM.out; omega) hj
                  obtain ⟨x, hx⟩ : ∃ x, D j = x := ⟨_, rfl⟩
                  rw [hx] at hj0 hno
                  rw [HU.out] at hno
                  have HX := Lib.hid ((((hj0.below HE.out).below BV0.out).below BI0.out))
                  have HY := Lib.hid (HUAV.out.below BI0.out)
                  have HMM := Lib.hid hno
                  clear hj0 hno hx
                  go_wp2_with fail
                  have hdr := below_drw wr
                  try simp only [List.append_eq, List.cons_append, List.nil_append]
                  refine RX.wp_region_plan (fun w w' => Below w.heap.size w w') [.it (.slice (some ⟨g, 0, none⟩) m cap), .it (.int .i64 (0 : Int)), .it (.pointer (some ⟨g, 0, none⟩)), .it (.agg #[.int .u8 u.k, .int .i64 u.n, .int .i64 u.u, .string u.t]), .it (.slice (some ⟨b, o, none⟩) p c), .it (.int .i64 (j : Int)), .it (.pointer (some ⟨b, o + j * 4, none⟩)), .it (.agg #[.int .u8 x.k, .int .i64 x.n, .int .i64 x.u, .string x.t]), .it (.bool false)] (by kernel_rfl) (by kernel_rfl) (fun _ => Below.refl _ _) (fun _ _ _ => below_tr) ?_
                  refine RX.seqP_value (fun _ => Below.refl _ _) _ (by first | rfl | simp) (fun w' hw' hctx => by (go_simp); (try first | with_reducible rfl | simp)) ?_
                  simp only [Act.put, List.setIfInBounds_toArray, List.set_cons_zero, List.set_cons_succ]
                  refine RX.seqP_value (fun _ => Below.refl _ _) _ (by first | rfl | simp) (fun w' hw' hctx => by (go_simp); (try first | with_reducible rfl | simp)) ?_
                  simp only [Act.put, List.setIfInBounds_toArray, List.set_cons_zero, List.set_cons_succ]
                  refine RX.seqP_value (fun _ => Below.refl _ _) _ (by first | rfl | simp) (fun w' hw' hctx => by (go_simp); (try first | with_reducible rfl | simp)) ?_
                  simp only [Act.put, List.setIfInBounds_toArray, List.set_cons_zero, List.set_cons_succ]
                  refine RX.seqP_value (fun _ => Below.refl _ _) _ (by first | rfl | simp) (fun w' hw' hctx => ?_) ?_
                  · obtain ⟨c0, c1, c2, c3, c4⟩ := HY.out.below (below_tr hdr hw')
                    go_simp
                    try first | with_reducible rfl | simp
                  simp only [Act.put, List.setIfInBounds_toArray, List.set_cons_zero, List.set_cons_succ]
                  refine RX.seqP_value (fun _ => Below.refl _ _) _ (by first | rfl | simp) (fun w' hw' hctx => by (go_simp); (try first | with_reducible rfl | simp)) ?_
                  simp only [Act.put, List.setIfInBounds_toArray, List.set_cons_zero, List.set_cons_succ]
                  refine RX.seqP_value (fun _ => Below.refl _ _) _ (by first | rfl | simp) (fun w' hw' hctx => by (go_simp); (try first | with_reducible rfl | simp)) ?_
                  simp only [Act.put, List.setIfInBounds_toArray, List.set_cons_zero, List.set_cons_succ]
                  refine RX.seqP_value (fun _ => Below.refl _ _) _ (by first | rfl | simp) (fun w' hw' hctx => by (go_simp); (try first | with_reducible rfl | simp)) ?_
                  simp only [Act.put, List.setIfInBounds_toArray, List.set_cons_zero, List.set_cons_succ]
                  refine RX.seqP_value (fun _ => Below.refl _ _) _ (by first | rfl | simp) (fun w' hw' hctx => ?_) ?_
                  · obtain ⟨c0, c1, c2, c3, c4⟩ := HX.out.below (below_tr hdr hw')
                    go_simp
                    try first | with_reducible rfl | simp
                  simp only [Act.put, List.setIfInBounds_toArray, List.set_cons_zero, List.set_cons_succ]
                  refine RX.seqP_call (18) #[.agg #[.int .u8 u.k, .int .i64 u.n, .int .i64 u.u, .string u.t], .agg #[.int .u8 x.k, .int .i64 x.n, .int .i64 x.u, .string x.t]] (.bool false) (by first | rfl | simp) (fun w' hw' hctx => ?_) (fun w' hw' hctx => meets_is u x false HMM.out w') ?_
                  · go_simp
                  simp only [Act.put, List.setIfInBounds_toArray, List.set_cons_zero, List.set_cons_succ]
                  refine RX.seqP_nil (fun v6 hR hctx _ => ?_)
                  have hv6 := below_tr hdr hR
                  clear hctx hR
                  go_wp2_with fail
                  go_roundg (p - (j + 1))
                  case measure => omega
                  case rel => exact ⟨j + 1, by go_num, by omega, Nat.le_refl _, Lib.hid (BI.out.trans (hv6.mono BI.out.size)), Lib.hid (BI0.out.trans (hv6.mono BI0.out.size))⟩
                · have hjz : ¬ (j : Int) < (p : Int) := by omega
                  have hBT := Lib.hid (BV0.out.trans (BI0.out.mono BV0.out.size))
                  go_wp2_with fail
                  go_roundg (m - (0 + 1))
                  case measure => omega
                  case rel => exact ⟨0 + 1, by go_num, by omega, Nat.le_refl _, by rw [HS.out], BI, hBT⟩
            · have hp3 : 0 < p2 := by omega
              have hp4 : (0 : Int) < (p2 : Int) := by omega
              have hp5 : ¬ m ≤ p2 - 1 := by omega
              have hp6 : ((p2 : Int) - 1).toNat = p2 - 1 := by omega
              have hp7 : ¬ (m : Int) ≤ (p2 : Int) - 1 := by omega
              have hp8 : ¬ ((p2 : Int) - 1 < 0) := by omega
              have hp9 : IntKind.i64.wrap ((p2 : Int) - 1) = (p2 : Int) - 1 := by simp [IntKind.wrap, IntKind.bits, IntKind.signed]; omega
              have hp10 : ¬ ((p2 : Int) < 1) := by omega
              have hp11 : ¬ ((m : Int) < (p2 : Int)) := by omega
              obtain ⟨u', hu'⟩ : ∃ u, gapV L (p2 - 1) = u := ⟨_, rfl⟩
              have hup := HR5.out.at' (p2 - 1) (by omega)
              rw [hu'] at hup
              have HUP := Lib.hid hup
              have hsep := HSEP.out (p2 - 1) (by have := HM.out; omega)
              rw [Nat.sub_add_cancel hp3, hu', HU.out] at hsep
              have hnle : ¬ u.n ≤ u'.u := by omega
              clear hup hu' hsep
              go_wp2_with fail
              have hdr := below_drw w5
              try simp only [List.append_eq, List.cons_append, List.nil_append]
              refine RX.wp_region_plan (fun w w' => Below w.heap.size w w') [.it (.slice (some ⟨g, 0, none⟩) m cap), .it (.int .i64 (p2 : Int)), .it (.pointer (some ⟨g, p2 * 4, none⟩)), .it (.agg #[.int .u8 u.k, .int .i64 u.n, .int .i64 u.u, .string u.t]), .it (.bool true), .it (.bool false), .it (.bool false), .it (.int .i64 (p2 : Int)), .it (.bool true), .it (.bool true), .it (.slice (some ⟨g, 0, none⟩) m cap), .it (.int .i64 (p2 : Int)), .it (.pointer (some ⟨g, p2 * 4, none⟩)), .it (.pointer (some ⟨g, p2 * 4 + 1, none⟩)), .it (.int .i64 u.n), .it (.slice (some ⟨g, 0, none⟩) m cap), .it (.int .i64 (p2 : Int)), .it (.int .i64 ((p2 : Int) - 1)), .it (.pointer (some ⟨g, (p2 - 1) * 4, none⟩)), .it (.pointer (some ⟨g, (p2 - 1) * 4 + 2, none⟩)), .it (.int .i64 u'.u), .it (.bool false), .it (.bool false), .it (.bool false)] (by kernel_rfl) (by kernel_rfl) (fun _ => Below.refl _ _) (fun _ _ _ => below_tr) ?_
              refine RX.seqP_value (fun _ => Below.refl _ _) _ (by first | rfl | simp) (fun w' hw' hctx => by (go_simp); (try first | with_reducible rfl | simp)) ?_
              simp only [Act.put, List.setIfInBounds_toArray, List.set_cons_zero, List.set_cons_succ]
              refine RX.seqP_value (fun _ => Below.refl _ _) _ (by first | rfl | simp) (fun w' hw' hctx => by (go_simp); (try first | with_reducible rfl | simp)) ?_
              simp only [Act.put, List.setIfInBounds_toArray, List.set_cons_zero, List.set_cons_succ]
              refine RX.seqP_value (fun _ => Below.refl _ _) _ (by first | rfl | simp) (fun w' hw' hctx => by (go_simp); (try first | with_reducible rfl | simp)) ?_
              simp only [Act.put, List.setIfInBounds_toArray, List.set_cons_zero, List.set_cons_succ]
              refine RX.seqP_value (fun _ => Below.refl _ _) _ (by first | rfl | simp) (fun w' hw' hctx => ?_) ?_
              · obtain ⟨c0, c1, c2, c3, c4⟩ := HUA5.out.below (below_tr hdr hw')
                go_simp
                try first | with_reducible rfl | simp
              simp only [Act.put, List.setIfInBounds_toArray, List.set_cons_zero, List.set_cons_succ]
              refine RX.seqP_call (14) #[.agg #[.int .u8 u.k, .int .i64 u.n, .int .i64 u.u, .string u.t]] (.bool true) (by first | rfl | simp) (fun w' hw' hctx => ?_) (fun w' hw' hctx => may_is u true HUOK.out w') ?_
              · go_simp
              simp only [Act.put, List.setIfInBounds_toArray, List.set_cons_zero, List.set_cons_succ]
              refine RX.seqP_value (fun _ => Below.refl _ _) _ (by first | rfl | simp) (fun w' hw' hctx => by (go_simp); (try first | with_reducible rfl | simp)) ?_
              simp only [Act.put, List.setIfInBounds_toArray, List.set_cons_zero, List.set_cons_succ]
              refine RX.seqP_value (fun _ => Below.refl _ _) _ (by first | rfl | simp) (fun w' hw' hctx => by (go_simp); (try first | with_reducible rfl | simp)) ?_
              simp only [Act.put, List.setIfInBounds_toArray, List.set_cons_zero, List.set_cons_succ]
              refine RX.seqP_value (fun _ => Below.refl _ _) _ (by first | rfl | simp) (fun w' hw' hctx => by (go_simp); (try first | with_reducible rfl | simp)) ?_
              simp only [Act.put, List.setIfInBounds_toArray, List.set_cons_zero, List.set_cons_succ]
              refine RX.seqP_value (fun _ => Below.refl _ _) _ (by first | rfl | simp) (fun w' hw' hctx => by (go_simp); (try first | with_reducible rfl | simp)) ?_
              simp only [Act.put, List.setIfInBounds_toArray, List.set_cons_zero, List.set_cons_succ]
              refine RX.seqP_value (fun _ => Below.refl _ _) _ (by first | rfl | simp) (fun w' hw' hctx => by (go_simp); (try first | with_reducible rfl | simp)) ?_
              simp only [Act.put, List.setIfInBounds_toArray, List.set_cons_zero, List.set_cons_succ]
              refine RX.seqP_value (fun _ => Below.refl _ _) _ (by first | rfl | simp) (fun w' hw' hctx => by (go_simp); (try first | with_reducible rfl | simp)) ?_
              simp only [Act.put, List.setIfInBounds_toArray, List.set_cons_zero, List.set_cons_succ]
              refine RX.seqP_value (fun _ => Below.refl _ _) _ (by first | rfl | simp) (fun w' hw' hctx => by (go_simp); (try first | with_reducible rfl | simp)) ?_
              simp only [Act.put, List.setIfInBounds_toArray, List.set_cons_zero, List.set_cons_succ]
              refine RX.seqP_value (fun _ => Below.refl _ _) _ (by first | rfl | simp) (fun w' hw' hctx => by (go_simp); (try first | with_reducible rfl | simp)) ?_
              simp only [Act.put, List.setIfInBounds_toArray, List.set_cons_zero, List.set_cons_succ]
              refine RX.seqP_value (fun _ => Below.refl _ _) _ (by first | rfl | simp) (fun w' hw' hctx => by (go_simp); (try first | with_reducible rfl | simp)) ?_
              simp only [Act.put, List.setIfInBounds_toArray, List.set_cons_zero, List.set_cons_succ]
              refine RX.seqP_value (fun _ => Below.refl _ _) _ (by first | rfl | simp) (fun w' hw' hctx => ?_) ?_
              · obtain ⟨c0, c1, c2, c3, c4⟩ := HUA5.out.below (below_tr hdr hw')
                go_simp
                try first | with_reducible rfl | simp
              simp only [Act.put, List.setIfInBounds_toArray, List.set_cons_zero, List.set_cons_succ]
              refine RX.seqP_value (fun _ => Below.refl _ _) _ (by first | rfl | simp) (fun w' hw' hctx => by (go_simp); (try first | with_reducible rfl | simp)) ?_
              simp only [Act.put, List.setIfInBounds_toArray, List.set_cons_zero, List.set_cons_succ]
              refine RX.seqP_value (fun _ => Below.refl _ _) _ (by first | rfl | simp) (fun w' hw' hctx => by (go_simp); (try first | with_reducible rfl | simp)) ?_
              simp only [Act.put, List.setIfInBounds_toArray, List.set_cons_zero, List.set_cons_succ]
              refine RX.seqP_value (fun _ => Below.refl _ _) _ (by first | rfl | simp) (fun w' hw' hctx => by (go_simp); (try first | with_reducible rfl | simp)) ?_
              simp only [Act.put, List.setIfInBounds_toArray, List.set_cons_zero, List.set_cons_succ]
              refine RX.seqP_value (fun _ => Below.refl _ _) _ (by first | rfl | simp) (fun w' hw' hctx => by (go_simp); (try first | with_reducible rfl | simp)) ?_
              simp only [Act.put, List.setIfInBounds_toArray, List.set_cons_zero, List.set_cons_succ]
              refine RX.seqP_value (fun _ => Below.refl _ _) _ (by first | rfl | simp) (fun w' hw' hctx => by (go_simp); (try first | with_reducible rfl | simp)) ?_
              simp only [Act.put, List.setIfInBounds_toArray, List.set_cons_zero, List.set_cons_succ]
              refine RX.seqP_value (fun _ => Below.refl _ _) _ (by first | rfl | simp) (fun w' hw' hctx => ?_) ?_
              · obtain ⟨c0, c1, c2, c3, c4⟩ := HUP.out.below (below_tr hdr hw')
                go_simp
                try first | with_reducible rfl | simp
              simp only [Act.put, List.setIfInBounds_toArray, List.set_cons_zero, List.set_cons_succ]
              refine RX.seqP_value (fun _ => Below.refl _ _) _ (by first | rfl | simp) (fun w' hw' hctx => by (go_simp); (try first | with_reducible rfl | simp)) ?_
              simp only [Act.put, List.setIfInBounds_toArray, List.set_cons_zero, List.set_cons_succ]
              refine RX.seqP_value (fun _ => Below.refl _ _) _ (by first | rfl | simp) (fun w' hw' hctx => by (go_simp); (try first | with_reducible rfl | simp)) ?_
              simp only [Act.put, List.setIfInBounds_toArray, List.set_cons_zero, List.set_cons_succ]
              refine RX.seqP_value (fun _ => Below.refl _ _) _ (by first | rfl | simp) (fun w' hw' hctx => by (go_simp); (try first | with_reducible rfl | simp)) ?_
              simp only [Act.put, List.setIfInBounds_toArray, List.set_cons_zero, List.set_cons_succ]
              refine RX.seqP_nil (fun v5 hR hctx _ => ?_)
              have hv5 := below_tr hdr hR
              clear hctx hR
              have BV := Lib.hid (BU.out.trans (hv5.mono BU.out.size))
              have BV0 := Lib.hid (BU0.out.trans (hv5.mono BU0.out.size))
              have HUAV := Lib.hid (HUA5.out.below hv5)
              clear hv5 hdr
              go_wp2_with fail
              go_loopg [13] p (fun gi s13 wi => ∃ j : Nat, s13 = .int .i64 j ∧ j ≤ p ∧ p - j ≤ gi ∧ Hid (Below w.heap.size w wi) ∧ Hid (Below v5.heap.size v5 wi))
              case atStart => exact ⟨0, rfl, Nat.zero_le _, by omega, BV, Lib.hid (Below.refl _ _)⟩
              case round =>
                obtain ⟨j, rfl, hjn, hgj, BI, BI0⟩ := hrel
                by_cases hj : j < p
                · have hjz : (j : Int) < (p : Int) := by omega
                  have z1 : ¬ p ≤ j := by omega
                  have hj0 := HAT.out j hj
                  have hno := HAP.out p2 j (by have := HM.out; omega) hj
                  obtain ⟨x, hx⟩ : ∃ x, D j = x := ⟨_, rfl⟩
                  rw [hx] at hj0 hno
                  rw [HU.out] at hno
                  have HX := Lib.hid ((((hj0.below HE.out).below BV0.out).below BI0.out))
                  have HY := Lib.hid (HUAV.out.below BI0.out)
                  have HMM := Lib.hid hno
                  clear hj0 hno hx
                  go_wp2_with fail
                  have hdr := below_drw wr
                  try simp only [List.append_eq, List.cons_append, List.nil_append]
                  refine RX.wp_region_plan (fun w w' => Below w.heap.size w w') [.it (.slice (some ⟨g, 0, none⟩) m cap), .it (.int .i64 (p2 : Int)), .it (.pointer (some ⟨g, p2 * 4, none⟩)), .it (.agg #[.int .u8 u.k, .int .i64 u.n, .int .i64 u.u, .string u.t]), .it (.slice (some ⟨b, o, none⟩) p c), .it (.int .i64 (j : Int)), .it (.pointer (some ⟨b, o + j * 4, none⟩)), .it (.agg #[.int .u8 x.k, .int .i64 x.n, .int .i64 x.u, .string x.t]), .it (.bool false)] (by kernel_rfl) (by kernel_rfl) (fun _ => Below.refl _ _) (fun _ _ _ => below_tr) ?_
                  refine RX.seqP_value (fun _ => Below.refl _ _) _ (by first | rfl | simp) (fun w' hw' hctx => by (go_simp); (try first | with_reducible rfl | simp)) ?_
                  simp only [Act.put, List.setIfInBounds_toArray, List.set_cons_zero, List.set_cons_succ]
                  refine RX.seqP_value (fun _ => Below.refl _ _) _ (by first | rfl | simp) (fun w' hw' hctx => by (go_simp); (try first | with_reducible rfl | simp)) ?_
                  simp only [Act.put, List.setIfInBounds_toArray, List.set_cons_zero, List.set_cons_succ]
                  refine RX.seqP_value (fun _ => Below.refl _ _) _ (by first | rfl | simp) (fun w' hw' hctx => by (go_simp); (try first | with_reducible rfl | simp)) ?_
                  simp only [Act.put, List.setIfInBounds_toArray, List.set_cons_zero, List.set_cons_succ]
                  refine RX.seqP_value (fun _ => Below.refl _ _) _ (by first | rfl | simp) (fun w' hw' hctx => ?_) ?_
                  · obtain ⟨c0, c1, c2, c3, c4⟩ := HY.out.below (below_tr hdr hw')
                    go_simp
                    try first | with_reducible rfl | simp
                  simp only [Act.put, List.setIfInBounds_toArray, List.set_cons_zero, List.set_cons_succ]
                  refine RX.seqP_value (fun _ => Below.refl _ _) _ (by first | rfl | simp) (fun w' hw' hctx => by (go_simp); (try first | with_reducible rfl | simp)) ?_
                  simp only [Act.put, List.setIfInBounds_toArray, List.set_cons_zero, List.set_cons_succ]
                  refine RX.seqP_value (fun _ => Below.refl _ _) _ (by first | rfl | simp) (fun w' hw' hctx => by (go_simp); (try first | with_reducible rfl | simp)) ?_
                  simp only [Act.put, List.setIfInBounds_toArray, List.set_cons_zero, List.set_cons_succ]
                  refine RX.seqP_value (fun _ => Below.refl _ _) _ (by first | rfl | simp) (fun w' hw' hctx => by (go_simp); (try first | with_reducible rfl | simp)) ?_
                  simp only [Act.put, List.setIfInBounds_toArray, List.set_cons_zero, List.set_cons_succ]
                  refine RX.seqP_value (fun _ => Below.refl _ _) _ (by first | rfl | simp) (fun w' hw' hctx => ?_) ?_
                  · obtain ⟨c0, c1, c2, c3, c4⟩ := HX.out.below (below_tr hdr hw')
                    go_simp
                    try first | with_reducible rfl | simp
                  simp only [Act.put, List.setIfInBounds_toArray, List.set_cons_zero, List.set_cons_succ]
                  refine RX.seqP_call (18) #[.agg #[.int .u8 u.k, .int .i64 u.n, .int .i64 u.u, .string u.t], .agg #[.int .u8 x.k, .int .i64 x.n, .int .i64 x.u, .string x.t]] (.bool false) (by first | rfl | simp) (fun w' hw' hctx => ?_) (fun w' hw' hctx => meets_is u x false HMM.out w') ?_
                  · go_simp
                  simp only [Act.put, List.setIfInBounds_toArray, List.set_cons_zero, List.set_cons_succ]
                  refine RX.seqP_nil (fun v6 hR hctx _ => ?_)
                  have hv6 := below_tr hdr hR
                  clear hctx hR
                  go_wp2_with fail
                  go_roundg (p - (j + 1))
                  case measure => omega
                  case rel => exact ⟨j + 1, by go_num, by omega, Nat.le_refl _, Lib.hid (BI.out.trans (hv6.mono BI.out.size)), Lib.hid (BI0.out.trans (hv6.mono BI0.out.size))⟩
                · have hjz : ¬ (j : Int) < (p : Int) := by omega
                  have hBT := Lib.hid (BV0.out.trans (BI0.out.mono BV0.out.size))
                  go_wp2_with fail
                  go_roundg (m - (p2 + 1))
                  case measure => omega
                  case rel => exact ⟨p2 + 1, by go_num, by omega, Nat.le_refl _, by rw [HS.out], BI, hBT⟩
          · have hb5 : Below wr.heap.size wr wr := Below.refl _ _
            have HS : Hid (inG L (p2 + 1) z = true) := Lib.hid (by rw [inG_succ, HT.out]; rfl)
            clear hat2
            have BU := Lib.hid (BT.out.trans (hb5.mono BT.out.size))
            have BU0 := Lib.hid (BT0.out.trans (hb5.mono BT0.out.size))
            have HUA5 := Lib.hid (HUA.out.below hb5)
            have HR5 := Lib.hid (HR.out.below hb5)
            clear hb5
            by_cases hp2 : p2 = 0
            · subst hp2
              go_wp2_with fail
              have hdr := below_drw wr
              try simp only [List.append_eq, List.cons_append, List.nil_append]
              refine RX.wp_region_plan (fun w w' => Below w.heap.size w w') [.it (.slice (some ⟨g, 0, none⟩) m cap), .it (.int .i64 (0 : Int)), .it (.pointer (some ⟨g, 0, none⟩)), .it (.agg #[.int .u8 u.k, .int .i64 u.n, .int .i64 u.u, .string u.t]), .it (.bool true), .it (.bool false), .it (.bool false), .it (.int .i64 (0 : Int)), .it (.bool false), .it (.bool false), .it undef, .it undef, .it undef, .it undef, .it undef, .it undef, .it undef, .it undef, .it undef, .it undef, .it undef, .it undef, .it (.bool false), .it (.bool false)] (by kernel_rfl) (by kernel_rfl) (fun _ => Below.refl _ _) (fun _ _ _ => below_tr) ?_
              refine RX.seqP_value (fun _ => Below.refl _ _) _ (by first | rfl | simp) (fun w' hw' hctx => by (go_simp); (try first | with_reducible rfl | simp)) ?_
              simp only [Act.put, List.setIfInBounds_toArray, List.set_cons_zero, List.set_cons_succ]
              refine RX.seqP_value (fun _ => Below.refl _ _) _ (by first | rfl | simp) (fun w' hw' hctx => by (go_simp); (try first | with_reducible rfl | simp)) ?_
              simp only [Act.put, List.setIfInBounds_toArray, List.set_cons_zero, List.set_cons_succ]
              refine RX.seqP_value (fun _ => Below.refl _ _) _ (by first | rfl | simp) (fun w' hw' hctx => by (go_simp); (try first | with_reducible rfl | simp)) ?_
              simp only [Act.put, List.setIfInBounds_toArray, List.set_cons_zero, List.set_cons_succ]
              refine RX.seqP_value (fun _ => Below.refl _ _) _ (by first | rfl | simp) (fun w' hw' hctx => ?_) ?_
              · obtain ⟨c0, c1, c2, c3, c4⟩ := HUA5.out.below (below_tr hdr hw')
                go_simp
                try first | with_reducible rfl | simp
              simp only [Act.put, List.setIfInBounds_toArray, List.set_cons_zero, List.set_cons_succ]
              refine RX.seqP_call (14) #[.agg #[.int .u8 u.k, .int .i64 u.n, .int .i64 u.u, .string u.t]] (.bool true) (by first | rfl | simp) (fun w' hw' hctx => ?_) (fun w' hw' hctx => may_is u true HUOK.out w') ?_
              · go_simp
              simp only [Act.put, List.setIfInBounds_toArray, List.set_cons_zero, List.set_cons_succ]
              refine RX.seqP_value (fun _ => Below.refl _ _) _ (by first | rfl | simp) (fun w' hw' hctx => by (go_simp); (try first | with_reducible rfl | simp)) ?_
              simp only [Act.put, List.setIfInBounds_toArray, List.set_cons_zero, List.set_cons_succ]
              refine RX.seqP_value (fun _ => Below.refl _ _) _ (by first | rfl | simp) (fun w' hw' hctx => by (go_simp); (try first | with_reducible rfl | simp)) ?_
              simp only [Act.put, List.setIfInBounds_toArray, List.set_cons_zero, List.set_cons_succ]
              refine RX.seqP_value (fun _ => Below.refl _ _) _ (by first | rfl | simp) (fun w' hw' hctx => by (go_simp); (try first | with_reducible rfl | simp)) ?_
              simp only [Act.put, List.setIfInBounds_toArray, List.set_cons_zero, List.set_cons_succ]
              refine RX.seqP_value (fun _ => Below.refl _ _) _ (by first | rfl | simp) (fun w' hw' hctx => by (go_simp); (try first | with_reducible rfl | simp)) ?_
              simp only [Act.put, List.setIfInBounds_toArray, List.set_cons_zero, List.set_cons_succ]
              refine RX.seqP_value (fun _ => Below.refl _ _) _ (by first | rfl | simp) (fun w' hw' hctx => by (go_simp); (try first | with_reducible rfl | simp)) ?_
              simp only [Act.put, List.setIfInBounds_toArray, List.set_cons_zero, List.set_cons_succ]
              refine RX.seqP_skip (by first | rfl | simp) ?_
              simp only [Act.put, List.setIfInBounds_toArray, List.set_cons_zero, List.set_cons_succ]
              refine RX.seqP_skip (by first | rfl | simp) ?_
              simp only [Act.put, List.setIfInBounds_toArray, List.set_cons_zero, List.set_cons_succ]
              refine RX.seqP_skip (by first | rfl | simp) ?_
              simp only [Act.put, List.setIfInBounds_toArray, List.set_cons_zero, List.set_cons_succ]
              refine RX.seqP_skip (by first | rfl | simp) ?_
              simp only [Act.put, List.setIfInBounds_toArray, List.set_cons_zero, List.set_cons_succ]
              refine RX.seqP_skip (by first | rfl | simp) ?_
              simp only [Act.put, List.setIfInBounds_toArray, List.set_cons_zero, List.set_cons_succ]
              refine RX.seqP_skip (by first | rfl | simp) ?_
              simp only [Act.put, List.setIfInBounds_toArray, List.set_cons_zero, List.set_cons_succ]
              refine RX.seqP_skip (by first | rfl | simp) ?_
              simp only [Act.put, List.setIfInBounds_toArray, List.set_cons_zero, List.set_cons_succ]
              refine RX.seqP_skip (by first | rfl | simp) ?_
              simp only [Act.put, List.setIfInBounds_toArray, List.set_cons_zero, List.set_cons_succ]
              refine RX.seqP_skip (by first | rfl | simp) ?_
              simp only [Act.put, List.setIfInBounds_toArray, List.set_cons_zero, List.set_cons_succ]
              refine RX.seqP_skip (by first | rfl | simp) ?_
              simp only [Act.put, List.setIfInBounds_toArray, List.set_cons_zero, List.set_cons_succ]
              refine RX.seqP_skip (by first | rfl | simp) ?_
              simp only [Act.put, List.setIfInBounds_toArray, List.set_cons_zero, List.set_cons_succ]
              refine RX.seqP_skip (by first | rfl | simp) ?_
              simp only [Act.put, List.setIfInBounds_toArray, List.set_cons_zero, List.set_cons_succ]
              refine RX.seqP_value (fun _ => Below.refl _ _) _ (by first | rfl | simp) (fun w' hw' hctx => by (go_simp); (try first | with_reducible rfl | simp)) ?_
              simp only [Act.put, List.setIfInBounds_toArray, List.set_cons_zero, List.set_cons_succ]
              refine RX.seqP_value (fun _ => Below.refl _ _) _ (by first | rfl | simp) (fun w' hw' hctx => by (go_simp); (try first | with_reducible rfl | simp)) ?_
              simp only [Act.put, List.setIfInBounds_toArray, List.set_cons_zero, List.set_cons_succ]
              refine RX.seqP_nil (fun v5 hR hctx _ => ?_)
              have hv5 := below_tr hdr hR
              clear hctx hR
              have BV := Lib.hid (BU.out.trans (hv5.mono BU.out.size))
              have BV0 := Lib.hid (BU0.out.trans (hv5.mono BU0.out.size))
              have HUAV := Lib.hid (HUA5.out.below hv5)
              clear hv5 hdr
              go_wp2_with fail
              go_loopg [13] p (fun gi s13 wi => ∃ j : Nat, s13 = .int .i64 j ∧ j ≤ p ∧ p - j ≤ gi ∧ Hid (Below w.heap.size w wi) ∧ Hid (Below v5.heap.size v5 wi))
              case atStart => exact ⟨0, rfl, Nat.zero_le _, by omega, BV, Lib.hid (Below.refl _ _)⟩
              case round =>
                obtain ⟨j, rfl, hjn, hgj, BI, BI0⟩ := hrel
                by_cases hj : j < p
                · have hjz : (j : Int) < (p : Int) := by omega
                  have z1 : ¬ p ≤ j := by omega
                  have hj0 := HAT.out j hj
                  have hno := HAP.out 0 j (by have := HM.out; omega) hj
                  obtain ⟨x, hx⟩ : ∃ x, D j = x := ⟨_, rfl⟩
                  rw [hx] at hj0 hno
                  rw [HU.out] at hno
                  have HX := Lib.hid ((((hj0.below HE.out).below BV0.out).below BI0.out))
                  have HY := Lib.hid (HUAV.out.below BI0.out)
                  have HMM := Lib.hid hno
                  clear hj0 hno hx
                  go_wp2_with fail
                  have hdr := below_drw wr
                  try simp only [List.append_eq, List.cons_append, List.nil_append]
                  refine RX.wp_region_plan (fun w w' => Below w.heap.size w w') [.it (.slice (some ⟨g, 0, none⟩) m cap), .it (.int .i64 (0 : Int)), .it (.pointer (some ⟨g, 0, none⟩)), .it (.agg #[.int .u8 u.k, .int .i64 u.n, .int .i64 u.u, .string u.t]), .it (.slice (some ⟨b, o, none⟩) p c), .it (.int .i64 (j : Int)), .it (.pointer (some ⟨b, o + j * 4, none⟩)), .it (.agg #[.int .u8 x.k, .int .i64 x.n, .int .i64 x.u, .string x.t]), .it (.bool false)] (by kernel_rfl) (by kernel_rfl) (fun _ => Below.refl _ _) (fun _ _ _ => below_tr) ?_
                  refine RX.seqP_value (fun _ => Below.refl _ _) _ (by first | rfl | simp) (fun w' hw' hctx => by (go_simp); (try first | with_reducible rfl | simp)) ?_
                  simp only [Act.put, List.setIfInBounds_toArray, List.set_cons_zero, List.set_cons_succ]
                  refine RX.seqP_value (fun _ => Below.refl _ _) _ (by first | rfl | simp) (fun w' hw' hctx => by (go_simp); (try first | with_reducible rfl | simp)) ?_
                  simp only [Act.put, List.setIfInBounds_toArray, List.set_cons_zero, List.set_cons_succ]
                  refine RX.seqP_value (fun _ => Below.refl _ _) _ (by first | rfl | simp) (fun w' hw' hctx => by (go_simp); (try first | with_reducible rfl | simp)) ?_
                  simp only [Act.put, List.setIfInBounds_toArray, List.set_cons_zero, List.set_cons_succ]
                  refine RX.seqP_value (fun _ => Below.refl _ _) _ (by first | rfl | simp) (fun w' hw' hctx => ?_) ?_
                  · obtain ⟨c0, c1, c2, c3, c4⟩ := HY.out.below (below_tr hdr hw')
                    go_simp
                    try first | with_reducible rfl | simp
                  simp only [Act.put, List.setIfInBounds_toArray, List.set_cons_zero, List.set_cons_succ]
                  refine RX.seqP_value (fun _ => Below.refl _ _) _ (by first | rfl | simp) (fun w' hw' hctx => by (go_simp); (try first | with_reducible rfl | simp)) ?_
                  simp only [Act.put, List.setIfInBounds_toArray, List.set_cons_zero, List.set_cons_succ]
                  refine RX.seqP_value (fun _ => Below.refl _ _) _ (by first | rfl | simp) (fun w' hw' hctx => by (go_simp); (try first | with_reducible rfl | simp)) ?_
                  simp only [Act.put, List.setIfInBounds_toArray, List.set_cons_zero, List.set_cons_succ]
                  refine RX.seqP_value (fun _ => Below.refl _ _) _ (by first | rfl | simp) (fun w' hw' hctx => by (go_simp); (try first | with_reducible rfl | simp)) ?_
                  simp only [Act.put, List.setIfInBounds_toArray, List.set_cons_zero, List.set_cons_succ]
                  refine RX.seqP_value (fun _ => Below.refl _ _) _ (by first | rfl | simp) (fun w' hw' hctx => ?_) ?_
                  · obtain ⟨c0, c1, c2, c3, c4⟩ := HX.out.below (below_tr hdr hw')
                    go_simp
                    try first | with_reducible rfl | simp
                  simp only [Act.put, List.setIfInBounds_toArray, List.set_cons_zero, List.set_cons_succ]
                  refine RX.seqP_call (18) #[.agg #[.int .u8 u.k, .int .i64 u.n, .int .i64 u.u, .string u.t], .agg #[.int .u8 x.k, .int .i64 x.n, .int .i64 x.u, .string x.t]] (.bool false) (by first | rfl | simp) (fun w' hw' hctx => ?_) (fun w' hw' hctx => meets_is u x false HMM.out w') ?_
                  · go_simp
                  simp only [Act.put, List.setIfInBounds_toArray, List.set_cons_zero, List.set_cons_succ]
                  refine RX.seqP_nil (fun v6 hR hctx _ => ?_)
                  have hv6 := below_tr hdr hR
                  clear hctx hR
                  go_wp2_with fail
                  go_roundg (p - (j + 1))
                  case measure => omega
                  case rel => exact ⟨j + 1, by go_num, by omega, Nat.le_refl _, Lib.hid (BI.out.trans (hv6.mono BI.out.size)), Lib.hid (BI0.out.trans (hv6.mono BI0.out.size))⟩
                · have hjz : ¬ (j : Int) < (p : Int) := by omega
                  have hBT := Lib.hid (BV0.out.trans (BI0.out.mono BV0.out.size))
                  go_wp2_with fail
                  go_roundg (m - (0 + 1))
                  case measure => omega
                  case rel => exact ⟨0 + 1, by go_num, by omega, Nat.le_refl _, by rw [HS.out], BI, hBT⟩
            · have hp3 : 0 < p2 := by omega
              have hp4 : (0 : Int) < (p2 : Int) := by omega
              have hp5 : ¬ m ≤ p2 - 1 := by omega
              have hp6 : ((p2 : Int) - 1).toNat = p2 - 1 := by omega
              have hp7 : ¬ (m : Int) ≤ (p2 : Int) - 1 := by omega
              have hp8 : ¬ ((p2 : Int) - 1 < 0) := by omega
              have hp9 : IntKind.i64.wrap ((p2 : Int) - 1) = (p2 : Int) - 1 := by simp [IntKind.wrap, IntKind.bits, IntKind.signed]; omega
              have hp10 : ¬ ((p2 : Int) < 1) := by omega
              have hp11 : ¬ ((m : Int) < (p2 : Int)) := by omega
              obtain ⟨u', hu'⟩ : ∃ u, gapV L (p2 - 1) = u := ⟨_, rfl⟩
              have hup := HR5.out.at' (p2 - 1) (by omega)
              rw [hu'] at hup
              have HUP := Lib.hid hup
              have hsep := HSEP.out (p2 - 1) (by have := HM.out; omega)
              rw [Nat.sub_add_cancel hp3, hu', HU.out] at hsep
              have hnle : ¬ u.n ≤ u'.u := by omega
              clear hup hu' hsep
              go_wp2_with fail
              have hdr := below_drw wr
              try simp only [List.append_eq, List.cons_append, List.nil_append]
              refine RX.wp_region_plan (fun w w' => Below w.heap.size w w') [.it (.slice (some ⟨g, 0, none⟩) m cap), .it (.int .i64 (p2 : Int)), .it (.pointer (some ⟨g, p2 * 4, none⟩)), .it (.agg #[.int .u8 u.k, .int .i64 u.n, .int .i64 u.u, .string u.t]), .it (.bool true), .it (.bool false), .it (.bool false), .it (.int .i64 (p2 : Int)), .it (.bool true), .it (.bool true), .it (.slice (some ⟨g, 0, none⟩) m cap), .it (.int .i64 (p2 : Int)), .it (.pointer (some ⟨g, p2 * 4, none⟩)), .it (.pointer (some ⟨g, p2 * 4 + 1, none⟩)), .it (.int .i64 u.n), .it (.slice (some ⟨g, 0, none⟩) m cap), .it (.int .i64 (p2 : Int)), .it (.int .i64 ((p2 : Int) - 1)), .it (.pointer (some ⟨g, (p2 - 1) * 4, none⟩)), .it (.pointer (some ⟨g, (p2 - 1) * 4 + 2, none⟩)), .it (.int .i64 u'.u), .it (.bool false), .it (.bool false), .it (.bool false)] (by kernel_rfl) (by kernel_rfl) (fun _ => Below.refl _ _) (fun _ _ _ => below_tr) ?_
              refine RX.seqP_value (fun _ => Below.refl _ _) _ (by first | rfl | simp) (fun w' hw' hctx => by (go_simp); (try first | with_reducible rfl | simp)) ?_
              simp only [Act.put, List.setIfInBounds_toArray, List.set_cons_zero, List.set_cons_succ]
              refine RX.seqP_value (fun _ => Below.refl _ _) _ (by first | rfl | simp) (fun w' hw' hctx => by (go_simp); (try first | with_reducible rfl | simp)) ?_
              simp only [Act.put, List.setIfInBounds_toArray, List.set_cons_zero, List.set_cons_succ]
              refine RX.seqP_value (fun _ => Below.refl _ _) _ (by first | rfl | simp) (fun w' hw' hctx => by (go_simp); (try first | with_reducible rfl | simp)) ?_
              simp only [Act.put, List.setIfInBounds_toArray, List.set_cons_zero, List.set_cons_succ]
              refine RX.seqP_value (fun _ => Below.refl _ _) _ (by first | rfl | simp) (fun w' hw' hctx => ?_) ?_
              · obtain ⟨c0, c1, c2, c3, c4⟩ := HUA5.out.below (below_tr hdr hw')
                go_simp
                try first | with_reducible rfl | simp
              simp only [Act.put, List.setIfInBounds_toArray, List.set_cons_zero, List.set_cons_succ]
              refine RX.seqP_call (14) #[.agg #[.int .u8 u.k, .int .i64 u.n, .int .i64 u.u, .string u.t]] (.bool true) (by first | rfl | simp) (fun w' hw' hctx => ?_) (fun w' hw' hctx => may_is u true HUOK.out w') ?_
              · go_simp
              simp only [Act.put, List.setIfInBounds_toArray, List.set_cons_zero, List.set_cons_succ]
              refine RX.seqP_value (fun _ => Below.refl _ _) _ (by first | rfl | simp) (fun w' hw' hctx => by (go_simp); (try first | with_reducible rfl | simp)) ?_
              simp only [Act.put, List.setIfInBounds_toArray, List.set_cons_zero, List.set_cons_succ]
              refine RX.seqP_value (fun _ => Below.refl _ _) _ (by first | rfl | simp) (fun w' hw' hctx => by (go_simp); (try first | with_reducible rfl | simp)) ?_
              simp only [Act.put, List.setIfInBounds_toArray, List.set_cons_zero, List.set_cons_succ]
              refine RX.seqP_value (fun _ => Below.refl _ _) _ (by first | rfl | simp) (fun w' hw' hctx => by (go_simp); (try first | with_reducible rfl | simp)) ?_
              simp only [Act.put, List.setIfInBounds_toArray, List.set_cons_zero, List.set_cons_succ]
              refine RX.seqP_value (fun _ => Below.refl _ _) _ (by first | rfl | simp) (fun w' hw' hctx => by (go_simp); (try first | with_reducible rfl | simp)) ?_
              simp only [Act.put, List.setIfInBounds_toArray, List.set_cons_zero, List.set_cons_succ]
              refine RX.seqP_value (fun _ => Below.refl _ _) _ (by first | rfl | simp) (fun w' hw' hctx => by (go_simp); (try first | with_reducible rfl | simp)) ?_
              simp only [Act.put, List.setIfInBounds_toArray, List.set_cons_zero, List.set_cons_succ]
              refine RX.seqP_value (fun _ => Below.refl _ _) _ (by first | rfl | simp) (fun w' hw' hctx => by (go_simp); (try first | with_reducible rfl | simp)) ?_
              simp only [Act.put, List.setIfInBounds_toArray, List.set_cons_zero, List.set_cons_succ]
              refine RX.seqP_value (fun _ => Below.refl _ _) _ (by first | rfl | simp) (fun w' hw' hctx => by (go_simp); (try first | with_reducible rfl | simp)) ?_
              simp only [Act.put, List.setIfInBounds_toArray, List.set_cons_zero, List.set_cons_succ]
              refine RX.seqP_value (fun _ => Below.refl _ _) _ (by first | rfl | simp) (fun w' hw' hctx => by (go_simp); (try first | with_reducible rfl | simp)) ?_
              simp only [Act.put, List.setIfInBounds_toArray, List.set_cons_zero, List.set_cons_succ]
              refine RX.seqP_value (fun _ => Below.refl _ _) _ (by first | rfl | simp) (fun w' hw' hctx => by (go_simp); (try first | with_reducible rfl | simp)) ?_
              simp only [Act.put, List.setIfInBounds_toArray, List.set_cons_zero, List.set_cons_succ]
              refine RX.seqP_value (fun _ => Below.refl _ _) _ (by first | rfl | simp) (fun w' hw' hctx => ?_) ?_
              · obtain ⟨c0, c1, c2, c3, c4⟩ := HUA5.out.below (below_tr hdr hw')
                go_simp
                try first | with_reducible rfl | simp
              simp only [Act.put, List.setIfInBounds_toArray, List.set_cons_zero, List.set_cons_succ]
              refine RX.seqP_value (fun _ => Below.refl _ _) _ (by first | rfl | simp) (fun w' hw' hctx => by (go_simp); (try first | with_reducible rfl | simp)) ?_
              simp only [Act.put, List.setIfInBounds_toArray, List.set_cons_zero, List.set_cons_succ]
              refine RX.seqP_value (fun _ => Below.refl _ _) _ (by first | rfl | simp) (fun w' hw' hctx => by (go_simp); (try first | with_reducible rfl | simp)) ?_
              simp only [Act.put, List.setIfInBounds_toArray, List.set_cons_zero, List.set_cons_succ]
              refine RX.seqP_value (fun _ => Below.refl _ _) _ (by first | rfl | simp) (fun w' hw' hctx => by (go_simp); (try first | with_reducible rfl | simp)) ?_
              simp only [Act.put, List.setIfInBounds_toArray, List.set_cons_zero, List.set_cons_succ]
              refine RX.seqP_value (fun _ => Below.refl _ _) _ (by first | rfl | simp) (fun w' hw' hctx => by (go_simp); (try first | with_reducible rfl | simp)) ?_
              simp only [Act.put, List.setIfInBounds_toArray, List.set_cons_zero, List.set_cons_succ]
              refine RX.seqP_value (fun _ => Below.refl _ _) _ (by first | rfl | simp) (fun w' hw' hctx => by (go_simp); (try first | with_reducible rfl | simp)) ?_
              simp only [Act.put, List.setIfInBounds_toArray, List.set_cons_zero, List.set_cons_succ]
              refine RX.seqP_value (fun _ => Below.refl _ _) _ (by first | rfl | simp) (fun w' hw' hctx => ?_) ?_
              · obtain ⟨c0, c1, c2, c3, c4⟩ := HUP.out.below (below_tr hdr hw')
                go_simp
                try first | with_reducible rfl | simp
              simp only [Act.put, List.setIfInBounds_toArray, List.set_cons_zero, List.set_cons_succ]
              refine RX.seqP_value (fun _ => Below.refl _ _) _ (by first | rfl | simp) (fun w' hw' hctx => by (go_simp); (try first | with_reducible rfl | simp)) ?_
              simp only [Act.put, List.setIfInBounds_toArray, List.set_cons_zero, List.set_cons_succ]
              refine RX.seqP_value (fun _ => Below.refl _ _) _ (by first | rfl | simp) (fun w' hw' hctx => by (go_simp); (try first | with_reducible rfl | simp)) ?_
              simp only [Act.put, List.setIfInBounds_toArray, List.set_cons_zero, List.set_cons_succ]
              refine RX.seqP_value (fun _ => Below.refl _ _) _ (by first | rfl | simp) (fun w' hw' hctx => by (go_simp); (try first | with_reducible rfl | simp)) ?_
              simp only [Act.put, List.setIfInBounds_toArray, List.set_cons_zero, List.set_cons_succ]
              refine RX.seqP_nil (fun v5 hR hctx _ => ?_)
              have hv5 := below_tr hdr hR
              clear hctx hR
              have BV := Lib.hid (BU.out.trans (hv5.mono BU.out.size))
              have BV0 := Lib.hid (BU0.out.trans (hv5.mono BU0.out.size))
              have HUAV := Lib.hid (HUA5.out.below hv5)
              clear hv5 hdr
              go_wp2_with fail
              go_loopg [13] p (fun gi s13 wi => ∃ j : Nat, s13 = .int .i64 j ∧ j ≤ p ∧ p - j ≤ gi ∧ Hid (Below w.heap.size w wi) ∧ Hid (Below v5.heap.size v5 wi))
              case atStart => exact ⟨0, rfl, Nat.zero_le _, by omega, BV, Lib.hid (Below.refl _ _)⟩
              case round =>
                obtain ⟨j, rfl, hjn, hgj, BI, BI0⟩ := hrel
                by_cases hj : j < p
                · have hjz : (j : Int) < (p : Int) := by omega
                  have z1 : ¬ p ≤ j := by omega
                  have hj0 := HAT.out j hj
                  have hno := HAP.out p2 j (by have := HM.out; omega) hj
                  obtain ⟨x, hx⟩ : ∃ x, D j = x := ⟨_, rfl⟩
                  rw [hx] at hj0 hno
                  rw [HU.out] at hno
                  have HX := Lib.hid ((((hj0.below HE.out).below BV0.out).below BI0.out))
                  have HY := Lib.hid (HUAV.out.below BI0.out)
                  have HMM := Lib.hid hno
                  clear hj0 hno hx
                  go_wp2_with fail
                  have hdr := below_drw wr
                  try simp only [List.append_eq, List.cons_append, List.nil_append]
                  refine RX.wp_region_plan (fun w w' => Below w.heap.size w w') [.it (.slice (some ⟨g, 0, none⟩) m cap), .it (.int .i64 (p2 : Int)), .it (.pointer (some ⟨g, p2 * 4, none⟩)), .it (.agg #[.int .u8 u.k, .int .i64 u.n, .int .i64 u.u, .string u.t]), .it (.slice (some ⟨b, o, none⟩) p c), .it (.int .i64 (j : Int)), .it (.pointer (some ⟨b, o + j * 4, none⟩)), .it (.agg #[.int .u8 x.k, .int .i64 x.n, .int .i64 x.u, .string x.t]), .it (.bool false)] (by kernel_rfl) (by kernel_rfl) (fun _ => Below.refl _ _) (fun _ _ _ => below_tr) ?_
                  refine RX.seqP_value (fun _ => Below.refl _ _) _ (by first | rfl | simp) (fun w' hw' hctx => by (go_simp); (try first | with_reducible rfl | simp)) ?_
                  simp only [Act.put, List.setIfInBounds_toArray, List.set_cons_zero, List.set_cons_succ]
                  refine RX.seqP_value (fun _ => Below.refl _ _) _ (by first | rfl | simp) (fun w' hw' hctx => by (go_simp); (try first | with_reducible rfl | simp)) ?_
                  simp only [Act.put, List.setIfInBounds_toArray, List.set_cons_zero, List.set_cons_succ]
                  refine RX.seqP_value (fun _ => Below.refl _ _) _ (by first | rfl | simp) (fun w' hw' hctx => by (go_simp); (try first | with_reducible rfl | simp)) ?_
                  simp only [Act.put, List.setIfInBounds_toArray, List.set_cons_zero, List.set_cons_succ]
                  refine RX.seqP_value (fun _ => Below.refl _ _) _ (by first | rfl | simp) (fun w' hw' hctx => ?_) ?_
                  · obtain ⟨c0, c1, c2, c3, c4⟩ := HY.out.below (below_tr hdr hw')
                    go_simp
                    try first | with_reducible rfl | simp
                  simp only [Act.put, List.setIfInBounds_toArray, List.set_cons_zero, List.set_cons_succ]
                  refine RX.seqP_value (fun _ => Below.refl _ _) _ (by first | rfl | simp) (fun w' hw' hctx => by (go_simp); (try first | with_reducible rfl | simp)) ?_
                  simp only [Act.put, List.setIfInBounds_toArray, List.set_cons_zero, List.set_cons_succ]
                  refine RX.seqP_value (fun _ => Below.refl _ _) _ (by first | rfl | simp) (fun w' hw' hctx => by (go_simp); (try first | with_reducible rfl | simp)) ?_
                  simp only [Act.put, List.setIfInBounds_toArray, List.set_cons_zero, List.set_cons_succ]
                  refine RX.seqP_value (fun _ => Below.refl _ _) _ (by first | rfl | simp) (fun w' hw' hctx => by (go_simp); (try first | with_reducible rfl | simp)) ?_
                  simp only [Act.put, List.setIfInBounds_toArray, List.set_cons_zero, List.set_cons_succ]
                  refine RX.seqP_value (fun _ => Below.refl _ _) _ (by first | rfl | simp) (fun w' hw' hctx => ?_) ?_
                  · obtain ⟨c0, c1, c2, c3, c4⟩ := HX.out.below (below_tr hdr hw')
                    go_simp
                    try first | with_reducible rfl | simp
                  simp only [Act.put, List.setIfInBounds_toArray, List.set_cons_zero, List.set_cons_succ]
                  refine RX.seqP_call (18) #[.agg #[.int .u8 u.k, .int .i64 u.n, .int .i64 u.u, .string u.t], .agg #[.int .u8 x.k, .int .i64 x.n, .int .i64 x.u, .string x.t]] (.bool false) (by first | rfl | simp) (fun w' hw' hctx => ?_) (fun w' hw' hctx => meets_is u x false HMM.out w') ?_
                  · go_simp
                  simp only [Act.put, List.setIfInBounds_toArray, List.set_cons_zero, List.set_cons_succ]
                  refine RX.seqP_nil (fun v6 hR hctx _ => ?_)
                  have hv6 := below_tr hdr hR
                  clear hctx hR
                  go_wp2_with fail
                  go_roundg (p - (j + 1))
                  case measure => omega
                  case rel => exact ⟨j + 1, by go_num, by omega, Nat.le_refl _, Lib.hid (BI.out.trans (hv6.mono BI.out.size)), Lib.hid (BI0.out.trans (hv6.mono BI0.out.size))⟩
                · have hjz : ¬ (j : Int) < (p : Int) := by omega
                  have hBT := Lib.hid (BV0.out.trans (BI0.out.mono BV0.out.size))
                  go_wp2_with fail
                  go_roundg (m - (p2 + 1))
                  case measure => omega
                  case rel => exact ⟨p2 + 1, by go_num, by omega, Nat.le_refl _, by rw [HS.out], BI, hBT⟩
        · obtain rfl : p2 = m := by omega
          have hltz2 : ¬ (p2 : Int) < (p2 : Int) := by omega
          have hfin : inG L p2 z = q0 := by rw [HM.out]; exact HFIN.out
          rw [hfin]
          go_wp2_with fail
          go_ret
          exact ⟨by simp, BT.out⟩

theorem gapAt_len' (D : Nat → Val) (lo u : Int) (k n : Nat) (hk : k ≤ n) : (gapEnd (gapAt D lo k).1 u (gapAt D lo k).2).length ≤ n + 1 := by
  have := gapAt_len D lo k
  unfold gapEnd
  split
  · simp; omega
  · omega

theorem GapsS.exists_short (v : Val) (n : Nat) (D : Nat → Val) (hok : ∀ i, i < n → okS (D i) = true) : ∃ L, GapsS v D n L ∧ L.length ≤ n + 1 := by
  obtain ⟨D', hp, hs⟩ : ∃ D' : Nat → Val, ((List.range n).map D').Perm ((List.range n).map D) ∧ ∀ i j, i < j → j < n → (D' i).n ≤ (D' j).n := by
    let L := ((List.range n).map D).mergeSort (fun a b => decide (a.n ≤ b.n))
    have hl : L.length = n := by simp [L, List.length_mergeSort]
    have hp : L.Perm ((List.range n).map D) := List.mergeSort_perm _ _
    have hs : L.Pairwise (fun a b => decide (a.n ≤ b.n) = true) := List.pairwise_mergeSort (fun a b c h1 h2 => by simp at *; omega) (fun a b => by simp; omega) _
    refine ⟨fun i => L.getD i Val.zero, ?_, fun i j hij hj => ?_⟩
    · have e : (List.range n).map (fun i => L.getD i Val.zero) = L := by
        apply List.ext_getElem
        · simp [hl]
        · intro i h1 h2
          simp [h2]
      rw [e]
      exact hp
    · have := List.pairwise_iff_getElem.1 hs i j (by omega) (by omega) hij
      simp [show i < L.length by omega, show j < L.length by omega]
      simpa using this
  have hmem : ∀ j, j < n → okS (D' j) = true := fun j hj => by
    have : D' j ∈ (List.range n).map D := hp.mem_iff.1 (List.mem_map.2 ⟨j, by simpa using hj, rfl⟩)
    obtain ⟨i, hi, e⟩ := List.mem_map.1 this
    rw [← e]
    exact hok i (by simpa using hi)
  obtain ⟨k, hk, hki⟩ := turns_at (fun i => v.u ≤ (D' i).n) n (fun i j hij hj h => by
    rcases Nat.lt_or_eq_of_le hij with q | rfl
    · have := hs i j q hj; omega
    · exact h)
  exact ⟨_, gaps_end D' D n k v hk (fun j hj => okS_lt (hmem j hj)) hs (fun i hi => by
    have := hki i (by omega)
    rcases Int.lt_or_le (D' i).n v.u with q | q
    · exact q
    · have := this.2 q; omega) (fun i hi hk' => (hki i hi).1 hk') hp, gapAt_len' D' v.n v.u k n hk⟩

theorem free_law (v : Val) (r : Rw) (z : Int) (w : World) (hin : r.In w) :
    Calls Try.prog 7 #[.agg #[.int .u8 v.k, .int .i64 v.n, .int .i64 v.u, .string v.t], .slice r.a r.len r.cap, .int .i64 z] w fun e w' => e = .returned (.bool true) ∧ Below w.heap.size w w' := by
  obtain ⟨a, n, c, D⟩ := r
  rcases Nat.lt_or_ge 100 n with h | h
  · exact freel_a v a n c h z w
  have hc : c ≤ 9223372036854775807 := by have h2 : c ≤ maxLen := hin.cm; unfold maxLen at h2; omega
  have hl : SlV w a n c D := ⟨hin.lc, hc, by omega, hin.at'⟩
  cases hv : okS v
  · exact freel_b v a n c h D z w hl (.inl hv)
  cases hb : ((List.range n).map D).any (fun v => !okS v)
  · have hok : ∀ i, i < n → okS (D i) = true := fun i hi => by
      rw [List.any_eq_false] at hb
      have := hb (D i) (List.mem_map.2 ⟨i, by simpa using hi, rfl⟩)
      simpa using this
    obtain ⟨L, hL, hlen⟩ := GapsS.exists_short v n D hok
    rcases Nat.eq_zero_or_pos n with rfl | hn
    · exact freel_0 v a c D z w hl hv hok L hL (by omega)
    · obtain ⟨b, o, e, hat⟩ := hin.at' hn
      obtain rfl : a = some ⟨b, o, none⟩ := e
      exact freel_n v b o n c h hn D z w hl hat hv hok L hL (by omega)
  · exact freel_b v a n c h D z w hl (.inr ⟨hv, hb⟩)
end Go.Proofs.Ytnifpphimodonaa
