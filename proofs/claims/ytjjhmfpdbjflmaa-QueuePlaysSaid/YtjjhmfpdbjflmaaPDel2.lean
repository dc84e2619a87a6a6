/-
  slices.Delete and slices.Clone at requests (stage 14).
-/
import Derived.Test.YtjjhmfpdbjflmaaPDel
namespace Go.Proofs.Ytjjhmfpdbjflmaa
open Go.RowKit Go.Shelf Go.Lib
set_option linter.unusedVariables false

def flatQ (l : PL) : List Value := l.flatMap rqC
theorem flatQ_len : ∀ l : PL, (flatQ l).length = l.length * 2
  | [] => rfl
  | x :: l => by
    have := flatQ_len l
    simp only [flatQ, List.flatMap_cons, List.length_append, List.length_cons] at this ⊢
    rw [this]
    simp [rqC]
    omega
theorem flatQ_one (l : PL) : ∀ u ∈ flatQ l, u.oneCell' = true := by
  intro u hu
  simp only [flatQ, List.mem_flatMap] at hu
  obtain ⟨x, _, h⟩ := hu
  simp only [rqC, List.mem_cons, List.not_mem_nil, or_false] at h
  rcases h with rfl | rfl <;> rfl
theorem flatQ_get : ∀ (l : PL) (i c : Nat) (x : Int × Int), l[i]? = some x → c < 2 → (flatQ l)[i * 2 + c]? = (rqC x)[c]?
  | [], i, c, x, h, _ => by simp at h
  | y :: l, 0, c, x, h, hc => by
    simp at h
    subst h
    show (rqC y ++ flatQ l)[0 * 2 + c]? = _
    rw [List.getElem?_append_left (by simp [rqC]; omega)]
    congr 1
    omega
  | y :: l, i + 1, c, x, h, hc => by
    show (rqC y ++ flatQ l)[(i + 1) * 2 + c]? = _
    rw [List.getElem?_append_right (by simp [rqC]; omega)]
    have := flatQ_get l i c x (by simpa using h) hc
    rw [show (i + 1) * 2 + c - (rqC y).length = i * 2 + c by simp [rqC]; omega, this]
theorem RowQ.own {W : World} {s : Value} {l : PL} (h : RowQ W s l) : W.ownsRow 0 65 2 s l.length (flatQ l) := by
  obtain ⟨⟨xs, h1, h2⟩, h3⟩ := h
  have : xs = flatQ l := by
    apply List.ext_getElem?
    intro i
    by_cases hi : i < l.length * 2
    · have e : i = i / 2 * 2 + i % 2 := by omega
      have hj : i / 2 < l.length := by omega
      have hg : l[i / 2]? = some (l.getD (i / 2) (0, 0)) := by rw [List.getElem?_eq_getElem hj]; simp [hj]
      rw [e, flatQ_get l _ _ _ hg (by omega)]
      obtain ⟨v, hv⟩ : ∃ v, (rqC (l.getD (i / 2) (0, 0)))[i % 2]? = some v := ⟨(rqC (l.getD (i / 2) (0, 0)))[i % 2]'(by simp [rqC]; omega), List.getElem?_eq_getElem (by simp [rqC]; omega)⟩
      rw [hv]
      exact h2 _ hj _ v hv
    · rw [List.getElem?_eq_none (by rw [h1.1]; omega), List.getElem?_eq_none (by rw [flatQ_len]; omega)]
  rw [← this]
  exact h1
theorem RowQ.of_own {W : World} {s : Value} {base : Nat} {l : PL} (h : W.ownsRow base 65 2 s l.length (flatQ l)) : RowQ W s l := by
  refine ⟨⟨_, ⟨h.1, ?_⟩, fun j hj c v hv => ?_⟩, fun _ _ => rfl⟩
  · rcases h.2 with h0 | ⟨b, cap, cur, rfl, _, rest⟩
    · exact .inl h0
    · exact .inr ⟨b, cap, cur, rfl, Nat.zero_le _, rest⟩
  · have hc : c < 2 := by have := (List.getElem?_eq_some_iff.1 hv).1; simpa [rqC] using this
    rw [flatQ_get l j c (l.getD j (0, 0)) (by rw [List.getElem?_eq_getElem hj]; simp [hj]) hc]
    exact hv

/-- Requests are written one behind the other. -/
theorem RowP.sets {b n c : Nat} : ∀ (m : PL) (i : Nat) {W : World} {E : Nat → Int × Int}, i + m.length ≤ n → RowP W b n c E → ∃ E', RowP (W.setCells b (i * 2) (flatQ m)) b n c E' ∧ (∀ t, t < i → E' t = E t) ∧ (∀ (t : Nat) p, m[t]? = some p → E' (i + t) = p) ∧ Touch (fun k => k = b) W (W.setCells b (i * 2) (flatQ m))
  | [], i, W, E, hi, h => ⟨E, h, fun _ _ => rfl, fun t p hp => by simp at hp, Touch.refl _ _⟩
  | p :: m, i, W, E, hi, h => by
    have hi' : i + 1 + m.length ≤ n := by simp at hi; omega
    obtain ⟨E', h1, h2, h3, h4⟩ := RowP.sets m (i + 1) hi' (h.put (i := i) (by omega) p)
    have e : W.setCells b (i * 2) (flatQ (p :: m)) = (putP W b i p).setCells b ((i + 1) * 2) (flatQ m) := by
      show W.setCells b (i * 2) (.int .i64 p.1 :: .int .u8 p.2 :: flatQ m) = _
      rw [World.setCells, World.setCells]
      unfold putP
      rw [show i * 2 + 1 + 1 = (i + 1) * 2 by omega]
    rw [e]
    refine ⟨E', h1, fun t ht => ?_, fun t q hq => ?_, (putP_touch W b i p).trans h4 (fun _ _ h => h)⟩
    · rw [h2 t (by omega)]
      unfold updP
      rw [if_neg (by omega)]
    · cases t with
      | zero =>
        rw [Nat.add_zero, h2 i (by omega)]
        simp at hq
        unfold updP
        rw [if_pos rfl]; exact hq
      | succ t =>
        rw [show i + (t + 1) = i + 1 + t by omega]
        exact h3 t q (by simpa using hq)

theorem info_q : (Try.prog.info? 65).map (fun i => (i.zero, i.size, i.bytes)) = some (some (.agg #[.int .i64 0, .int .u8 0]), 2, 16) := by kernel_rfl

/-- A copy of a queue. -/
theorem cloneQ_is (s : Value) (l : PL) (hs : l.length ≤ 1000000) (w : World) (h : RowQ w s l) :
    Calls Try.prog 31 #[s] w fun e w' => ∃ v, e = .returned v ∧ RowQ w' v l ∧ (∀ k, v.ownBlock = some k → w.heap.size ≤ k) ∧ Below w.heap.size w w' := by
  obtain ⟨i0, hi, hz0, hz1, hz2⟩ := info_parts info_q
  have ho := h.own
  rcases ho.2 with ⟨rfl, hl⟩ | ⟨b, c, cur, rfl, hb, hg, hnc, hcm, hcs, hx⟩
  · have hl' : l = [] := List.length_eq_zero_iff.1 hl
    subst hl'
    refine (show Calls Try.prog 31 _ _ _ from AnyE.slices_Clone_nil Try.cloneQ 0 0 w).mono ?_
    rintro e w' ⟨rfl, rfl⟩
    exact ⟨_, rfl, RowF.nil _ _ _ _, fun k hk => (by cases hk), Below.refl _ _⟩
  · refine (show Calls Try.prog 31 _ _ _ from AnyE.slices_Clone Try.cloneQ i0 _ 2 16 hi hz0 hz1 hz2 rfl (by decide) (fun w => by kernel_rfl) b 0 l.length c (flatQ l) w (flatQ_len l) (by unfold maxLen; omega) (by omega) (fun j u hj => by
      have hjl : j < l.length * 2 := by have := (List.getElem?_eq_some_iff.1 hj).1; rwa [flatQ_len] at this
      rw [Nat.zero_add, ho.cellAt j hjl]
      exact hj) (flatQ_one l)).mono ?_
    rintro e w' ⟨v', rfl, h1, h2, h3⟩
    exact ⟨v', rfl, RowQ.of_own h1, own_ge h1, h3⟩

set_option maxRecDepth 100000 in
set_option maxHeartbeats 4000000 in
theorem delete_in (b n c i : Nat) (bef l : PL) (r : Int × Int) (hi : bef.length = i) (hn : i + 1 + l.length = n) (w : World) (hn' : n ≤ 100000) (h : RowQ w (.slice (some ⟨b, 0, none⟩) n c) (bef ++ r :: l)) :
    Calls Try.prog 57 #[.slice (some ⟨b, 0, none⟩) n c, .int .i64 i, .int .i64 (i + 1)] w fun e w' => ∃ s', e = .returned s' ∧ RowQ w' s' (bef ++ l) ∧ s'.ownBlock = some b ∧ Touch (fun k => k = b) w w' := by
  have hln : (bef ++ r :: l).length = n := by simp; omega
  have hR := RowQ.rowP hln h
  obtain ⟨hnc, hcm⟩ := hR.cap
  obtain ⟨i0, hi0, hz0, hz1, hz2⟩ := info_parts info_q
  have t22 : Try.prog.underlying 56 = some (.slice 65) := Try.underlying56
  obtain ⟨D, hD⟩ : ∃ D : Nat → Int × Int, (fun j => (bef ++ r :: l).getD j (0, 0)) = D := ⟨_, rfl⟩
  rw [hD] at hR
  have hDt : ∀ (t : Nat) p, l[t]? = some p → D (i + 1 + t) = p := fun t p hp => by
    rw [← hD]
    refine getD_of ?_
    rw [List.getElem?_append_right (by omega), hi, show i + 1 + t - i = t + 1 by omega]
    simpa using hp
  have hDb : ∀ (t : Nat) p, bef[t]? = some p → D t = p := fun t p hp => by
    rw [← hD]
    refine getD_of ?_
    rw [List.getElem?_append_left (List.getElem?_eq_some_iff.1 hp).1]
    exact hp
  have hRd : RowP w.drew b n c D := hR.below (below_drw w)
  obtain ⟨A, hA, hsrc⟩ : ∃ A : Addr, (if c = i + 1 then some (⟨b, 0, none⟩ : Addr) else some ⟨b, (i + 1) * 2, none⟩) = some A ∧ Hid (∀ t u, (flatQ l)[t]? = some u → w.drew.cell? (A.add t) = some u) := by
    by_cases h1 : c = i + 1
    · refine ⟨⟨b, 0, none⟩, by rw [if_pos h1], Lib.hid (fun t u hu => ?_)⟩
      have h0 : l = [] := List.eq_nil_of_length_eq_zero (by omega)
      subst h0
      simp [flatQ] at hu
    · refine ⟨⟨b, (i + 1) * 2, none⟩, by rw [if_neg h1], Lib.hid (fun t u hu => ?_)⟩
      have htl : t < l.length * 2 := by have := (List.getElem?_eq_some_iff.1 hu).1; rwa [flatQ_len] at this
      obtain ⟨p, hp⟩ : ∃ p, l[t / 2]? = some p := ⟨_, List.getElem?_eq_getElem (by omega)⟩
      obtain ⟨q0, q1, -, -⟩ := hRd.at (i := i + 1 + t / 2) (by omega)
      rw [hDt _ p hp] at q0 q1
      have e : t = t / 2 * 2 + t % 2 := by omega
      rw [e, flatQ_get l _ _ p hp (by omega)] at hu
      rw [Addr.add_lit, show (i + 1) * 2 + t = (i + 1 + t / 2) * 2 + t % 2 by omega]
      rcases (show t % 2 = 0 ∨ t % 2 = 1 by omega) with h2 | h2 <;> rw [h2] at hu ⊢
      · simp [rqC] at hu; rw [← hu]; exact q0
      · simp [rqC] at hu; rw [← hu]; exact q1
  have s1 : Hid ((flatQ l).length = (n - (i + 1)) * 2) := Lib.hid (by rw [flatQ_len]; omega)
  have s2 : Hid (∀ u ∈ flatQ l, u.oneCell' = true) := Lib.hid (flatQ_one l)
  have s3 : Hid (∀ t, t < (flatQ l).length → (w.drew.cell? ⟨b, 0 + i * 2 + t, none⟩).isSome = true ∧ w.drew.frozen? ⟨b, 0 + i * 2 + t, none⟩ = false) := Lib.hid (fun t ht => by
    rw [flatQ_len] at ht
    obtain ⟨h0, h1, f0, f1⟩ := hRd.at (i := i + t / 2) (by omega)
    have e : 0 + i * 2 + t = (i + t / 2) * 2 + t % 2 := by omega
    rw [e]
    rcases (show t % 2 = 0 ∨ t % 2 = 1 by omega) with h | h <;> rw [h]
    · rw [Nat.add_zero, h0, f0]; exact ⟨rfl, rfl⟩
    · rw [h1, f1]; exact ⟨rfl, rfl⟩)
  obtain ⟨W1, hW1⟩ : ∃ W1, W1 = w.drew.setCells b (0 + i * 2) (flatQ l) := ⟨_, rfl⟩
  obtain ⟨E, hE1, hE2, hE3, hE4⟩ := RowP.sets (b := b) (n := n) (c := c) l i (by omega) hRd
  have hW1' : W1 = w.drew.setCells b (i * 2) (flatQ l) := by rw [hW1, Nat.zero_add]
  rw [← hW1'] at hE1 hE4
  have hm1 : i + (n - (i + 1)) = n - 1 := by omega
  obtain ⟨vs, hvl, hcl⟩ := clearQ b (i + (n - (i + 1))) (n - (i + (n - (i + 1)))) (by omega) W1
    (fun t ht => by
      obtain ⟨h0, h1, -, -⟩ := hE1.at (i := i + (n - (i + 1)) + t / 2) (by omega)
      have e : (i + (n - (i + 1))) * 2 + t = (i + (n - (i + 1)) + t / 2) * 2 + t % 2 := by omega
      rw [e]
      rcases (show t % 2 = 0 ∨ t % 2 = 1 by omega) with h | h <;> rw [h]
      · rw [Nat.add_zero, h0]; rfl
      · rw [h1]; rfl)
    (fun t ht => by
      obtain ⟨-, -, h0, h1⟩ := hE1.at (i := i + (n - (i + 1)) + t / 2) (by omega)
      have e : (i + (n - (i + 1))) * 2 + t = (i + (n - (i + 1)) + t / 2) * 2 + t % 2 := by omega
      rw [e]
      rcases (show t % 2 = 0 ∨ t % 2 = 1 by omega) with h | h <;> rw [h]
      · rw [Nat.add_zero, h0]
      · rw [h1])
  have HROW := Lib.hid (And.intro hE1 (And.intro hE2 (And.intro hE3 hE4)))
  have HDB := Lib.hid hDb
  have HN := Lib.hid (And.intro hi hn)
  have hW : Hid (W1 = w.drew.setCells b (0 + i * 2) (flatQ l)) := Lib.hid hW1
  have hic : i ≤ c := by omega
  have hjc : i + 1 ≤ c := by omega
  have hjn : i + 1 ≤ n := by omega
  have mixed : Try.prog.follows .mixedOrders = true := by kernel_rfl
  have hz5 : (0 : Int) ≤ (i : Int) + 1 := by omega
  have hz6 : (i : Int) + 1 ≤ (n : Int) := by omega
  have hkc : i + (n - (i + 1)) < c := by omega
  have hkn : i + (n - (i + 1)) < n := by omega
  have hne : ((i : Int) == i + 1) = false := beq_eq_false_iff_ne.2 (by omega)
  clear hW1 hW1' hE1 hE2 hE3 hE4 hDt hDb hRd hR h hD hln hm1 hi hn
  go_enter Try.func57, Try.ntmps57
  go_wp2_with fail
  go_region_law_o (refine step_append_room rfl (.tmp 22) (.tmp 25) 56 rfl 65 i0 2 t22 hi0 hz1 b 0 i c (by simp [Act.eval, Act.put]) A (n - (i + 1)) (c - (i + 1)) (flatQ l) (by simp [Act.eval, Act.put]) s1.out hsrc.out s2.out (by omega) s3.out ?_; rw [← hW.out])
  go_wp2
  go_ret
  obtain ⟨q1, q2, q3, q4⟩ := HROW.out
  obtain ⟨hi, hn⟩ := HN.out
  obtain ⟨z1, z2⟩ := RowF.outs vs ((i + (n - (i + 1))) * 2) (Nat.le_refl _) (q1.cut (k := i + (n - (i + 1))) (by omega))
  refine ⟨_, rfl, (RowP.rowQ z1 ?_).1, rfl, ((Touch.of_below (below_drw w)).trans q4 (fun _ _ h => h)).trans z2 (fun _ _ h => h)⟩
  apply List.ext_getElem?
  intro t
  by_cases ht : t < i + (n - (i + 1))
  · rw [List.getElem?_map, List.getElem?_range ht]
    by_cases hti : t < i
    · obtain ⟨p, hp⟩ : ∃ p, bef[t]? = some p := ⟨_, List.getElem?_eq_getElem (by omega)⟩
      rw [List.getElem?_append_left (by omega), hp, Option.map_some, q2 t hti, HDB.out t p hp]
    · obtain ⟨p, hp⟩ : ∃ p, l[t - i]? = some p := ⟨_, List.getElem?_eq_getElem (by omega)⟩
      have := q3 (t - i) p hp
      rw [show i + (t - i) = t by omega] at this
      rw [List.getElem?_append_right (by omega), hi, hp, Option.map_some, this]
  · rw [List.getElem?_eq_none (by simp; omega), List.getElem?_eq_none (by simp; omega)]

end Go.Proofs.Ytjjhmfpdbjflmaa
