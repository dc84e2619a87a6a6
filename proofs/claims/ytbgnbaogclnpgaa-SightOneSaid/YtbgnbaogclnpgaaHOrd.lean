/-
  Numbers in the order of a heap (stage 11).
-/
import Derived.Test.YtbgnbaogclnpgaaChecked
namespace Go.Proofs.Ytbgnbaogclnpgaa
set_option linter.unusedVariables false
set_option linter.unusedSimpArgs false

/-- Two of them change places. -/
def swp (fr : Nat → Nat) (i j : Nat) : Nat → Nat := fun k => if k = i then fr j else if k = j then fr i else fr k

/-! ### Order in a heap -/

/-- No number below another one is greater, but perhaps at j. -/
def HeapO (fr : Nat → Nat) (n : Nat) : Prop := ∀ k, 0 < k → k < n → fr ((k - 1) / 2) ≤ fr k
def UpO (fr : Nat → Nat) (n j : Nat) : Prop := (∀ k, 0 < k → k < n → k ≠ j → fr ((k - 1) / 2) ≤ fr k) ∧ ∀ k, 0 < k → k < n → (k - 1) / 2 = j → 0 < j → fr ((j - 1) / 2) ≤ fr k
def DownO (fr : Nat → Nat) (n i : Nat) : Prop := (∀ k, 0 < k → k < n → (k - 1) / 2 ≠ i → fr ((k - 1) / 2) ≤ fr k) ∧ ∀ k, 0 < k → k < n → (k - 1) / 2 = i → 0 < i → fr ((i - 1) / 2) ≤ fr k

/-- The same numbers, in another row. -/
structure Same (fr fr' : Nat → Nat) (n : Nat) : Prop where
  ex : ∃ p q : Nat → Nat, (∀ k, k < n → p k < n ∧ q k < n ∧ q (p k) = k ∧ p (q k) = k) ∧ ∀ k, k < n → fr' k = fr (p k)

theorem Same.refl (fr : Nat → Nat) (n : Nat) : Same fr fr n := ⟨fun k => k, fun k => k, fun k hk => ⟨hk, hk, rfl, rfl⟩, fun _ _ => rfl⟩
theorem Same.trans {fr fr1 fr2 : Nat → Nat} {n : Nat} (h : Same fr fr1 n) (h2 : Same fr1 fr2 n) : Same fr fr2 n := by
  obtain ⟨p, q, h1, h3⟩ := h
  obtain ⟨p2, q2, h4, h5⟩ := h2
  refine ⟨fun k => p (p2 k), fun k => q2 (q k), fun k hk => ?_, fun k hk => ?_⟩
  · obtain ⟨a1, a2, a3, a4⟩ := h4 k hk
    obtain ⟨b1, b2, b3, b4⟩ := h1 _ a1
    obtain ⟨c1, c2, c3, c4⟩ := h1 k hk
    obtain ⟨d1, d2, d3, d4⟩ := h4 _ c2
    exact ⟨b1, d2, by show q2 (q (p (p2 k))) = k; rw [b3, a3], by show p (p2 (q2 (q k))) = k; rw [d4, c4]⟩
  · rw [h5 k hk, h3 _ (h4 k hk).1]
theorem Same.swp (fr : Nat → Nat) {n i j : Nat} (hi : i < n) (hj : j < n) : Same fr (swp fr i j) n := by
  refine ⟨fun k => if k = i then j else if k = j then i else k, fun k => if k = i then j else if k = j then i else k, fun k hk => ?_, fun k hk => ?_⟩
  · by_cases h1 : k = i
    · subst h1
      by_cases h2 : j = k
      · subst h2; simp [hk]
      · simp [h2, hk, hj]
    · by_cases h2 : k = j
      · subst h2; simp [h1, hk, hi]
      · simp [h1, h2, hk]
  · unfold Go.Proofs.Ytbgnbaogclnpgaa.swp
    by_cases h1 : k = i
    · simp [h1]
    · by_cases h2 : k = j
      · simp [h2]; split <;> simp_all
      · simp [h1, h2]

theorem Same.inj {fr fr' : Nat → Nat} {n : Nat} (h : Same fr fr' n) (hi : ∀ j k, j < n → k < n → fr j = fr k → j = k) : ∀ j k, j < n → k < n → fr' j = fr' k → j = k := by
  obtain ⟨p, q, h1, h2⟩ := h
  intro j k hj hk e
  rw [h2 j hj, h2 k hk] at e
  have := hi _ _ (h1 j hj).1 (h1 k hk).1 e
  rw [← (h1 j hj).2.2.1, this, (h1 k hk).2.2.1]
theorem Same.mem {fr fr' : Nat → Nat} {n : Nat} (h : Same fr fr' n) (s : Nat) : (∃ j, j < n ∧ fr' j = s) ↔ ∃ j, j < n ∧ fr j = s := by
  obtain ⟨p, q, h1, h2⟩ := h
  constructor
  · rintro ⟨j, hj, rfl⟩
    exact ⟨p j, (h1 j hj).1, (h2 j hj).symm⟩
  · rintro ⟨j, hj, rfl⟩
    exact ⟨q j, (h1 j hj).2.1, by rw [h2 _ (h1 j hj).2.1, (h1 j hj).2.2.2]⟩

/-- One step upwards. -/
theorem UpO.step {fr : Nat → Nat} {n j : Nat} (h : UpO fr n j) (hj : j < n) (h0 : 0 < j) (hlt : fr j < fr ((j - 1) / 2)) : UpO (swp fr ((j - 1) / 2) j) n ((j - 1) / 2) := by
  obtain ⟨h1, h2⟩ := h
  obtain ⟨i, hi⟩ : ∃ i, (j - 1) / 2 = i := ⟨_, rfl⟩
  rw [hi] at hlt h2 ⊢
  have hij : i < j := by omega
  refine ⟨fun k k0 kn kj => ?_, fun k k0 kn ki i0 => ?_⟩
  · have g := h1 k k0 kn
    unfold swp
    by_cases e1 : (k - 1) / 2 = i
    · rw [if_pos e1, if_neg kj]
      by_cases e2 : k = j
      · rw [if_pos e2]; omega
      · rw [if_neg e2]
        have := g e2
        rw [e1] at this
        omega
    · rw [if_neg e1]
      by_cases e2 : (k - 1) / 2 = j
      · rw [if_pos e2, if_neg kj, if_neg (by omega)]
        exact h2 k k0 kn e2 h0
      · rw [if_neg e2, if_neg kj, if_neg (by rintro rfl; exact e1 hi)]
        exact g (by rintro rfl; exact e1 hi)
  · unfold swp
    have g := h1 i i0 (by omega) (by omega)
    rw [if_neg (show ¬ (i - 1) / 2 = i by omega), if_neg (show ¬ (i - 1) / 2 = j by omega), if_neg (show ¬ k = i by omega)]
    by_cases e2 : k = j
    · rw [if_pos e2]; exact g
    · rw [if_neg e2]
      have := h1 k k0 kn e2
      rw [ki] at this
      omega

theorem UpO.done {fr : Nat → Nat} {n j : Nat} (h : UpO fr n j) (hd : j = 0 ∨ ¬ fr j < fr ((j - 1) / 2)) : HeapO fr n := by
  intro k k0 kn
  by_cases e : k = j
  · subst e
    rcases hd with hd | hd
    · omega
    · omega
  · exact h.1 k k0 kn e

/-- One step downwards: c is the lesser one of those below i. -/
theorem DownO.step {fr : Nat → Nat} {n i c : Nat} (h : DownO fr n i) (hc : c < n) (hci : (c - 1) / 2 = i) (c0 : 0 < c) (hmin : ∀ k, 0 < k → k < n → (k - 1) / 2 = i → fr c ≤ fr k) (hlt : fr c < fr i) : DownO (swp fr i c) n c := by
  obtain ⟨h1, h2⟩ := h
  have hic : i < c := by omega
  refine ⟨fun k k0 kn kc => ?_, fun k k0 kn ki _ => ?_⟩
  · unfold swp
    by_cases e1 : (k - 1) / 2 = i
    · rw [if_pos e1, if_neg (show ¬ k = i by omega)]
      by_cases e2 : k = c
      · rw [if_pos e2]; omega
      · rw [if_neg e2]; exact hmin k k0 kn e1
    · rw [if_neg e1, if_neg kc]
      by_cases e2 : k = i
      · rw [if_pos e2]
        subst e2
        exact h2 c c0 hc hci k0
      · rw [if_neg e2]
        by_cases e3 : k = c
        · subst e3; exact absurd hci e1
        · rw [if_neg e3]; exact h1 k k0 kn e1
  · unfold swp
    rw [hci, if_pos rfl, if_neg (show ¬ k = i by omega), if_neg (show ¬ k = c by omega)]
    have := h1 k k0 kn (by omega)
    rw [ki] at this
    exact this

theorem DownO.done {fr : Nat → Nat} {n i : Nat} (h : DownO fr n i) (hd : ∀ k, 0 < k → k < n → (k - 1) / 2 = i → fr i ≤ fr k) : HeapO fr n := by
  intro k k0 kn
  by_cases e : (k - 1) / 2 = i
  · rw [e]; exact hd k k0 kn e
  · exact h.1 k k0 kn e

/-- The first one is the least one. -/
theorem HeapO.least {fr : Nat → Nat} {n : Nat} (h : HeapO fr n) : ∀ k, k < n → fr 0 ≤ fr k := by
  intro k
  induction k using Nat.strongRecOn with
  | _ k ih =>
    intro hk
    by_cases h0 : k = 0
    · subst h0; exact Nat.le_refl _
    · exact Nat.le_trans (ih ((k - 1) / 2) (by omega) (by omega)) (h k (by omega) hk)

end Go.Proofs.Ytbgnbaogclnpgaa
