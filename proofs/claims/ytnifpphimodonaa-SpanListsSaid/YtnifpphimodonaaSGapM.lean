/-
  The gaps, as the iterator finds them. Plain mathematics.
-/
import Derived.Test.YtnifpphimodonaaSMath
namespace Go.Proofs.Ytnifpphimodonaa

/-- From where on, and the gaps so far, when i of the others have been gone through. -/
def gapAt (D : Nat → Val) (lo : Int) : Nat → Int × List (Int × Int)
  | 0 => (lo, [])
  | i + 1 => (max (gapAt D lo i).1 (D i).u, if (gapAt D lo i).1 < (D i).n then (gapAt D lo i).2 ++ [((gapAt D lo i).1, (D i).n)] else (gapAt D lo i).2)

def gapEnd (f u : Int) (L : List (Int × Int)) : List (Int × Int) := if f < u then L ++ [(f, u)] else L

structure GInv (D : Nat → Val) (n : Nat) (lo u : Int) (i : Nat) (f : Int) (L : List (Int × Int)) : Prop where
  ge : lo ≤ f
  us : ∀ j, j < i → (D j).u ≤ f
  lt : ∀ g ∈ L, g.1 < g.2
  sep : L.Pairwise fun a b => a.2 < b.1
  lf : ∀ g ∈ L, g.2 < f
  lu : ∀ g ∈ L, g.2 < u
  up : ∀ g ∈ L, ∀ t, i ≤ t → t < n → g.2 ≤ (D t).n
  iff : ∀ x : Int, (∃ g ∈ L, g.1 ≤ x ∧ x < g.2) ↔ (lo ≤ x ∧ x < f ∧ ∀ j, j < i → ¬ ((D j).n ≤ x ∧ x < (D j).u))

theorem gInv (D : Nat → Val) (n k : Nat) (lo u : Int) (hk : k ≤ n) (hok : ∀ j, j < n → (D j).n < (D j).u) (hs : ∀ i j, i < j → j < n → (D i).n ≤ (D j).n) (hu : ∀ i, i < k → (D i).n < u) :
    ∀ i, i ≤ k → GInv D n lo u i (gapAt D lo i).1 (gapAt D lo i).2 := by
  intro i
  induction i with
  | zero =>
    intro _
    refine ⟨Int.le_refl _, fun j hj => by omega, ?_, List.Pairwise.nil, ?_, ?_, ?_, fun x => ?_⟩
    · intro g hg; cases hg
    · intro g hg; cases hg
    · intro g hg; cases hg
    · intro g hg; cases hg
    · constructor
      · rintro ⟨g, hg, _⟩; cases hg
      · rintro ⟨h1, h2, _⟩
        exact absurd h2 (by show ¬ x < lo; omega)
  | succ i ih =>
    intro hi
    have h := ih (by omega)
    have ho := hok i (by omega)
    have hou := hu i (by omega)
    generalize hf : (gapAt D lo i).1 = f at h
    generalize hL : (gapAt D lo i).2 = L at h
    have e1 : (gapAt D lo (i + 1)).1 = max f (D i).u := by rw [← hf]; rfl
    by_cases hlt : f < (D i).n
    · have e2 : (gapAt D lo (i + 1)).2 = L ++ [(f, (D i).n)] := by
        show (if (gapAt D lo i).1 < (D i).n then _ else _) = _
        rw [hf, hL, if_pos hlt]
      rw [e1, e2]
      refine ⟨by have := h.ge; omega, fun j hj => ?_, ?_, ?_, ?_, ?_, ?_, fun x => ?_⟩
      · rcases Nat.lt_succ_iff_lt_or_eq.1 hj with g | rfl
        · have := h.us j g; omega
        · omega
      · intro g hg
        rcases List.mem_append.1 hg with hg | hg
        · exact h.lt g hg
        · rw [List.mem_singleton] at hg; subst hg; exact hlt
      · rw [List.pairwise_append]
        refine ⟨h.sep, List.pairwise_singleton _ _, fun a ha b hb => ?_⟩
        rw [List.mem_singleton] at hb; subst hb
        exact h.lf a ha
      · intro g hg
        rcases List.mem_append.1 hg with hg | hg
        · have := h.lf g hg; omega
        · rw [List.mem_singleton] at hg; subst hg; show (D i).n < _; omega
      · intro g hg
        rcases List.mem_append.1 hg with hg | hg
        · exact h.lu g hg
        · rw [List.mem_singleton] at hg; subst hg; exact hou
      · intro g hg t ht htn
        rcases List.mem_append.1 hg with hg | hg
        · exact h.up g hg t (by omega) htn
        · rw [List.mem_singleton] at hg; subst hg; exact hs i t (by omega) htn
      · have hx := h.iff x
        have e : (∃ g ∈ L ++ [(f, (D i).n)], g.1 ≤ x ∧ x < g.2) ↔ (∃ g ∈ L, g.1 ≤ x ∧ x < g.2) ∨ (f ≤ x ∧ x < (D i).n) := by
          simp [or_and_right, exists_or]
        rw [e, hx]
        clear e hx
        constructor
        · rintro (⟨h1, h2, h3⟩ | ⟨h1, h2⟩)
          · refine ⟨h1, by omega, fun j hj => ?_⟩
            rcases Nat.lt_succ_iff_lt_or_eq.1 hj with g | rfl
            · exact h3 j g
            · omega
          · refine ⟨by have := h.ge; omega, by omega, fun j hj => ?_⟩
            rcases Nat.lt_succ_iff_lt_or_eq.1 hj with g | rfl
            · have := h.us j g; omega
            · omega
        · rintro ⟨h1, h2, h3⟩
          have := h3 i (by omega)
          rcases Int.lt_or_le x f with g | g
          · exact .inl ⟨h1, g, fun j hj => h3 j (by omega)⟩
          · exact .inr ⟨g, by omega⟩
    · have e2 : (gapAt D lo (i + 1)).2 = L := by
        show (if (gapAt D lo i).1 < (D i).n then _ else _) = _
        rw [hf, hL, if_neg hlt]
      rw [e1, e2]
      refine ⟨by have := h.ge; omega, fun j hj => ?_, h.lt, h.sep, ?_, h.lu, fun g hg t ht htn => h.up g hg t (by omega) htn, fun x => ?_⟩
      · rcases Nat.lt_succ_iff_lt_or_eq.1 hj with g | rfl
        · have := h.us j g; omega
        · omega
      · intro g hg
        have := h.lf g hg; omega
      · rw [h.iff x]
        constructor
        · rintro ⟨h1, h2, h3⟩
          refine ⟨h1, by omega, fun j hj => ?_⟩
          rcases Nat.lt_succ_iff_lt_or_eq.1 hj with g | rfl
          · exact h3 j g
          · obtain ⟨g, hg, h4, h5⟩ := (h.iff x).2 ⟨h1, h2, h3⟩
            have := h.up g hg j (Nat.le_refl _) (by omega)
            omega
        · rintro ⟨h1, h2, h3⟩
          have := h3 i (by omega)
          exact ⟨h1, by omega, fun j hj => h3 j (by omega)⟩

theorem gaps_end (D D0 : Nat → Val) (n k : Nat) (v : Val) (hk : k ≤ n) (hok : ∀ j, j < n → (D j).n < (D j).u) (hs : ∀ i j, i < j → j < n → (D i).n ≤ (D j).n) (hu : ∀ i, i < k → (D i).n < v.u) (hu2 : ∀ i, i < n → k ≤ i → v.u ≤ (D i).n)
    (hp : ((List.range n).map D).Perm ((List.range n).map D0)) : GapsS v D0 n (gapEnd (gapAt D v.n k).1 v.u (gapAt D v.n k).2) := by
  have h := gInv D n k v.n v.u hk hok hs hu k (Nat.le_refl _)
  generalize (gapAt D v.n k).1 = f at h
  generalize (gapAt D v.n k).2 = L at h
  have all : ∀ x : Int, (∀ j, j < n → ¬ ((D0 j).n ≤ x ∧ x < (D0 j).u)) ↔ (∀ j, j < n → ¬ ((D j).n ≤ x ∧ x < (D j).u)) := by
    intro x
    have e : ∀ E : Nat → Val, (∀ j, j < n → ¬ ((E j).n ≤ x ∧ x < (E j).u)) ↔ (∀ v ∈ (List.range n).map E, ¬ (v.n ≤ x ∧ x < v.u)) := fun E => by simp
    rw [e D0, e D]
    exact ⟨fun h v hv => h v (hp.mem_iff.1 hv), fun h v hv => h v (hp.mem_iff.2 hv)⟩
  unfold gapEnd
  by_cases hf : f < v.u
  · rw [if_pos hf]
    refine ⟨?_, ?_, fun x => ?_⟩
    · intro g hg
      rcases List.mem_append.1 hg with hg | hg
      · exact h.lt g hg
      · rw [List.mem_singleton] at hg; subst hg; exact hf
    · rw [List.pairwise_append]
      refine ⟨h.sep, List.pairwise_singleton _ _, fun a ha b hb => ?_⟩
      rw [List.mem_singleton] at hb; subst hb
      exact h.lf a ha
    · rw [all x]
      have e : (∃ g ∈ L ++ [(f, v.u)], g.1 ≤ x ∧ x < g.2) ↔ (∃ g ∈ L, g.1 ≤ x ∧ x < g.2) ∨ (f ≤ x ∧ x < v.u) := by
        simp [or_and_right, exists_or]
      rw [e]
      clear e
      constructor
      · rintro (hx | ⟨h1, h2⟩)
        · obtain ⟨g, hg, g1, g2⟩ := hx
          obtain ⟨h1, h2, h3⟩ := (h.iff x).1 ⟨g, hg, g1, g2⟩
          have := h.lu g hg
          refine ⟨h1, by omega, fun j hj => ?_⟩
          rcases Nat.lt_or_ge j k with q | q
          · exact h3 j q
          · have := hu2 j hj q; omega
        · refine ⟨by have := h.ge; omega, h2, fun j hj => ?_⟩
          rcases Nat.lt_or_ge j k with q | q
          · have := h.us j q; omega
          · have := hu2 j hj q; omega
      · rintro ⟨h1, h2, h3⟩
        rcases Int.lt_or_le x f with g | g
        · exact .inl ((h.iff x).2 ⟨h1, g, fun j hj => h3 j (by omega)⟩)
        · exact .inr ⟨g, h2⟩
  · rw [if_neg hf]
    refine ⟨h.lt, h.sep, fun x => ?_⟩
    rw [all x]
    constructor
    · rintro ⟨g, hg, g1, g2⟩
      obtain ⟨h1, h2, h3⟩ := (h.iff x).1 ⟨g, hg, g1, g2⟩
      have := h.lu g hg
      refine ⟨h1, by omega, fun j hj => ?_⟩
      rcases Nat.lt_or_ge j k with q | q
      · exact h3 j q
      · have := hu2 j hj q; omega
    · rintro ⟨h1, h2, h3⟩
      exact (h.iff x).2 ⟨h1, by omega, fun j hj => h3 j (by omega)⟩
end Go.Proofs.Ytnifpphimodonaa
