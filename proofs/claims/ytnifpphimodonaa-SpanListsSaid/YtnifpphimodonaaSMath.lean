/-
  Spans, and what the document says of them: plain mathematics, which imports nothing of the program.
-/
import Derived.WalkKit
namespace Go.Proofs.Ytnifpphimodonaa

def I64 (n : Int) : Prop := -9223372036854775808 ≤ n ∧ n ≤ 9223372036854775807
instance (n : Int) : Decidable (I64 n) := by unfold I64; infer_instance

/-- An api.Value. -/
structure Val where
  k : Int
  n : Int
  u : Int
  t : ByteArray

def Val.zero : Val := ⟨0, 0, 0, ⟨#[]⟩⟩
instance : Inhabited Val := ⟨Val.zero⟩

/-- The span from n on, below u. -/
def spanV (n u : Int) : Val := ⟨4, n, u, ⟨#[]⟩⟩

/-- Is it a valid span? -/
def okS (v : Val) : Bool := decide (v.k = 4) && (decide (v.n < v.u) && decide (v.t.toList = []))

/-- Is a number in it? -/
def hasS (v : Val) (x : Int) : Bool := okS v && (decide (v.n ≤ x) && decide (x < v.u))

/-- Do two meet? -/
def meetS (a b : Val) : Bool := okS a && (okS b && decide (max a.n b.n < min a.u b.u))

/-- What they have in common. -/
def comS (a b : Val) : Val := cond (meetS a b) (spanV (max a.n b.n) (min a.u b.u)) Val.zero

theorem okS_span {n u : Int} : okS (spanV n u) = decide (n < u) := by
  have h : (ByteArray.toList ⟨#[]⟩) = [] := by rw [ByteArray.toList_eq]
  show (decide ((4 : Int) = 4) && (decide (n < u) && decide ((ByteArray.toList ⟨#[]⟩) = []))) = _
  rw [h]
  cases decide (n < u) <;> rfl

theorem okS_zero : okS Val.zero = false := by simp [okS, Val.zero]

theorem meetS_comm (a b : Val) : meetS a b = meetS b a := by
  unfold meetS
  rw [Int.max_comm a.n, Int.min_comm a.u]
  cases okS a <;> cases okS b <;> rfl

theorem comS_comm (a b : Val) : comS a b = comS b a := by
  unfold comS
  rw [meetS_comm, Int.max_comm a.n, Int.min_comm a.u]

theorem okS_lt {v : Val} (h : okS v = true) : v.n < v.u := by
  simp only [okS, Bool.and_eq_true, decide_eq_true_eq] at h
  exact h.2.1

theorem meetS_self (a : Val) : meetS a a = okS a := by
  unfold meetS
  rw [Int.max_self, Int.min_self]
  cases h : okS a
  · rfl
  · have := okS_lt h
    simp [this]

theorem meetS_iff {a b : Val} : meetS a b = true ↔ okS a = true ∧ okS b = true ∧ a.n < b.u ∧ b.n < a.u := by
  simp only [meetS, Bool.and_eq_true, decide_eq_true_eq]
  constructor
  · rintro ⟨h1, h2, h3⟩
    exact ⟨h1, h2, by omega, by omega⟩
  · rintro ⟨h1, h2, h3, h4⟩
    have := okS_lt h1
    have := okS_lt h2
    exact ⟨h1, h2, by omega⟩

theorem hasS_iff {v : Val} {x : Int} : hasS v x = true ↔ okS v = true ∧ v.n ≤ x ∧ x < v.u := by
  simp only [hasS, Bool.and_eq_true, decide_eq_true_eq]

theorem hasS_com (a b : Val) (x : Int) : hasS (comS a b) x = (hasS a x && hasS b x) := by
  rw [Bool.eq_iff_iff, Bool.and_eq_true, hasS_iff, hasS_iff, hasS_iff]
  unfold comS
  cases h : meetS a b
  · constructor
    · rintro ⟨h1, _⟩
      rw [cond_false, okS_zero] at h1; cases h1
    · rintro ⟨⟨h1, h2, h3⟩, h4, h5, h6⟩
      have : meetS a b = true := meetS_iff.2 ⟨h1, h4, by omega, by omega⟩
      rw [h] at this
      cases this
  · have h' := meetS_iff.1 h
    have ok : okS (spanV (max a.n b.n) (min a.u b.u)) = true := by
      rw [okS_span]
      simp only [meetS, Bool.and_eq_true, decide_eq_true_eq] at h ⊢
      exact h.2.2
    simp only [cond_true, ok, true_and]
    show (max a.n b.n ≤ x ∧ x < min a.u b.u) ↔ _
    constructor
    · rintro ⟨h1, h2⟩
      exact ⟨⟨h'.1, by omega, by omega⟩, h'.2.1, by omega, by omega⟩
    · rintro ⟨⟨_, h1, h2⟩, _, h3, h4⟩
      exact ⟨by omega, by omega⟩

/-! ### The first two that meet -/

/-- (i, k, is) are the first two of f 0, .., f (n - 1) that meet. -/
def FirstS (f : Nat → Val) (n : Nat) (i k : Nat) (is : Bool) : Prop :=
  (is = true ∧ i < k ∧ k < n ∧ meetS (f i) (f k) = true ∧ (∀ a, a < i → meetS (f a) (f k) = false) ∧ ∀ a b, b < a → a < k → meetS (f b) (f a) = false) ∨
  (is = false ∧ i = 0 ∧ k = 0 ∧ ∀ a b, b < a → a < n → meetS (f b) (f a) = false)

theorem FirstS.uniq {f : Nat → Val} {n i k i' k' : Nat} {is is' : Bool} (h : FirstS f n i k is) (h' : FirstS f n i' k' is') : i = i' ∧ k = k' ∧ is = is' := by
  have no : ∀ {x y : Nat}, meetS (f x) (f y) = true → meetS (f x) (f y) = false → False := fun h1 h2 => by rw [h1] at h2; cases h2
  rcases h with ⟨rfl, h1, h2, h3, h4, h5⟩ | ⟨rfl, rfl, rfl, h5⟩ <;> rcases h' with ⟨rfl, g1, g2, g3, g4, g5⟩ | ⟨rfl, rfl, rfl, g5⟩
  · have hk : k = k' := by
      rcases Nat.lt_trichotomy k k' with h | h | h
      · exact (no h3 (g5 _ _ h1 h)).elim
      · exact h
      · exact (no g3 (h5 _ _ g1 h)).elim
    subst hk
    have hi : i = i' := by
      rcases Nat.lt_trichotomy i i' with h | h | h
      · exact (no h3 (g4 _ h)).elim
      · exact h
      · exact (no g3 (h4 _ h)).elim
    exact ⟨hi, rfl, rfl⟩
  · exact (no h3 (g5 _ _ h1 h2)).elim
  · exact (no g3 (h5 _ _ g1 g2)).elim
  · exact ⟨rfl, rfl, rfl⟩

/-- Do two of f 0, .., f (n - 1) meet? -/
def anyS (f : Nat → Val) (n : Nat) : Prop := ∃ a b, b < a ∧ a < n ∧ meetS (f b) (f a) = true

theorem anyS.mono {f : Nat → Val} {n m : Nat} (h : anyS f n) (hm : n ≤ m) : anyS f m := by
  obtain ⟨a, b, h1, h2, h3⟩ := h
  exact ⟨a, b, h1, by omega, h3⟩

theorem FirstS.none {f : Nat → Val} {n : Nat} (h : ¬ anyS f n) : FirstS f n 0 0 false :=
  .inr ⟨rfl, rfl, rfl, fun a b h1 h2 => by
    cases e : meetS (f b) (f a)
    · rfl
    · exact (h ⟨a, b, h1, h2, e⟩).elim⟩

/-- The least second one by a search; the first one that meets it. -/
theorem FirstS.some {f : Nat → Val} {n k i : Nat} (hk : k < n) (h0 : ¬ anyS f k) (h1 : anyS f (k + 1)) (hi : ∀ a, a < i → meetS (f a) (f k) = false) (hi2 : meetS (f i) (f k) = true) : FirstS f n i k true := by
  obtain ⟨a, b, h2, h3, h4⟩ := h1
  have ha : a = k := by
    rcases Nat.lt_or_ge a k with h | h
    · exact (h0 ⟨a, b, h2, h, h4⟩).elim
    · omega
  subst ha
  have hik : i < a := by
    rcases Nat.lt_or_ge i a with h | h
    · exact h
    · have := hi b (by omega)
      rw [h4] at this
      cases this
  exact .inl ⟨rfl, hik, hk, hi2, hi, fun x y hx hy => by
    cases e : meetS (f y) (f x)
    · rfl
    · exact (h0 ⟨x, y, hx, hy, e⟩).elim⟩

/-! ### Sorted neighbours -/

/-- Where no neighbours of spans that rise meet, no two meet. -/
theorem neighbours {L : List Val} (hok : ∀ v ∈ L, okS v = true) (hs : L.Pairwise fun a b => a.n ≤ b.n) (hn : ∀ i (h : i + 1 < L.length), meetS (L[i]'(by omega)) (L[i+1]) = false) : L.Pairwise fun a b => meetS a b = false := by
  have key : ∀ i j (hi : i < L.length) (hj : j < L.length), i < j → (L[i]).u ≤ (L[j]).n := by
    intro i j
    induction j with
    | zero => intro hi hj h; omega
    | succ j ih =>
      intro hi hj h
      have hm := hn j hj
      have o1 := hok _ (List.getElem_mem hi)
      have o2 := hok _ (List.getElem_mem hj)
      have o3 := hok _ (List.getElem_mem (show j < L.length by omega))
      have st : (L[j]'(by omega)).u ≤ (L[j+1]).n := by
        have hlt : (L[j]'(by omega)).n ≤ (L[j+1]).n := List.pairwise_iff_getElem.1 hs j (j + 1) (by omega) hj (by omega)
        rcases Int.lt_or_le (L[j+1]).n (L[j]'(by omega)).u with g | g
        · have := okS_lt o2
          have : meetS (L[j]'(by omega)) (L[j+1]) = true := meetS_iff.2 ⟨o3, o2, by omega, g⟩
          rw [hm] at this
          cases this
        · exact g
      rcases Nat.lt_succ_iff_lt_or_eq.1 h with g | g
      · have h1 := ih hi (by omega) g
        have := okS_lt o3
        omega
      · subst g
        exact st
  refine List.pairwise_iff_getElem.2 fun i j hi hj h => ?_
  have := key i j hi hj h
  cases e : meetS L[i] L[j]
  · rfl
  · have := meetS_iff.1 e
    omega

/-! ### The gaps -/

/-- L are the gaps that f 0, .., f (n - 1) leave of v. -/
structure GapsS (v : Val) (f : Nat → Val) (n : Nat) (L : List (Int × Int)) : Prop where
  lt : ∀ g ∈ L, g.1 < g.2
  sep : L.Pairwise fun a b => a.2 < b.1
  iff : ∀ x : Int, (∃ g ∈ L, g.1 ≤ x ∧ x < g.2) ↔ (v.n ≤ x ∧ x < v.u ∧ ∀ j, j < n → ¬ ((f j).n ≤ x ∧ x < (f j).u))

theorem sep_uniq : ∀ (L M : List (Int × Int)), (∀ g ∈ L, g.1 < g.2) → (∀ g ∈ M, g.1 < g.2) → (L.Pairwise fun a b => a.2 < b.1) → (M.Pairwise fun a b => a.2 < b.1) →
    (∀ x : Int, (∃ g ∈ L, g.1 ≤ x ∧ x < g.2) ↔ (∃ g ∈ M, g.1 ≤ x ∧ x < g.2)) → L = M := by
  intro L
  induction L with
  | nil =>
    intro M _ hM _ _ h
    cases M with
    | nil => rfl
    | cons m M =>
      have := hM m (by simp)
      obtain ⟨g, hg, _⟩ := (h m.1).2 ⟨m, by simp, by omega, by omega⟩
      cases hg
  | cons l L ih =>
    intro M hL hM sL sM h
    cases M with
    | nil =>
      have := hL l (by simp)
      obtain ⟨g, hg, _⟩ := (h l.1).1 ⟨l, by simp, by omega, by omega⟩
      cases hg
    | cons m M =>
      rw [List.pairwise_cons] at sL sM
      have l0 := hL l (by simp)
      have m0 := hM m (by simp)
      have lL : ∀ g ∈ L, g.1 < g.2 := fun g hg => hL g (by simp [hg])
      have lM : ∀ g ∈ M, g.1 < g.2 := fun g hg => hM g (by simp [hg])
      have inL : ∀ x, (∃ g ∈ l :: L, g.1 ≤ x ∧ x < g.2) ↔ ((l.1 ≤ x ∧ x < l.2) ∨ ∃ g ∈ L, g.1 ≤ x ∧ x < g.2) := fun x => by simp
      have inM : ∀ x, (∃ g ∈ m :: M, g.1 ≤ x ∧ x < g.2) ↔ ((m.1 ≤ x ∧ x < m.2) ∨ ∃ g ∈ M, g.1 ≤ x ∧ x < g.2) := fun x => by simp
      have h' : ∀ x, ((l.1 ≤ x ∧ x < l.2) ∨ ∃ g ∈ L, g.1 ≤ x ∧ x < g.2) ↔ ((m.1 ≤ x ∧ x < m.2) ∨ ∃ g ∈ M, g.1 ≤ x ∧ x < g.2) := fun x => by rw [← inL, ← inM]; exact h x
      have geL : ∀ x, (∃ g ∈ L, g.1 ≤ x ∧ x < g.2) → l.2 < x := fun x ⟨g, hg, h1, _⟩ => by have := sL.1 g hg; omega
      have geM : ∀ x, (∃ g ∈ M, g.1 ≤ x ∧ x < g.2) → m.2 < x := fun x ⟨g, hg, h1, _⟩ => by have := sM.1 g hg; omega
      have e1 : l.1 = m.1 := by
        have a1 := (h' l.1).1 (.inl ⟨by omega, l0⟩)
        have a2 := (h' m.1).2 (.inl ⟨by omega, m0⟩)
        have : m.1 ≤ l.1 := by
          rcases a1 with a1 | a1
          · exact a1.1
          · have := geM _ a1; omega
        have : l.1 ≤ m.1 := by
          rcases a2 with a2 | a2
          · exact a2.1
          · have := geL _ a2; omega
        omega
      have e2 : l.2 = m.2 := by
        rcases Int.lt_trichotomy l.2 m.2 with g | g | g
        · rcases (h' l.2).2 (.inl ⟨by omega, g⟩) with a | a
          · omega
          · have := geL _ a; omega
        · exact g
        · rcases (h' m.2).1 (.inl ⟨by omega, g⟩) with a | a
          · omega
          · have := geM _ a; omega
      have e : l = m := by
        obtain ⟨a, b⟩ := l
        obtain ⟨c, d⟩ := m
        exact Prod.ext e1 e2
      subst e
      rw [ih M lL lM sL.2 sM.2 fun x => ⟨fun hx => ?_, fun hx => ?_⟩]
      · rcases (h' x).1 (.inr hx) with a | a
        · have := geL _ hx; omega
        · exact a
      · rcases (h' x).2 (.inr hx) with a | a
        · have := geM _ hx; omega
        · exact a

theorem GapsS.uniq {v : Val} {f : Nat → Val} {n : Nat} {L M : List (Int × Int)} (h : GapsS v f n L) (h' : GapsS v f n M) : L = M :=
  sep_uniq L M h.lt h'.lt h.sep h'.sep fun x => (h.iff x).trans (h'.iff x).symm
end Go.Proofs.Ytnifpphimodonaa
