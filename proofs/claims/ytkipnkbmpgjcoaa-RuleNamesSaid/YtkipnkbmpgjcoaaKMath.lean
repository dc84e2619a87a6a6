/-
  What is of no program: columns that are valid, the key of a row, what is set, keys that are complete and the same (stage 6; over any type of values).
-/
namespace Go.Proofs.Ytkipnkbmpgjcoaa

/-! ### Columns -/

/-- The number i is one of a row of n values' columns. -/
def inC (n : Nat) (i : Int) : Bool := decide (0 ≤ i) && decide (i < n)

/-- The columns are valid for a row of n values (the first m of them may be told apart by 'mayC (c.take m)'). -/
def goodC (n : Nat) : List Int → Bool
  | [] => true
  | i :: c => inC n i && (!c.contains i && goodC n c)

def mayC (c : List Int) (n : Nat) : Bool := !c.isEmpty && goodC n c

theorem goodC_iff (n : Nat) : ∀ c : List Int, goodC n c = true ↔ (∀ i ∈ c, 0 ≤ i ∧ i < n) ∧ c.Nodup
  | [] => by simp [goodC]
  | i :: c => by
      have h := goodC_iff n c
      simp only [goodC, inC, Bool.and_eq_true, decide_eq_true_eq, Bool.not_eq_true', List.mem_cons, List.nodup_cons, h, List.contains_eq_mem, decide_eq_false_iff_not]
      constructor
      · rintro ⟨⟨a, b⟩, d, e, f⟩
        refine ⟨?_, d, f⟩
        rintro x (rfl | hx)
        · exact ⟨a, b⟩
        · exact e x hx
      · rintro ⟨a, b, d⟩
        exact ⟨a i (.inl rfl), b, fun x hx => a x (.inr hx), d⟩

theorem mayC_iff (c : List Int) (n : Nat) : mayC c n = true ↔ c ≠ [] ∧ (∀ i ∈ c, 0 ≤ i ∧ i < n) ∧ c.Nodup := by
  unfold mayC
  rw [Bool.and_eq_true, goodC_iff]
  cases c <;> simp

/-- By index: what the loops ask. -/
theorem mayC_at (c : List Int) (n : Nat) : mayC c n = true ↔ c ≠ [] ∧ ∀ (i : Nat) x, c[i]? = some x → (0 ≤ x ∧ x < n) ∧ ∀ k, k < i → c[k]? ≠ some x := by
  rw [mayC_iff]
  refine and_congr_right fun _ => ?_
  constructor
  · rintro ⟨a, b⟩ i x hx
    refine ⟨a x (List.mem_of_getElem? hx), fun k hk hq => ?_⟩
    obtain ⟨h1, h2⟩ := List.getElem?_eq_some_iff.mp hx
    obtain ⟨h3, h4⟩ := List.getElem?_eq_some_iff.mp hq
    exact List.pairwise_iff_getElem.mp b k i h3 h1 hk (by rw [h2, h4])
  · intro h
    refine ⟨fun x hx => ?_, List.pairwise_iff_getElem.mpr fun k i hk hi hki e => ?_⟩
    · obtain ⟨i, hi⟩ := List.getElem?_of_mem hx
      exact (h i x hi).1
    · exact (h i c[i] (List.getElem?_eq_getElem hi)).2 k hki (by rw [List.getElem?_eq_getElem hk, e])

theorem mayC_reverse (c : List Int) (n : Nat) : mayC c.reverse n = mayC c n := by
  rw [Bool.eq_iff_iff, mayC_iff, mayC_iff]
  have : c.reverse.Nodup ↔ c.Nodup := by
    unfold List.Nodup
    rw [List.pairwise_reverse]
    exact ⟨fun h => h.imp fun e => Ne.symm e, fun h => h.imp fun e => Ne.symm e⟩
  simp [this]

theorem mayC_take (c : List Int) (n k : Nat) (h : mayC c n = true) (hk : 0 < k) : mayC (c.take k) n = true := by
  rw [mayC_iff] at h ⊢
  obtain ⟨a, b, d⟩ := h
  refine ⟨?_, fun i hi => b i (List.mem_of_mem_take hi), d.sublist (List.take_sublist k c)⟩
  cases c with
  | nil => exact absurd rfl a
  | cons x c => cases k with
    | zero => omega
    | succ k => simp

theorem mayC_drop (c : List Int) (n k : Nat) (h : mayC c n = true) (hk : k < c.length) : mayC (c.drop k) n = true := by
  rw [mayC_iff] at h ⊢
  obtain ⟨a, b, d⟩ := h
  refine ⟨?_, fun i hi => b i (List.mem_of_mem_drop hi), d.sublist (List.drop_sublist k c)⟩
  intro e
  have := congrArg List.length e
  simp at this
  omega

/-! ### The key, and what is set -/

variable {α : Type}

def ofL (d : α) (l : List α) (c : List Int) : List α := c.map fun i => l.getD i.toNat d

def setL (l : List α) : List Int → List α → List α
  | i :: c, v :: vs => setL (l.set i.toNat v) c vs
  | _, _ => l

theorem length_ofL (d : α) (l : List α) (c : List Int) : (ofL d l c).length = c.length := by simp [ofL]

theorem ofL_reverse (d : α) (l : List α) (c : List Int) : ofL d l c.reverse = (ofL d l c).reverse := by simp [ofL]

theorem ofL_at (d : α) (l : List α) (c : List Int) (i : Nat) (x : Int) (h : c[i]? = some x) : (ofL d l c)[i]? = some (l.getD x.toNat d) := by
  simp [ofL, h]

theorem ofL_take (d : α) (l : List α) (c : List Int) (i : Nat) (x : Int) (h : c[i]? = some x) : ofL d l (c.take (i + 1)) = ofL d l (c.take i) ++ [l.getD x.toNat d] := by
  simp [ofL, List.take_add_one, h]

theorem length_setL : ∀ (c : List Int) (v l : List α), (setL l c v).length = l.length
  | [], _, _ => by simp [setL]
  | _ :: _, [], _ => by simp [setL]
  | i :: c, x :: v, l => by simp [setL, length_setL c v]

theorem setL_append : ∀ (c c' : List Int) (v v' l : List α), c.length = v.length → setL l (c ++ c') (v ++ v') = setL (setL l c v) c' v'
  | [], c', [], v', l, _ => by simp [setL]
  | [], _, _ :: _, _, _, h => by simp at h
  | _ :: _, _, [], _, _, h => by simp at h
  | i :: c, c', x :: v, v', l, h => by
      simp only [List.cons_append, setL]
      exact setL_append c c' v v' _ (by simpa using h)

theorem setL_take (l : List α) (c : List Int) (v : List α) (i : Nat) (x : Int) (y : α) (h : c[i]? = some x) (hv : v[i]? = some y) :
    setL l (c.take (i + 1)) (v.take (i + 1)) = (setL l (c.take i) (v.take i)).set x.toNat y := by
  have h1 := (List.getElem?_eq_some_iff.mp h).1
  have h2 := (List.getElem?_eq_some_iff.mp hv).1
  rw [List.take_add_one, List.take_add_one, h, hv]
  simp only [Option.toList_some]
  rw [setL_append _ _ _ _ _ (by simp only [List.length_take]; omega)]
  simp [setL]

theorem setL_two (l : List α) (c : List Int) (v : List α) (k : Nat) (h : c.length = v.length) :
    setL (setL l (c.take k) (v.take k)) (c.drop k) (v.drop k) = setL l c v := by
  rw [← setL_append _ _ _ _ _ (by simp [h]), List.take_append_drop, List.take_append_drop]

theorem setL_other : ∀ (c : List Int) (v l : List α) (j : Nat), (∀ i ∈ c, 0 ≤ i) → (j : Int) ∉ c → (setL l c v)[j]? = l[j]?
  | [], _, _, _, _, _ => by simp [setL]
  | _ :: _, [], _, _, _, _ => by simp [setL]
  | i :: c, x :: v, l, j, hp, hj => by
      simp only [setL]
      rw [setL_other c v _ j (fun a ha => hp a (List.mem_cons_of_mem _ ha)) (fun h => hj (List.mem_cons_of_mem _ h))]
      have h0 := hp i (List.mem_cons_self ..)
      have : i.toNat ≠ j := by
        intro e
        apply hj
        rw [← e, Int.toNat_of_nonneg h0]
        exact List.mem_cons_self ..
      rw [List.getElem?_set_ne this]

theorem of_setL (d : α) : ∀ (c : List Int) (v l : List α), c.length = v.length → (∀ i ∈ c, 0 ≤ i ∧ i < l.length) → c.Nodup → ofL d (setL l c v) c = v
  | [], [], _, _, _, _ => by simp [ofL]
  | [], _ :: _, _, h, _, _ => by simp at h
  | _ :: _, [], _, h, _, _ => by simp at h
  | i :: c, x :: v, l, h, hi, hn => by
      simp only [setL, ofL, List.map_cons]
      have hnd := List.nodup_cons.mp hn
      have ih := of_setL d c v (l.set i.toNat x) (by simpa using h) (fun a ha => by simpa using hi a (List.mem_cons_of_mem _ ha)) hnd.2
      have h0 := hi i (List.mem_cons_self ..)
      unfold ofL at ih
      rw [ih]
      congr 1
      rw [List.getD_eq_getElem?_getD, setL_other c v _ i.toNat (fun a ha => (hi a (List.mem_cons_of_mem _ ha)).1) (by rw [Int.toNat_of_nonneg h0.1]; exact hnd.1)]
      rw [List.getElem?_set_self (by omega)]
      rfl

theorem set_getD (d : α) (l : List α) (j : Nat) (h : j < l.length) : l.set j (l.getD j d) = l := by
  apply List.ext_getElem?
  intro k
  rw [List.getElem?_set]
  split
  · next e => subst e; simp [h]
  · rfl

/-- Set once more to its own key a row is the row. -/
theorem set_own (d : α) : ∀ (c : List Int) (l : List α), (∀ i ∈ c, 0 ≤ i ∧ i < l.length) → setL l c (ofL d l c) = l
  | [], _, _ => by simp [setL]
  | i :: c, l, h => by
      have h0 := h i (List.mem_cons_self ..)
      simp only [ofL, List.map_cons, setL]
      rw [set_getD d l i.toNat (by omega)]
      exact set_own d c l (fun a ha => h a (List.mem_cons_of_mem _ ha))

/-! ### Complete, and the same -/

def whole (null : α → Bool) (k : List α) : Bool := !k.isEmpty && k.all fun x => !null x

theorem whole_reverse (null : α → Bool) (k : List α) : whole null k.reverse = whole null k := by
  simp [whole]

theorem whole_iff (null : α → Bool) (k : List α) : whole null k = true ↔ k ≠ [] ∧ ∀ (i : Nat) x, k[i]? = some x → null x = false := by
  unfold whole
  rw [Bool.and_eq_true]
  refine and_congr (by cases k <;> simp) ?_
  rw [List.all_eq_true]
  constructor
  · intro h i x hx
    simpa using h x (List.mem_of_getElem? hx)
  · intro h x hx
    obtain ⟨i, hi⟩ := List.getElem?_of_mem hx
    simp [h i x hi]

def sameK [DecidableEq α] (null : α → Bool) (a b : List α) : Bool := whole null a && (whole null b && decide (a = b))

theorem sameK_symm [DecidableEq α] (null : α → Bool) (a b : List α) : sameK null a b = sameK null b a := by
  rw [Bool.eq_iff_iff]
  simp only [sameK, Bool.and_eq_true, decide_eq_true_eq]
  constructor <;> rintro ⟨h, g, rfl⟩ <;> exact ⟨g, h, rfl⟩

theorem sameK_self [DecidableEq α] (null : α → Bool) (a : List α) : sameK null a a = whole null a := by
  simp [sameK]

theorem sameK_trans [DecidableEq α] (null : α → Bool) (a b c : List α) (h : sameK null a b = true) (g : sameK null b c = true) : sameK null a c = true := by
  simp only [sameK, Bool.and_eq_true, decide_eq_true_eq] at h g ⊢
  obtain ⟨h1, h2, rfl⟩ := h
  exact g

theorem sameK_reverse [DecidableEq α] (null : α → Bool) (a b : List α) : sameK null a.reverse b.reverse = sameK null a b := by
  rw [Bool.eq_iff_iff]
  simp only [sameK, Bool.and_eq_true, decide_eq_true_eq, whole_reverse, List.reverse_inj]

end Go.Proofs.Ytkipnkbmpgjcoaa
