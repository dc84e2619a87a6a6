/-
  What RuleLess leans on: a valid table without a column is valid; a rule that fits fits with a column more (stage 8; no walk).
-/
import Derived.Test.YtkipnkbmpgjcoaaTFit
namespace Go.Proofs.Ytkipnkbmpgjcoaa
open Go.RowKit

theorem twiceTo_iff (l : List Col) : ∀ k, twiceTo l k = true ↔ ∃ i j x y, i < j ∧ j < k ∧ l[i]? = some x ∧ l[j]? = some y ∧ x.nm.toList = y.nm.toList := by
  intro k
  induction k with
  | zero => simp [twiceTo]
  | succ k ih =>
    simp only [twiceTo, Bool.or_eq_true, ih]
    constructor
    · rintro (⟨i, j, x, y, h1, h2, h3⟩ | h)
      · exact ⟨i, j, x, y, h1, by omega, h3⟩
      · split at h
        · rename_i y hy
          obtain ⟨x, hx, he⟩ := List.any_eq_true.1 h
          obtain ⟨i, hi⟩ := List.mem_iff_getElem?.1 hx
          rw [List.getElem?_take] at hi
          split at hi
          · rename_i hlt
            exact ⟨i, k, x, y, hlt, by omega, hi, hy, by simpa [sameN] using he⟩
          · cases hi
        · cases h
    · rintro ⟨i, j, x, y, h1, h2, h3, h4, h5⟩
      rcases Nat.lt_succ_iff_lt_or_eq.1 h2 with h | rfl
      · exact .inl ⟨i, j, x, y, h1, h, h3, h4, h5⟩
      · refine .inr ?_
        rw [h4]
        refine List.any_eq_true.2 ⟨x, List.mem_iff_getElem?.2 ⟨i, ?_⟩, by simpa [sameN] using h5⟩
        rw [List.getElem?_take, if_pos h1]
        exact h3

/-- A list without its k-th one, as RuleLess makes it. -/
def lessL (l : List Col) (k : Nat) : List Col := l.take k ++ l.drop (k + 1)

theorem lessL_len {l : List Col} {k : Nat} (h : k < l.length) : (lessL l k).length = l.length - 1 := by
  unfold lessL
  rw [List.length_append, List.length_take, List.length_drop]
  omega

theorem lessL_get {l : List Col} {k : Nat} (hk : k < l.length) (i : Nat) : (lessL l k)[i]? = l[if i < k then i else i + 1]? := by
  unfold lessL
  have ht : (l.take k).length = k := by rw [List.length_take]; omega
  by_cases h : i < k
  · rw [if_pos h, List.getElem?_append_left (by omega), List.getElem?_take, if_pos h]
  · rw [if_neg h, List.getElem?_append_right (by omega), ht, List.getElem?_drop]
    congr 1
    omega

theorem lessL_mem {l : List Col} {k : Nat} {x : Col} (h : x ∈ lessL l k) : x ∈ l := by
  unfold lessL at h
  rcases List.mem_append.1 h with h | h
  · exact List.mem_of_mem_take h
  · exact List.mem_of_mem_drop h

theorem twiceTo_less {l : List Col} {k n : Nat} (hk : k < l.length) (h : twiceTo l l.length = false) (_ : n = (lessL l k).length) : twiceTo (lessL l k) n = false := by
  rw [← Bool.not_eq_true] at h ⊢
  intro h2
  apply h
  obtain ⟨i, j, x, y, h3, h4, h5, h6, h7⟩ := (twiceTo_iff _ _).1 h2
  rw [lessL_get hk] at h5 h6
  refine (twiceTo_iff _ _).2 ⟨_, _, x, y, ?_, ?_, h5, h6, h7⟩
  · split <;> split <;> omega
  · exact (List.getElem?_eq_some_iff.1 h6).1

/-- A table with other columns. -/
def Tb.withC (t : Tb) (a : Option Addr) (n c : Nat) (l : List Col) : Tb := ⟨t.nm, a, n, c, l, t.ow⟩

theorem table_less {t : Tb} {k n c : Nat} {a : Option Addr} (h : tableB t = true) (hk : k < t.cols.length) (h1 : 1 < t.cols.length) : tableB (t.withC a n c (lessL t.cols k)) = true := by
  unfold tableB at h ⊢
  simp only [Bool.and_eq_true, decide_eq_true_eq, Bool.not_eq_true'] at h ⊢
  obtain ⟨h2, h3, h4, h5, h6, h7⟩ := h
  refine ⟨h2, h3, ?_, ?_, ?_, ?_⟩
  · show 1 ≤ (lessL t.cols k).length
    rw [lessL_len hk]; omega
  · show (lessL t.cols k).length ≤ 8
    rw [lessL_len hk]; omega
  · show (lessL t.cols k).any badC = false
    rw [List.any_eq_false] at h6 ⊢
    exact fun x hx => h6 x (lessL_mem hx)
  · exact twiceTo_less hk h7 rfl

/-! ### A column more -/

theorem getD_more (l : List Int) (y : Int) {i : Nat} (h : i < l.length) : (l ++ [y]).getD i 0 = l.getD i 0 := by
  rw [List.getD_eq_getElem?_getD, List.getD_eq_getElem?_getD, List.getElem?_append_left h]

theorem mayC_more {c : List Int} {n : Nat} (h : mayC c n = true) : mayC c (n + 1) = true := by
  rw [mayC_iff] at h ⊢
  exact ⟨h.1, fun i hi => ⟨(h.2.1 i hi).1, by have := (h.2.1 i hi).2; omega⟩, h.2.2⟩

theorem below_more (n : Nat) (m : Int) (h : hasBelow n m = true) : hasBelow (n + 1) m = true := by
  unfold hasBelow at h ⊢
  simp only [Bool.and_eq_true, decide_eq_true_eq] at h ⊢
  omega

theorem kids_two {n : Nat} (e : Ex) (h : okB mayV (hasBelow n) e = true) : formedB mayV (hasBelow n) e = true ∧ ∀ i, i < e.len → okB mayV (hasBelow n) (e.kid i) = true := by
  unfold okB at *
  rw [Ex.allB_eq] at h
  simpa only [Bool.and_eq_true, allTo_iff] using h

theorem foldT_more (l : List Int) (y : Int) : ∀ e, okB mayV (hasBelow l.length) e = true → foldT (l ++ [y]) e = foldT l e := by
  intro e
  induction e using Ex.ind with
  | h e ih =>
    intro h
    obtain ⟨hf, hk⟩ := kids_two e h
    have hlen : e.len = arity e.op := by
      unfold formedB at hf
      simp only [Bool.and_eq_true, decide_eq_true_eq] at hf
      exact hf.1
    rw [foldT_eq, foldT_eq l]
    by_cases h0 : arity e.op = 0
    · rw [if_pos h0, if_pos h0]
      congr 1
      unfold leafT
      by_cases h2 : e.op = 2
      · rw [if_pos h2, if_pos h2]
        unfold formedB at hf
        simp only [h2, Bool.and_eq_true, show ¬ (2 : Int) = 1 by omega, if_false, if_true] at hf
        have := hf.2.2
        unfold hasBelow at this
        simp only [Bool.and_eq_true, decide_eq_true_eq] at this
        exact getD_more l y (by omega)
      · rw [if_neg h2, if_neg h2]
    · rw [if_neg h0, if_neg h0]
      have e0 := ih 0 (by omega) (hk 0 (by omega))
      rw [e0]
      by_cases h1 : arity e.op = 1
      · rw [if_pos h1, if_pos h1]
      · have h2 : 1 < e.len := by have := arity_le e.op; omega
        have e1 := ih 1 h2 (hk 1 h2)
        rw [if_neg h1, if_neg h1, e1]

theorem typeR_more (l : List Int) (y : Int) (e : Ex) (h : validB mayV (hasBelow l.length) e = true) : typeR (l ++ [y]) e = typeR l e := by
  unfold typeR
  rw [if_pos h]
  have hl : (l ++ [y]).length = l.length + 1 := by simp
  unfold validB at h
  simp only [Bool.and_eq_true] at h
  have hv : validB mayV (hasBelow (l ++ [y]).length) e = true := by
    unfold validB
    simp only [Bool.and_eq_true]
    exact ⟨h.1, h.2.1, ok_mono (fun m hm => by rw [hl]; exact below_more _ _ hm) e h.2.2⟩
  rw [if_pos hv]
  exact foldT_more l y e h.2.2

theorem truthR_more (l : List Int) (y : Int) (e : Ex) (h : truthR l e = 0) : truthR (l ++ [y]) e = 0 := by
  have hv : validB mayV (hasBelow l.length) e = true := by
    rcases Bool.eq_false_or_eq_true (validB mayV (hasBelow l.length) e) with h1 | h1
    · exact h1
    · unfold truthR typeR at h
      rw [h1] at h
      simp at h
  unfold truthR at h ⊢
  rw [typeR_more l y e hv]
  exact h

theorem tys_more (l : List Col) (x : Col) : tys (l ++ [x]) = tys l ++ [x.ty] := by unfold tys; simp

theorem typesL_more (r : Rl) (t : Tb) (a : Option Addr) (n c : Nat) (x : Col) (h : mayC r.cols t.cols.length = true) : typesL r (t.withC a n c (t.cols ++ [x])) = typesL r t := by
  unfold typesL
  refine List.map_congr_left fun i hi => ?_
  have := ((mayC_iff _ _).1 h).2.1 i hi
  show (tys (t.cols ++ [x])).getD i.toNat 0 = _
  rw [tys_more, getD_more _ _ (by unfold tys; rw [List.length_map]; omega)]

theorem fits_more {r q : Rl} {t u : Tb} (a : Option Addr) (c : Nat) (x : Col) (hl : t.cols.length = t.n) (h : fitsR r t q u = 0) : fitsR r (t.withC a (t.n + 1) c (t.cols ++ [x])) q u = 0 := by
  obtain ⟨h1, h2, h3, h4⟩ := (fitsR_iff _ _ _ _).1 h
  have key : ∀ k : Int, r.kind = k → (k = 1 ∨ k = 3 ∨ k = 4 ∨ k = 5) → mayC r.cols t.n = true := by
    intro k hk hh
    unfold formedBd at h3
    rcases hh with rfl | rfl | rfl | rfl <;> simp [hk] at h3 <;> exact h3.1
  have hfm : formedBd r (t.withC a (t.n + 1) c (t.cols ++ [x])) q u = true := by
    unfold formedBd at h3 ⊢
    have em : ∀ b : Bool, (mayC r.cols t.n && b) = true → (mayC r.cols (t.n + 1) && b) = true := by
      intro b hb
      rw [Bool.and_eq_true] at hb ⊢
      exact ⟨mayC_more hb.1, hb.2⟩
    by_cases k1 : r.kind = 1
    · rw [if_pos k1] at h3 ⊢; exact em _ h3
    by_cases k2 : r.kind = 2
    · rw [if_neg k1, if_pos k2] at h3 ⊢; exact h3
    by_cases k3 : r.kind = 3
    · rw [if_neg k1, if_neg k2, if_pos k3] at h3 ⊢; exact em _ h3
    by_cases k4 : r.kind = 4
    · rw [if_neg k1, if_neg k2, if_neg k3, if_pos k4] at h3 ⊢; exact em _ h3
    by_cases k5 : r.kind = 5
    · rw [if_neg k1, if_neg k2, if_neg k3, if_neg k4, if_pos k5] at h3 ⊢; exact em _ h3
    · rw [if_neg k1, if_neg k2, if_neg k3, if_neg k4, if_neg k5] at h3; cases h3
  refine (fitsR_iff _ _ _ _).2 ⟨h1, h2, hfm, ?_⟩
  unfold typedBd at h4 ⊢
  by_cases k2 : r.kind = 2
  · rw [if_pos k2] at h4 ⊢
    show truthR (tys (t.cols ++ [x])) r.is = 0
    rw [tys_more]
    exact truthR_more _ _ _ h4
  by_cases k4 : r.kind = 4
  · rw [if_neg k2, if_pos k4] at h4 ⊢
    rw [typesL_more _ _ _ _ _ _ (by rw [hl]; exact key 4 k4 (by omega))]
    exact h4
  by_cases k5 : r.kind = 5
  · rw [if_neg k2, if_neg k4, if_pos k5] at h4 ⊢
    rw [typesL_more _ _ _ _ _ _ (by rw [hl]; exact key 5 k5 (by omega))]
    exact h4
  · rw [if_neg k2, if_neg k4, if_neg k5]
end Go.Proofs.Ytkipnkbmpgjcoaa
