/-
  What is of no program: columns are valid just if, sorted, the first is not below nothing, the last is one of the row's, and nothing goes when equal neighbours are made one (stage 6).
-/
import Derived.Test.YtkipnkbmpgjcoaaKMath
import Derived.Lib.SlicesCompact
namespace Go.Proofs.Ytkipnkbmpgjcoaa

/-- The columns, sorted. -/
def srt (c : List Int) : List Int := c.mergeSort fun x y => decide (x ≤ y)

theorem srt_perm (c : List Int) : (srt c).Perm c := List.mergeSort_perm _ _
theorem srt_len (c : List Int) : (srt c).length = c.length := (srt_perm c).length_eq
theorem srt_mem {c : List Int} {x : Int} : x ∈ srt c ↔ x ∈ c := (srt_perm c).mem_iff
theorem srt_nodup (c : List Int) : (srt c).Nodup ↔ c.Nodup := (srt_perm c).nodup_iff
theorem srt_le (c : List Int) : (srt c).Pairwise (· ≤ ·) := by
  have := List.pairwise_mergeSort (le := fun (x y : Int) => decide (x ≤ y)) (by intro a b c; simp; omega) (by intro a b; simp; omega) c
  exact this.imp (by simp)

theorem srt_step {c : List Int} {i j : Nat} {x y : Int} (h : i ≤ j) (hx : (srt c)[i]? = some x) (hy : (srt c)[j]? = some y) : x ≤ y := by
  obtain ⟨h1, rfl⟩ := List.getElem?_eq_some_iff.mp hx
  obtain ⟨h2, rfl⟩ := List.getElem?_eq_some_iff.mp hy
  rcases Nat.eq_or_lt_of_le h with rfl | h
  · exact Int.le_refl _
  · exact List.pairwise_iff_getElem.mp (srt_le c) i j h1 h2 h

theorem compact_le (l : List Int) : (Lib.compact l).length ≤ l.length := by
  unfold Lib.compact Lib.compactUpTo
  rw [List.length_map]
  exact Nat.le_trans (List.length_filter_le _ _) (by simp)

theorem compact_iff (l : List Int) : (Lib.compact l).length = l.length ↔ ∀ (i : Nat) x y, l[i]? = some x → l[i + 1]? = some y → x ≠ y := by
  constructor
  · intro h i x y hx hy e
    have h2 := (List.getElem?_eq_some_iff.mp hy).1
    unfold Lib.compact Lib.compactUpTo at h
    rw [List.length_map] at h
    have hall := List.length_filter_eq_length_iff.mp (h.trans (List.length_range (n := l.length)).symm)
    have hk := hall (i + 1) (by simpa using h2)
    simp only [Lib.keeps, decide_eq_true_eq, Nat.add_sub_cancel] at hk
    rcases hk with hk | hk
    · omega
    · apply hk
      obtain ⟨h1, hx⟩ := List.getElem?_eq_some_iff.mp hx
      obtain ⟨_, hy⟩ := List.getElem?_eq_some_iff.mp hy
      rw [getElem!_pos l.toArray (i + 1) (by simpa using h2), getElem!_pos l.toArray i (by simpa using h1)]
      simp only [List.getElem_toArray]
      rw [hx, hy, e]
  · intro h
    rw [Lib.compact_all]
    intro j hj
    cases j with
    | zero => exact Lib.keeps_lt_one _ 0 (by omega)
    | succ j =>
      apply Lib.keeps_pos
      rw [Nat.add_sub_cancel, getElem!_pos l.toArray (j + 1) (by simpa using hj), getElem!_pos l.toArray j (by simp; omega)]
      simp only [List.getElem_toArray]
      exact Ne.symm (h j l[j] l[j + 1] (by simp) (by simp))

theorem srt_compact (c : List Int) : (Lib.compact (srt c)).length = c.length ↔ c.Nodup := by
  rw [← srt_len c, compact_iff, ← srt_nodup c]
  constructor
  · intro h
    refine List.pairwise_iff_getElem.mpr fun i j hi hj hij e => ?_
    have h1 : (srt c)[i]? = some (srt c)[i] := by simp [hi]
    have h2 : (srt c)[i + 1]? = some ((srt c)[i + 1]'(by omega)) := by simp [show i + 1 < (srt c).length by omega]
    have h3 : (srt c)[j]? = some (srt c)[j] := by simp [hj]
    have := srt_step (Nat.le_succ i) h1 h2
    have := srt_step (by omega : i + 1 ≤ j) h2 h3
    exact h i _ _ h1 h2 (by omega)
  · intro h i x y hx hy
    obtain ⟨h1, rfl⟩ := List.getElem?_eq_some_iff.mp hx
    obtain ⟨h2, rfl⟩ := List.getElem?_eq_some_iff.mp hy
    exact List.pairwise_iff_getElem.mp h i (i + 1) h1 h2 (Nat.lt_succ_self i)

/-- WHAT THE CODE ASKS. -/
theorem may_srt {c : List Int} {x y n : Int} (hx : (srt c)[0]? = some x) (hy : (srt c)[c.length - 1]? = some y) :
    mayC c n.toNat = (decide (0 ≤ x) && (decide (y < n) && decide ((Lib.compact (srt c)).length = c.length))) := by
  have hc : c ≠ [] := by
    rintro rfl
    have := (List.getElem?_eq_some_iff.mp hx).1
    rw [srt_len] at this
    simp at this
  rw [Bool.eq_iff_iff, mayC_iff]
  simp only [Bool.and_eq_true, decide_eq_true_eq, srt_compact]
  constructor
  · rintro ⟨_, h, hn⟩
    have hx' := h x (srt_mem.mp (List.mem_of_getElem? hx))
    have hy' := h y (srt_mem.mp (List.mem_of_getElem? hy))
    exact ⟨hx'.1, by omega, hn⟩
  · rintro ⟨h1, h2, hn⟩
    refine ⟨hc, fun i hi => ?_, hn⟩
    obtain ⟨k, hk⟩ := List.getElem?_of_mem (srt_mem.mpr hi)
    have hkl := (List.getElem?_eq_some_iff.mp hk).1
    rw [srt_len] at hkl
    have := srt_step (Nat.zero_le k) hx hk
    have := srt_step (by omega : k ≤ c.length - 1) hk hy
    omega

theorem mayC_nil (n : Nat) : mayC [] n = false := rfl

end Go.Proofs.Ytkipnkbmpgjcoaa
