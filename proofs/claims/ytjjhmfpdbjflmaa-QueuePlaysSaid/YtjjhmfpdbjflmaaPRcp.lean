/-
  A copy of a row: an append to an empty one (stage 14).
-/
import Derived.Test.YtjjhmfpdbjflmaaPRdrop
import Derived.Deep.AppendSrc
import Derived.Deep.Upon
namespace Go.Proofs.Ytjjhmfpdbjflmaa
open Go.RowKit
set_option linter.unusedVariables false

def flatO (kk : Bool) (l : PL) : List Value := l.flatMap (eO kk)
theorem flatO_len (kk : Bool) : ∀ l : PL, (flatO kk l).length = l.length * 3
  | [] => rfl
  | p :: l => by
    have := flatO_len kk l
    unfold flatO at this ⊢
    rw [List.flatMap_cons, List.length_append, this, List.length_cons]
    simp [eO]; omega
theorem flatO_get (kk : Bool) : ∀ (l : PL) (j : Nat) (u : Value), (flatO kk l)[j]? = some u → ∃ p, l[j / 3]? = some p ∧ (eO kk p)[j % 3]? = some u
  | [], j, u, h => by simp [flatO] at h
  | p :: l, j, u, h => by
    unfold flatO at h
    rw [List.flatMap_cons] at h
    have hl : (eO kk p).length = 3 := rfl
    by_cases hj : j < 3
    · rw [List.getElem?_append_left (by rw [hl]; exact hj)] at h
      refine ⟨p, ?_, ?_⟩
      · rw [show j / 3 = 0 by omega]; rfl
      · rw [show j % 3 = j by omega]; exact h
    · rw [List.getElem?_append_right (by rw [hl]; omega), hl] at h
      obtain ⟨q, h1, h2⟩ := flatO_get kk l (j - 3) u h
      refine ⟨q, ?_, ?_⟩
      · rw [show j / 3 = (j - 3) / 3 + 1 by omega]; exact h1
      · rw [show j % 3 = (j - 3) % 3 by omega]; exact h2

theorem copy_low {kk : Bool} {W : World} {g : Nat} {m : PL} (h : RowO kk W (.slice (some ⟨g, 0, none⟩) 0 0) []) {a : Option Addr} {k c : Nat} (hm : RowO kk W (.slice a k c) m) (hn : k ≤ 100000) :
    ∃ a' c' W6, (∀ ty, (Builtin.append_ #[59, 59] ty #[.slice (some ⟨g, 0, none⟩) 0 0, .slice a k c]).run Try.prog W = .ok (.slice a' k c') W6) ∧ RowO kk W6 (.slice a' k c') m ∧ Below W.heap.size W W6 ∧ ∀ j, Value.ownBlock (.slice a' k c') = some j → j = g ∨ W.heap.size ≤ j := by
  obtain ⟨a', c', W6, r, q, t, o⟩ := row_appR h hm (by simp; omega)
  simp only [List.length_nil, Nat.zero_add, List.nil_append] at r q o
  obtain ⟨i0, hi, hz0, hz1, hz2⟩ := info_parts info_o
  have hkm := hm.cap.2.2
  refine ⟨a', c', W6, r, q, ?_, fun j hj => (o j hj).imp (fun e => (Option.some.inj e).symm) id⟩
  rcases Nat.eq_zero_or_pos k with e | e
  · subst e
    have hs : Src Try.prog i0.size 59 (.slice a 0 c) 0 [] W := by
      cases a with
      | none => exact Src.ofNil (w := W) Try.underlying59 c
      | some ad => exact Src.ofSlice (w := W) Try.underlying59 ad 0 c [] (by simp) (fun j u hu => by simp at hu) (fun u hu => by cases hu)
    have h1 := run_append_nothing (P := Try.prog) W 59 59 59 71 i0 Try.underlying59 hi (some ⟨g, 0, none⟩) 0 0 (Nat.le_refl _) (.slice a 0 c) hs
    have h2 := (r 59).symm.trans h1
    simp only [Result.ok.injEq] at h2
    rw [h2.2]
    exact Below.refl _ _
  · obtain ⟨p, hp⟩ := get_pl (l := m) (i := 0) (by omega)
    obtain ⟨b, e1, -⟩ := hm.look hp
    subst e1
    have hs : Src Try.prog i0.size 59 (.slice (some ⟨b, 0, none⟩) k c) k (flatO kk m) W := by
      refine Src.ofSlice (w := W) Try.underlying59 ⟨b, 0, none⟩ k c (flatO kk m) (by rw [flatO_len, hz1, hkm]) (fun j u hu => ?_) (fun u hu => ?_)
      · obtain ⟨p, h1, h2⟩ := flatO_get kk m j u hu
        have := hm.cells 0 (j / 3) p (by simpa using h1) (j % 3) u h2
        rw [Addr.add_lit]
        have e3 : 0 * 3 + (j / 3 * 3 + j % 3) = 0 + j := by omega
        rw [e3] at this
        exact this
      · unfold flatO at hu
        obtain ⟨p, -, h2⟩ := List.mem_flatMap.1 hu
        simp only [eO, List.mem_cons, List.not_mem_nil, or_false] at h2
        rcases h2 with rfl | rfl | rfl <;> rfl
    have h1 := run_append_grow_src (P := Try.prog) (w := W) 59 59 59 71 i0 _ Try.underlying59 hi hz0 (some ⟨g, 0, none⟩) 0 0 [] (run_firstCells_some W.drew i0.size 0 ⟨g, 0, none⟩ 0 0 [] (by simp) (fun j u hu => by simp at hu)) _ k _ hs (by omega) (by omega) (by rw [hz2]; unfold Builtin.nextslicecap; simp; split <;> omega)
    have h2 := (r 59).symm.trans h1
    simp only [Result.ok.injEq] at h2
    rw [h2.2]
    exact below_tr (below_drw W) (Below.allocs _ _)

end Go.Proofs.Ytjjhmfpdbjflmaa
