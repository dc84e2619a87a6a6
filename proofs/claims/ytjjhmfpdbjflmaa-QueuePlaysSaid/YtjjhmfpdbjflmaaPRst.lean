/-
  Settling, place by place, as lists (stage 14).
-/
import Derived.Test.YtjjhmfpdbjflmaaPRask
namespace Go.Proofs.Ytjjhmfpdbjflmaa
open Go.RowKit
set_option linter.unusedVariables false

/-- The first i of the row are blocked. -/
def BlkI (c : Int) (hd wt : PL) (i : Nat) : Prop := ∀ j : Nat, j < i → ∀ r, wt[j]? = some r → forL c hd (wt.take j) r.1 r.2 ≠ []
theorem BlkI.zero (c : Int) (hd wt : PL) : BlkI c hd wt 0 := fun j hj => absurd hj (Nat.not_lt_zero j)
theorem BlkI.succ {c : Int} {hd wt : PL} {i : Nat} (h : BlkI c hd wt i) {r : Int × Int} (hr : wt[i]? = some r) (hb : forL c hd (wt.take i) r.1 r.2 ≠ []) : BlkI c hd wt (i + 1) := by
  intro j hj q hq
  by_cases e : j = i
  · subst e
    rw [hr] at hq
    cases hq
    exact hb
  · exact h j (by omega) q hq
theorem BlkI.pre {c : Int} {hd wt : PL} {i : Nat} (h : BlkI c hd wt i) (hi : i ≤ wt.length) : ∀ a r b, wt.take i = a ++ r :: b → forL c hd ([] ++ a) r.1 r.2 ≠ [] := by
  intro a r b e
  have hl : a.length < i := by
    have := congrArg List.length e
    rw [List.length_take, List.length_append, List.length_cons] at this
    omega
  have h1 : wt[a.length]? = some r := by
    have h2 : (wt.take i)[a.length]? = some r := by rw [e]; simp
    rw [List.getElem?_take] at h2
    simpa [hl] using h2
  have h3 : wt.take a.length = a := by
    have h4 : (wt.take i).take a.length = a := by rw [e]; simp
    rw [List.take_take] at h4
    rwa [Nat.min_eq_left (by omega)] at h4
  have := h a.length hl r h1
  rw [h3] at this
  rwa [List.nil_append]
theorem settle_stop {c : Int} {hd wt : PL} (h : BlkI c hd wt wt.length) : ∀ m, settleL c m hd wt = (hd, wt, [])
  | 0 => rfl
  | m + 1 => by
    have h1 := firstU_skip (l := []) (h.pre (Nat.le_refl _))
    rw [List.append_nil, List.take_length] at h1
    unfold settleL
    rw [h1]
    rfl
theorem settle_step {c : Int} {hd wt : PL} {i : Nat} {r : Int × Int} (h : BlkI c hd wt i) (hr : wt[i]? = some r) (hf : forL c hd (wt.take i) r.1 r.2 = []) (m : Nat) :
    settleL c (m + 1) hd wt = ((settleL c m (giveL hd r.1 r.2) (wt.take i ++ wt.drop (i + 1))).1, (settleL c m (giveL hd r.1 r.2) (wt.take i ++ wt.drop (i + 1))).2.1, r.1 :: (settleL c m (giveL hd r.1 r.2) (wt.take i ++ wt.drop (i + 1))).2.2) := by
  obtain ⟨h1, h2⟩ := List.getElem?_eq_some_iff.1 hr
  have e : wt = wt.take i ++ r :: wt.drop (i + 1) := by rw [← h2, ← List.drop_eq_getElem_cons h1, List.take_append_drop]
  have hu : firstU c hd [] wt = some (wt.take i, r, wt.drop (i + 1)) := by
    have h3 := firstU_skip (l := r :: wt.drop (i + 1)) (h.pre (Nat.le_of_lt h1))
    rw [← e, List.nil_append] at h3
    rw [h3, firstU_cons, if_pos hf]
  conv => lhs; unfold settleL
  rw [hu]
theorem without_mid {wt : PL} {i : Nat} {r : Int × Int} (hnd : (fsts wt).Nodup) (hr : wt[i]? = some r) : without wt r.1 = wt.take i ++ wt.drop (i + 1) := by
  obtain ⟨h1, h2⟩ := List.getElem?_eq_some_iff.1 hr
  have e : wt = wt.take i ++ r :: wt.drop (i + 1) := by rw [← h2, ← List.drop_eq_getElem_cons h1, List.take_append_drop]
  have hn := hnd
  rw [e] at hn
  have hx := nodup_mid hn
  have h3 : without (wt.take i ++ wt.drop (i + 1)) r.1 = wt.take i ++ wt.drop (i + 1) := without_none hx
  conv => lhs; rw [e]
  unfold without at h3 ⊢
  rw [List.filter_append, List.filter_cons_of_neg (by simp), ← List.filter_append]
  exact h3

/-- What is still to be settled: hd, wt, and who was given it so far. -/
def StI (c : Int) (T : PL × PL × List Int) (hd wt : PL) (acc : List Int) : Prop := ∃ m, wt.length ≤ m ∧ T = ((settleL c m hd wt).1, (settleL c m hd wt).2.1, acc ++ (settleL c m hd wt).2.2)
theorem StI.start (c : Int) (hd wt : PL) : StI c (settleL c wt.length hd wt) hd wt [] := ⟨_, Nat.le_refl _, by simp⟩
theorem StI.stop {c : Int} {T : PL × PL × List Int} {hd wt : PL} {acc : List Int} (h : StI c T hd wt acc) (hb : BlkI c hd wt wt.length) : T = (hd, wt, acc) := by
  obtain ⟨m, -, e⟩ := h
  rw [settle_stop hb] at e
  rw [e, List.append_nil]
theorem StI.step {c : Int} {T : PL × PL × List Int} {hd wt : PL} {acc : List Int} {i : Nat} {r : Int × Int} (h : StI c T hd wt acc) (hnd : (fsts wt).Nodup) (hb : BlkI c hd wt i) (hr : wt[i]? = some r) (hf : forL c hd (wt.take i) r.1 r.2 = []) : StI c T (giveL hd r.1 r.2) (without wt r.1) (acc ++ [r.1]) ∧ (without wt r.1).length + 1 = wt.length := by
  obtain ⟨m, hm, e⟩ := h
  obtain ⟨h1, h2⟩ := List.getElem?_eq_some_iff.1 hr
  have hw := without_mid hnd hr
  have hl : (without wt r.1).length + 1 = wt.length := by rw [hw, List.length_append, List.length_take, List.length_drop]; omega
  obtain ⟨m', rfl⟩ : ∃ m', m = m' + 1 := ⟨m - 1, by omega⟩
  rw [settle_step hb hr hf] at e
  refine ⟨⟨m', by omega, ?_⟩, hl⟩
  rw [hw, e, List.append_assoc]
  rfl
/-- What may be granted keeps the lock well. -/
theorem Ok0.granted {c : Int} {hd wt : PL} {i : Nat} {r : Int × Int} (h : Ok0 ⟨c, hd, wt⟩) (hr : wt[i]? = some r) (hf : forL c hd (wt.take i) r.1 r.2 = []) : Ok0 ⟨c, giveL hd r.1 r.2, without wt r.1⟩ := by
  obtain ⟨h1, h2⟩ := List.getElem?_eq_some_iff.1 hr
  have e : wt = wt.take i ++ r :: wt.drop (i + 1) := by rw [← h2, ← List.drop_eq_getElem_cons h1, List.take_append_drop]
  rw [without_mid h.wnd hr]
  exact Ok0.grant (by rw [← e]; exact h) hf

end Go.Proofs.Ytjjhmfpdbjflmaa
