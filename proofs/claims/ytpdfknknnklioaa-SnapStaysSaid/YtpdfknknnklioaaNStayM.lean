/-
  What a snapshot without a transaction of its own sees does not change; a row of 401 truths in memory (stage 10).
-/
import Derived.Test.YtpdfknknnklioaaNAwake
namespace Go.Proofs.Ytpdfknknnklioaa
open Go.RowKit
set_option linter.unusedVariables false

/-! ### Stability -/

/-- A step gives numbers that are new ones alone. -/
theorem stp_fresh {T : Tb} (kind id : Int) {j : Nat} (h2 : j ≤ T.n) : T.last ≤ (T.stp kind id).last ∧ ((T.stp kind id).num j = T.num j ∨ (T.stp kind id).num j = T.last + 1) := by
  by_cases h0 : kind = 0
  · subst h0
    rw [(begT_eq T id).1]
    unfold Tb.begT
    split
    · exact ⟨Nat.le_refl _, .inl (upd_ne _ _ _ (by omega))⟩
    · exact ⟨Nat.le_refl _, .inl rfl⟩
  · by_cases hk : kind = 1
    · rw [(comT_eq T kind id h0 hk).1]
      unfold Tb.comT
      split
      · unfold Tb.com
        split
        · refine ⟨Nat.le_succ _, ?_⟩
          by_cases hj : j = id.toNat
          · exact .inr (by show upd _ _ _ j = _; rw [hj, upd_same]; rfl)
          · exact .inl (upd_ne _ _ _ hj)
        · exact ⟨Nat.le_refl _, .inl rfl⟩
      · exact ⟨Nat.le_refl _, .inl rfl⟩
    · rw [(aboT_eq T kind id h0 hk).1]
      unfold Tb.aboT
      split
      · exact ⟨Nat.le_refl _, .inl rfl⟩
      · exact ⟨Nat.le_refl _, .inl rfl⟩

/-- How many there are behind a step, and what the new one is. -/
theorem stp_new {T : Tb} (kind id : Int) : (T.stp kind id).n = T.n ∨ ((T.stp kind id).n = T.n + 1 ∧ (T.stp kind id).st (T.n + 1) = 1) := by
  by_cases h0 : kind = 0
  · subst h0
    rw [(begT_eq T id).1]
    unfold Tb.begT
    split
    · exact .inr ⟨rfl, upd_same _ _ _⟩
    · exact .inl rfl
  · by_cases hk : kind = 1
    · rw [(comT_eq T kind id h0 hk).1]
      unfold Tb.comT
      split
      · exact .inl (Tb.com_n _ _)
      · exact .inl rfl
    · rw [(aboT_eq T kind id h0 hk).1]
      unfold Tb.aboT
      split <;> exact .inl rfl

theorem numI_out {T : Tb} {k : Int} (h : ¬ (1 ≤ k ∧ k ≤ T.n)) : T.numI k = 0 := by
  unfold Tb.numI Tb.cnt
  rw [Tb.g_out h]
  rfl

/-- A step gives a transaction the next number, or leaves it the one that it has. -/
theorem stp_numI {T : Tb} (hok : T.Ok) (hn : T.Nums) (kind id k : Int) : (T.stp kind id).numI k = T.numI k ∨ (T.numI k = 0 ∧ (T.stp kind id).numI k = (T.last : Int) + 1) := by
  by_cases hin : 1 ≤ k ∧ k ≤ T.n
  · obtain ⟨j, rfl⟩ : ∃ j : Nat, k = (j : Int) := ⟨k.toNat, by omega⟩
    have j1 : 1 ≤ j := by omega
    have j2 : j ≤ T.n := by omega
    have t := hok.top_in j j1 j2
    obtain ⟨e1, e2, e3⟩ := stp_one hok kind id j1 j2
    by_cases hz : T.numI (j : Int) = 0
    · rw [hz, numI_is (hok.stp kind id) j1 e2]
      by_cases h3 : (T.stp kind id).st j = 3
      · rw [if_pos h3]; exact .inl rfl
      · rw [if_neg h3, e1]
        have hs3 : T.st j ≠ 3 := by
          rcases e3 with e | ⟨_, _, _, h | h⟩
          · rw [← e]; exact h3
          · omega
          · omega
        rw [numI_is hok j1 j2, if_neg hs3] at hz
        rcases (stp_fresh kind id (T := T) (j := T.top j) (by omega)).2 with e | e
        · exact .inl (by rw [e]; exact hz)
        · exact .inr ⟨rfl, by rw [e]; rfl⟩
    · have hs : T.st j = 2 := by
        by_cases e : T.st j = 2
        · exact e
        · exact absurd (numI_run hok hn j1 j2 e) hz
      exact .inl (stp_keeps hok hn kind id j1 j2 hs hz).2
  · left
    rw [numI_out hin]
    rcases stp_new (T := T) kind id with e | ⟨e, hs⟩
    · exact numI_out (by rw [e]; exact hin)
    · by_cases hk : k = (T.n : Int) + 1
      · subst hk
        exact numI_run (hok.stp kind id) (hn.stp hok kind id) (k := T.n + 1) (by omega) (by omega) (by omega)
      · exact numI_out (by rw [e]; omega)

/-- Without a transaction of its own a viewer sees by numbers alone. -/
theorem sees_zero {T : Tb} (hok : T.Ok) (a k : Int) : T.seesB a 0 k = (decide (0 < T.numI k) && decide (T.numI k ≤ a)) := by
  unfold Tb.seesB Tb.ownB Tb.reachB
  cases hc : T.cnt k with
  | false => simp
  | true =>
    have := cnt_top hok hc
    rw [decide_eq_false (show ¬ T.g T.top k = 0 by omega)]
    simp

theorem stp_sees {T : Tb} (hok : T.Ok) (hn : T.Nums) {la : Nat} (hla : la ≤ T.last) (kind id k : Int) : (T.stp kind id).seesB la 0 k = T.seesB la 0 k := by
  rw [sees_zero hok, sees_zero (hok.stp kind id)]
  rcases stp_numI hok hn kind id k with e | ⟨e1, e2⟩
  · rw [e]
  · rw [e1, e2, decide_eq_false (show ¬ (T.last : Int) + 1 ≤ la by omega)]
    simp

theorem run_sees {T : Tb} (hok : T.Ok) (hn : T.Nums) {la : Nat} (hla : la ≤ T.last) (l : List Stp) (k : Int) : (T.run l).seesB la 0 k = T.seesB la 0 k := by
  induction l generalizing T with
  | nil => rfl
  | cons x l ih =>
    have := ih (hok.stp x.kind x.id) (hn.stp hok x.kind x.id) (Nat.le_trans hla (stp_fresh x.kind x.id (T := T) (j := 0) (Nat.zero_le _)).1)
    rw [stp_sees hok hn hla] at this
    exact this

/-! ### 401 truths -/

def arr0 : Array Value := Array.replicate 401 (.bool false)
theorem info_arr : (Try.prog.info? 40).map (fun i => (i.zero, i.size, i.bytes)) = some (some (.agg arr0), 401, 401) := by kernel_rfl
theorem zero_arr (w : World) : (zeroValue 40).run Try.prog w = .ok (.agg arr0) w := by
  obtain ⟨i, hi, hz, hs, hb⟩ := info_parts info_arr
  unfold zeroValue
  simp [typeInfo, hi, hz]

/-- A row of 401 truths, in a block apart from those of F. -/
structure Arr (W : World) (g : Nat) (f : Nat → Bool) (F : Nat → Prop) : Prop where
  ex : ∃ cs, Lit W g 40 cs ∧ cs.length = 401 ∧ ∀ j, j < 401 → cs[j]? = some (.bool (f j))
  no : ¬ F g

section
variable {W W' : World} {g : Nat} {f f' : Nat → Bool} {F F' : Nat → Prop}
theorem Arr.new (W : World) (hF : ∀ k, F k → k < W.heap.size) : Arr (W.alloc (.cells arr0 40)) W.heap.size (fun _ => false) F :=
  ⟨⟨arr0.toList, Lit.new W _ _, by unfold arr0; rw [Array.toList_replicate, List.length_replicate], fun j hj => by unfold arr0; rw [Array.toList_replicate, List.getElem?_replicate, if_pos hj]⟩, fun hx => by have := hF _ hx; omega⟩
theorem Arr.congr (h : Arr W g f F) (hf : ∀ j, j < 401 → f' j = f j) : Arr W g f' F := by
  obtain ⟨⟨cs, h1, h2, h3⟩, h4⟩ := h
  exact ⟨⟨cs, h1, h2, fun j hj => by rw [hf j hj]; exact h3 j hj⟩, h4⟩
theorem Arr.lt (h : Arr W g f F) : g < W.heap.size := by
  obtain ⟨⟨cs, h1, h2, h3⟩, h4⟩ := h
  exact h1.lt
theorem Arr.below (h : Arr W g f F) (hb : Below W.heap.size W W') : Arr W' g f F := by
  obtain ⟨⟨cs, h1, h2⟩, h4⟩ := h
  exact ⟨⟨cs, h1.below hb, h2⟩, h4⟩
theorem Arr.next (h : Arr W g f F) (ht : Touch F W W') (hF : ∀ k, F' k → F k ∨ W.heap.size ≤ k) : Arr W' g f F' := by
  have hlt := h.lt
  obtain ⟨⟨cs, h1, h2⟩, h4⟩ := h
  exact ⟨⟨cs, h1.stay (ht.stay (G := fun k => k = g) (fun k hk hx => h4 (by rw [← hk]; exact hx))) rfl, h2⟩, fun hx => (hF g hx).elim h4 (fun hl => by omega)⟩
theorem Arr.cell (h : Arr W g f F) {j : Nat} (hj : j < 401) : W.cell? ⟨g, j, none⟩ = some (.bool (f j)) := by
  obtain ⟨⟨cs, h1, h2, h3⟩, h4⟩ := h
  exact h1.cell (h3 j hj)
theorem Arr.fz (h : Arr W g f F) (o : Nat) : W.frozen? ⟨g, o, none⟩ = false := by
  obtain ⟨⟨cs, h1, h2, h3⟩, h4⟩ := h
  exact h1.fz o
theorem Arr.set (h : Arr W g f F) {j : Nat} (hj : j < 401) (b : Bool) : Arr (W.setCell ⟨g, j, none⟩ (.bool b)) g (fun k => if k = j then b else f k) F := by
  obtain ⟨⟨cs, h1, h2, h3⟩, h4⟩ := h
  refine ⟨⟨_, h1.set j (.bool b), by rw [List.length_set]; exact h2, fun k hk => ?_⟩, h4⟩
  by_cases hkj : k = j
  · subst hkj
    rw [List.getElem?_set_self (by omega), if_pos rfl]
  · rw [List.getElem?_set_ne (Ne.symm hkj), if_neg hkj]
    exact h3 k hk
end

attribute [irreducible] arr0

section
variable {w0 W : World} {t g g' : Nat} {T : Tb} {F : Nat → Prop} {a m : Int}
theorem One.cell (h : One w0 W t T F) (hg : ¬ F g) (hw : w0.heap.size ≤ g) (o : Nat) (v : Value) : One w0 (W.setCell ⟨g, o, none⟩ v) t T F := by
  have ht := Touch.setCell W (F := fun k => k = g) rfl o v
  exact ⟨h.is.stay (ht.stay fun k hk e => hg (by rw [← e]; exact hk)), h.far, h.bel.trans (ht.below (fun k e => by rw [e]; exact hw) h.bel.size)⟩
theorem View.cell (h : View W g' a m F) (hne : g' ≠ g) (o : Nat) (v : Value) : View (W.setCell ⟨g, o, none⟩ v) g' a m F := by
  have ht := Touch.setCell W (F := fun k => k = g) rfl o v
  exact ⟨h.lit.stay (ht.stay (G := fun k => k = g') fun k hk e => hne (by rw [← hk, ← e])) rfl, h.no⟩
end

/-- What has been kept when all below i have been asked. -/
def seenF (T : Tb) (la : Int) (i : Nat) : Nat → Bool := fun j => if 1 ≤ j ∧ j < i then T.seesB la 0 (j : Int) else false

theorem Arr.seen {W : World} {g i : Nat} {T : Tb} {la : Int} {F : Nat → Prop} (h : Arr W g (seenF T la i) F) (h1 : 1 ≤ i) (hi : i < 401) : Arr (W.setCell ⟨g, i, none⟩ (.bool (T.seesB la 0 (i : Int)))) g (seenF T la (i + 1)) F :=
  (h.set hi _).congr fun j hj => by
    unfold seenF
    by_cases hji : j = i
    · subst hji
      rw [if_pos (by omega), if_pos rfl]
    · rw [if_neg hji]
      by_cases hl : 1 ≤ j ∧ j < i
      · rw [if_pos hl, if_pos (by omega)]
      · rw [if_neg hl, if_neg (by omega)]

end Go.Proofs.Ytpdfknknnklioaa
