/-
  Rows of values, and of numbers, that may be written (stage 6).
-/
import Derived.Test.YtkipnkbmpgjcoaaKInts
import Derived.Test.YtkipnkbmpgjcoaaKSortM
import Derived.Test.YtkipnkbmpgjcoaaKBase
import Derived.Test.YtkipnkbmpgjcoaaShelf
import Derived.Shelf.Sort.Plain
namespace Go.Proofs.Ytkipnkbmpgjcoaa
open Go.RowKit

/-- The values l lie in block g from its head on, and may be written. -/
structure Own (W : World) (g : Nat) (l : List Val) : Prop where
  at' : Lst W g 0 l
  fz : ∀ t, W.frozen? ⟨g, t, none⟩ = false
  lt : g < W.heap.size

theorem Own.below {W W' : World} {g : Nat} {l : List Val} (h : Own W g l) (hb : Below W.heap.size W W') : Own W' g l :=
  ⟨h.at'.below hb, fun t => by rw [hb.frozen (p := ⟨g, t, none⟩) h.lt]; exact h.fz t, Nat.lt_of_lt_of_le h.lt hb.size⟩

theorem Own.sl {W : World} {g c : Nat} {l : List Val} (h : Own W g l) (hc : l.length ≤ c) (hm : c ≤ maxLen) (hw : ∀ x ∈ l, x.wf) : SlL W (some ⟨g, 0, none⟩) c l :=
  ⟨hc, hm, fun _ => ⟨g, 0, rfl, h.at'⟩, hw⟩

theorem Own.get {W : World} {g : Nat} {l : List Val} (h : Own W g l) {i : Nat} {x : Val} (hx : l[i]? = some x) : AtV W g (i * 4) x := by
  have := h.at' i x hx
  rwa [Nat.zero_add] at this

/-- A value is written at place i of block g. -/
def putAt (W : World) (g i : Nat) (v : Val) : World :=
  (((W.setCell ⟨g, i * 4, none⟩ (.int .u8 v.k)).setCell ⟨g, i * 4 + 1, none⟩ (.int .i64 v.n)).setCell ⟨g, i * 4 + 2, none⟩ (.int .i64 v.u)).setCell ⟨g, i * 4 + 3, none⟩ (.string v.t)

theorem below_putAt {B : Nat} {a W : World} (h : Below B a W) {g : Nat} (hg : B ≤ g) (i : Nat) (v : Val) : Below B a (putAt W g i v) :=
  (((h.setCell (by exact hg) _).setCell (by exact hg) _).setCell (by exact hg) _).setCell (by exact hg) _

theorem size_putAt (W : World) (g i : Nat) (v : Val) : (putAt W g i v).heap.size = W.heap.size := by simp [putAt, World.setCell]

theorem cell_putAt_ne (W : World) (g i : Nat) (v : Val) (a : Addr) (h : a.block ≠ g ∨ (a.off < i * 4 ∨ i * 4 + 4 ≤ a.off)) : (putAt W g i v).cell? a = W.cell? a := by
  unfold putAt
  have : ∀ c, c < 4 → (⟨g, i * 4 + c, none⟩ : Addr) ≠ a := by
    rintro c hc rfl
    rcases h with h | h
    · exact h rfl
    · dsimp at h; omega
  rw [World.cell?_setCell_other _ _ _ _ (this 3 (by omega)), World.cell?_setCell_other _ _ _ _ (this 2 (by omega)), World.cell?_setCell_other _ _ _ _ (this 1 (by omega)), World.cell?_setCell_other _ _ _ _ (by simpa using this 0 (by omega))]

theorem Own.put {W : World} {g : Nat} {l : List Val} (h : Own W g l) {i : Nat} (hi : i < l.length) (v : Val) : Own (putAt W g i v) g (l.set i v) := by
  refine ⟨fun j x hx => ?_, fun t => ?_, by rw [size_putAt]; exact h.lt⟩
  · rw [Nat.zero_add]
    by_cases e : i = j
    · subst e
      rw [List.getElem?_set_self hi, Option.some.injEq] at hx
      subst hx
      obtain ⟨h0, h1, h2, h3, h4⟩ := h.get (List.getElem?_eq_getElem hi)
      refine ⟨?_, ?_, ?_, ?_, by rw [size_putAt]; exact h4⟩ <;> (unfold putAt; go_simp)
    · rw [List.getElem?_set_ne e] at hx
      obtain ⟨h0, h1, h2, h3, h4⟩ := h.get hx
      exact ⟨by rw [cell_putAt_ne _ _ _ _ _ (.inr (by dsimp; omega))]; exact h0, by rw [cell_putAt_ne _ _ _ _ _ (.inr (by dsimp; omega))]; exact h1, by rw [cell_putAt_ne _ _ _ _ _ (.inr (by dsimp; omega))]; exact h2, by rw [cell_putAt_ne _ _ _ _ _ (.inr (by dsimp; omega))]; exact h3, by rw [size_putAt]; exact h4⟩
  · unfold putAt
    simp only [World.frozen?_setCell]
    exact h.fz t

/-- What is written elsewhere does not touch it. -/
theorem Own.other {W : World} {g g' : Nat} {l : List Val} (h : Own W g l) (hne : g ≠ g') (i : Nat) (v : Val) : Own (putAt W g' i v) g l := by
  refine ⟨fun j x hx => ?_, fun t => ?_, by rw [size_putAt]; exact h.lt⟩
  · obtain ⟨h0, h1, h2, h3, h4⟩ := h.at' j x hx
    exact ⟨by rw [cell_putAt_ne _ _ _ _ _ (.inl hne)]; exact h0, by rw [cell_putAt_ne _ _ _ _ _ (.inl hne)]; exact h1, by rw [cell_putAt_ne _ _ _ _ _ (.inl hne)]; exact h2, by rw [cell_putAt_ne _ _ _ _ _ (.inl hne)]; exact h3, by rw [size_putAt]; exact h4⟩
  · unfold putAt
    simp only [World.frozen?_setCell]
    exact h.fz t

/-- To write what is there changes nothing. -/
theorem setCell_self {W : World} {b o : Nat} {v : Value} (h : W.cell? ⟨b, o, none⟩ = some v) : W.setCell ⟨b, o, none⟩ v = W := by
  rw [Sort.setCell_eq]
  refine Sort.mapBlock_id W b _ fun c e fr hb => ?_
  obtain ⟨c', e', fr', hb', hc⟩ := Sort.cells_of_cell? h
  rw [hb] at hb'
  injection hb' with hb'
  injection hb' with hcc
  subst hcc
  apply Array.ext_getElem?
  intro k
  rw [Array.getElem?_setIfInBounds]
  split
  · next e => subst e; rw [hc]; split
              · rfl
              · next hk => rw [Array.getElem?_eq_none (by omega)] at hc; cases hc
  · rfl

/-! ### Numbers -/

/-- The numbers l lie in block g from its head on, and may be written. -/
structure OwnI (W : World) (g : Nat) (l : List Int) : Prop where
  at' : ∀ (i : Nat) x, l[i]? = some x → W.cell? ⟨g, i, none⟩ = some (.int .i64 x)
  fz : ∀ t, W.frozen? ⟨g, t, none⟩ = false
  lt : g < W.heap.size

theorem OwnI.below {W W' : World} {g : Nat} {l : List Int} (h : OwnI W g l) (hb : Below W.heap.size W W') : OwnI W' g l :=
  ⟨fun i x hx => by rw [hb.cell h.lt]; exact h.at' i x hx, fun t => by rw [hb.frozen (p := ⟨g, t, none⟩) h.lt]; exact h.fz t, Nat.lt_of_lt_of_le h.lt hb.size⟩

theorem OwnI.sl {W : World} {g c : Nat} {l : List Int} (h : OwnI W g l) (hc : l.length ≤ c) (hm : c ≤ maxLen) (hw : ∀ x ∈ l, I64 x) : SlI W (some ⟨g, 0, none⟩) c l :=
  ⟨hc, hm, fun _ => ⟨g, 0, rfl, h.lt, fun i x hx => by rw [Nat.zero_add]; exact h.at' i x hx⟩, hw⟩

theorem OwnI.holds {W : World} {g : Nat} {l : List Int} (h : OwnI W g l) : Sort.Holds (Value.int .i64) W g 0 l.toArray := by
  intro j hj
  have hj' : j < l.length := by simpa using hj
  rw [Nat.zero_add]
  refine ⟨?_, h.fz j⟩
  rw [h.at' j l[j] (List.getElem?_eq_getElem hj'), getElem!_pos l.toArray j hj]
  simp

theorem putRowI_below {B : Nat} {a W : World} (h : Below B a W) {g : Nat} (hg : B ≤ g) (D : Array Int) : Below B a (Sort.putRow (Value.int .i64) W g 0 D) := by
  have : Below B W (Sort.putRow (Value.int .i64) W g 0 D) := ⟨rfl, rfl, rfl, by simp [Sort.putRow, Sort.mapBlock], fun i hi => by
    simp only [Sort.putRow, Sort.mapBlock]
    rw [Array.getElem?_modify, if_neg (by omega)]⟩
  exact h.trans this

theorem grow_below (W : World) (os : Array Obj) : Below W.heap.size W (Sort.grow W os) :=
  ⟨rfl, rfl, rfl, by simp [Sort.grow], fun i hi => by
    show (W.heap ++ os)[i]? = _
    rw [Array.getElem?_append_left hi]⟩

theorem ahead_below (W : World) (n : Nat) : Below W.heap.size W (Sort.ahead W n) := ⟨rfl, rfl, rfl, Nat.le_refl _, fun _ _ => rfl⟩

/-- The world with numbers written over a row of as many. -/
theorem OwnI.putRow {W : World} {g : Nat} {l m : List Int} (h : OwnI W g l) (hl : m.length = l.length) : OwnI (Sort.putRow (Value.int .i64) W g 0 m.toArray) g m := by
  refine ⟨fun i x hx => ?_, fun t => by rw [Sort.frozen?_putRow]; exact h.fz t, by rw [Sort.size_putRow]; exact h.lt⟩
  have hi : i < m.length := (List.getElem?_eq_some_iff.mp hx).1
  have := Sort.cell?_putRow (Value.int .i64) W g 0 l.toArray m.toArray h.holds (by simp [hl]) i (by simpa using hi)
  rw [Nat.zero_add] at this
  rw [this, getElem!_pos m.toArray i (by simpa using hi)]
  obtain ⟨_, hx⟩ := List.getElem?_eq_some_iff.mp hx
  simp [hx]

/-- A new row of numbers. -/
theorem ownI_row {W : World} {base n : Nat} {s : Value} {l : List Int} (hn : l.length = n) (h : W.ownsRow base 3 1 s n (l.map (Value.int .i64))) (hne : s ≠ .slice none 0 0) :
    ∃ g cap, s = .slice (some ⟨g, 0, none⟩) n cap ∧ n ≤ cap ∧ cap ≤ maxLen ∧ base ≤ g ∧ OwnI W g l := by
  rcases h.2 with ⟨h1, _⟩ | ⟨g, cap, cur, rfl, hbg, hg, hnc, hcm, hcs, hxs⟩
  · exact absurd h1 hne
  · refine ⟨g, cap, rfl, hnc, hcm, hbg, fun i x hx => ?_, fun t => by simp [World.frozen?, show W.heap[g]? = _ from hg], some_lt hg⟩
    have hi : i < l.length := (List.getElem?_eq_some_iff.mp hx).1
    have : (l.map (Value.int .i64))[i]? = some (.int .i64 x) := by simp [hx]
    rw [← hxs, List.getElem?_take_of_lt (by omega)] at this
    simp [World.cell?, show W.heap[g]? = _ from hg]
    simpa using this

end Go.Proofs.Ytkipnkbmpgjcoaa
