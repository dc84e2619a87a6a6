/-
  A slice of whole numbers as one List (stage 6: the columns of a key).
-/
import Derived.Test.YtkipnkbmpgjcoaaKBase
namespace Go.Proofs.Ytkipnkbmpgjcoaa
open Go.RowKit

/-- The numbers l lie in block b from cell o on, one behind the other. -/
def LstI (W : World) (b o : Nat) (l : List Int) : Prop := b < W.heap.size ∧ ∀ (i : Nat) x, l[i]? = some x → W.cell? ⟨b, o + i, none⟩ = some (.int .i64 x)

theorem LstI.below {W W' : World} {b o : Nat} {l : List Int} (h : LstI W b o l) (hb : Below W.heap.size W W') : LstI W' b o l :=
  ⟨Nat.lt_of_lt_of_le h.1 hb.size, fun i x hx => by rw [hb.cell h.1]; exact h.2 i x hx⟩

/-- A slice of the numbers l. -/
structure SlI (W : World) (a : Option Addr) (c : Nat) (l : List Int) : Prop where
  lc : l.length ≤ c
  cm : c ≤ maxLen
  at' : l ≠ [] → ∃ b o, a = some ⟨b, o, none⟩ ∧ LstI W b o l
  wf : ∀ x ∈ l, I64 x

theorem SlI.below {W W' : World} {a : Option Addr} {c : Nat} {l : List Int} (h : SlI W a c l) (hb : Below W.heap.size W W') : SlI W' a c l :=
  ⟨h.lc, h.cm, fun hl => by obtain ⟨b, o, e, hx⟩ := h.at' hl; exact ⟨b, o, e, hx.below hb⟩, h.wf⟩

theorem SlI.nil (W : World) (a : Option Addr) (c : Nat) (hc : c ≤ maxLen) : SlI W a c [] := ⟨Nat.zero_le _, hc, fun h => absurd rfl h, fun _ h => absurd h (List.not_mem_nil)⟩

theorem SlI.i64 {W : World} {a : Option Addr} {c : Nat} {l : List Int} (h : SlI W a c l) {i : Nat} {x : Int} (hx : l[i]? = some x) : I64 x := h.wf x (List.mem_of_getElem? hx)

theorem at_i {W : World} {a : Option Addr} {c : Nat} {l : List Int} (h : SlI W a c l) {i : Nat} {x : Int} (hx : l[i]? = some x) : ∃ b o, a = some ⟨b, o, none⟩ ∧ W.cell? ⟨b, o + i, none⟩ = some (.int .i64 x) ∧ b < W.heap.size := by
  obtain ⟨b, o, e, hl⟩ := h.at' (by rintro rfl; simp at hx)
  exact ⟨b, o, e, hl.2 i x hx, hl.1⟩

/-- What is cut off behind k of a slice of numbers (l[:k]). -/
theorem SlI.take {W : World} {a : Option Addr} {c : Nat} {l : List Int} (h : SlI W a c l) (k : Nat) : SlI W a c (l.take k) := by
  refine ⟨Nat.le_trans (by simp only [List.length_take]; omega) h.lc, h.cm, fun hl => ?_, fun x hx => h.wf x (List.mem_of_mem_take hx)⟩
  obtain ⟨b, o, e, hb, hx⟩ := h.at' (by rintro rfl; simp at hl)
  refine ⟨b, o, e, hb, fun i x hi => hx i x ?_⟩
  rw [List.getElem?_take] at hi
  split at hi
  · exact hi
  · cases hi

/-- What is cut off ahead of k of a slice of numbers (l[k:]), where it is of some block. -/
theorem SlI.drop {W : World} {b o c : Nat} {l : List Int} (h : SlI W (some ⟨b, o, none⟩) c l) (k : Nat) (hk : k ≤ l.length) : SlI W (some ⟨b, o + k, none⟩) (c - k) (l.drop k) := by
  have hlc := h.lc
  have hcm := h.cm
  refine ⟨by simp only [List.length_drop]; omega, by omega, fun hl => ?_, fun x hx => h.wf x (List.mem_of_mem_drop hx)⟩
  obtain ⟨b', o', e, hb, hx⟩ := h.at' (by rintro rfl; simp at hl)
  cases e
  refine ⟨b, o + k, rfl, hb, fun i x hi => ?_⟩
  rw [List.getElem?_drop] at hi
  rw [Nat.add_assoc]
  exact hx (k + i) x hi

/-- The first k values of a slice (l[:k]). -/
theorem SlL.take {W : World} {a : Option Addr} {c : Nat} {l : List Val} (h : SlL W a c l) (k : Nat) : SlL W a c (l.take k) := by
  refine ⟨Nat.le_trans (by simp only [List.length_take]; omega) h.lc, h.cm, fun hl => ?_, fun x hx => h.wf x (List.mem_of_mem_take hx)⟩
  obtain ⟨b, o, e, hx⟩ := h.at' (by rintro rfl; simp at hl)
  refine ⟨b, o, e, fun i x hi => hx i x ?_⟩
  rw [List.getElem?_take] at hi
  split at hi
  · exact hi
  · cases hi

/-- The values of a slice behind the first k (l[k:]). -/
theorem SlL.drop {W : World} {b o c : Nat} {l : List Val} (h : SlL W (some ⟨b, o, none⟩) c l) (k : Nat) (hk : k ≤ l.length) : SlL W (some ⟨b, o + k * 4, none⟩) (c - k) (l.drop k) := by
  have hlc := h.lc
  have hcm := h.cm
  refine ⟨by simp only [List.length_drop]; omega, by omega, fun hl => ?_, fun x hx => h.wf x (List.mem_of_mem_drop hx)⟩
  obtain ⟨b', o', e, hx⟩ := h.at' (by rintro rfl; simp at hl)
  cases e
  refine ⟨b, o + k * 4, rfl, fun i x hi => ?_⟩
  rw [List.getElem?_drop] at hi
  have := hx (k + i) x hi
  rw [show o + k * 4 + i * 4 = o + (k + i) * 4 by omega]
  exact this

end Go.Proofs.Ytkipnkbmpgjcoaa
