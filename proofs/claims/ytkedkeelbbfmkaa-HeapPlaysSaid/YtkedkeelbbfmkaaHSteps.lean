/-
  Steps, as they lie (stage 11).
-/
import Derived.Test.YtkedkeelbbfmkaaHDo
namespace Go.Proofs.Ytkedkeelbbfmkaa
open Go.RowKit
set_option linter.unusedVariables false

/-- A step lies in block b, from o on. -/
def AtS (W : World) (b o : Nat) (s : Stp) : Prop := ∃ ra rc, SlL W ra rc s.t.row ∧ b < W.heap.size ∧ ∀ j v, (stpC s (.slice ra s.t.row.length rc))[j]? = some v → W.cell? ⟨b, o + j, none⟩ = some v

theorem AtS.below {W W' : World} {b o : Nat} {s : Stp} (h : AtS W b o s) (hb : Below W.heap.size W W') : AtS W' b o s := by
  obtain ⟨ra, rc, h1, h2, h3⟩ := h
  exact ⟨ra, rc, h1.below hb, Nat.lt_of_lt_of_le h2 hb.size, fun j v hv => by rw [hb.cell (p := ⟨b, o + j, none⟩) h2]; exact h3 j v hv⟩

structure SlSt (W : World) (a : Option Addr) (c : Nat) (l : List Stp) : Prop where
  lc : l.length ≤ c
  cm : c ≤ maxLen
  at' : l ≠ [] → ∃ b o, a = some ⟨b, o, none⟩ ∧ ∀ i s, l[i]? = some s → AtS W b (o + i * 11) s
  wf : ∀ s ∈ l, s.wf

theorem SlSt.below {W W' : World} {a : Option Addr} {c : Nat} {l : List Stp} (h : SlSt W a c l) (hb : Below W.heap.size W W') : SlSt W' a c l :=
  ⟨h.lc, h.cm, fun hl => by obtain ⟨b, o, e, hx⟩ := h.at' hl; exact ⟨b, o, e, fun i s hs => (hx i s hs).below hb⟩, h.wf⟩
theorem SlSt.nil (W : World) (a : Option Addr) (c : Nat) (hc : c ≤ maxLen) : SlSt W a c [] := ⟨Nat.zero_le _, hc, fun h => absurd rfl h, fun _ h => absurd h List.not_mem_nil⟩

theorem SlSt.get {W : World} {a : Option Addr} {c : Nat} {l : List Stp} (h : SlSt W a c l) {i : Nat} {s : Stp} (hs : l[i]? = some s) : ∃ b o, a = some ⟨b, o, none⟩ ∧ AtS W b (o + i * 11) s := by
  obtain ⟨b, o, e, hx⟩ := h.at' (by rintro rfl; simp at hs)
  exact ⟨b, o, e, hx i s hs⟩

/-- What steps that are not large are. -/
def Fit (l : List Stp) : Prop := l.length ≤ 120 ∧ ∀ s ∈ l, s.t.row.length ≤ 5000

end Go.Proofs.Ytkedkeelbbfmkaa
