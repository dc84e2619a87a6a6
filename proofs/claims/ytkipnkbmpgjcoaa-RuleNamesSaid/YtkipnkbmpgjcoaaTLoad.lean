/-
  Great structs loaded in one step (stage 8): laws for loads of more than a few cells, as arms of the walk.
-/
import Derived.Test.YtkipnkbmpgjcoaaTRule
import Derived.Laws.Rows
namespace Go.Proofs.Ytkipnkbmpgjcoaa
open Go.RowKit

def structB : TypeDesc → Bool
  | .struct _ | .array _ _ => true
  | _ => false

theorem run_loads {P : Program} (w : World) (g off : Nat) (ty : TypeId) (cs : List Value) (d : TypeDesc) (hc : ∀ j v, cs[j]? = some v → w.cell? ⟨g, off + j, none⟩ = some v)
    (hu : P.underlying ty = some d) (hd : structB d = true) (hi : (P.info? ty).map (·.size) = some cs.length) :
    (loadVar ty ⟨g, off, none⟩).run P w = .ok (.agg cs.toArray) w := by
  have hl : (loadCells ⟨g, off, none⟩ cs.length).run P w = .ok cs.toArray w :=
    run_loadCells_list (P := P) w ⟨g, off, none⟩ cs (fun j v hv => by
      have hadd : (⟨g, off, none⟩ : Addr).add j = ⟨g, off + j, none⟩ := by unfold Addr.add; split <;> simp_all
      rw [hadd]
      exact hc j v hv)
  cases hq : P.info? ty with
  | none => simp [hq] at hi
  | some i =>
    have hs : i.size = cs.length := by simpa [hq] using hi
    have hagg : (isAgg ty).run P w = .ok true w := by
      unfold isAgg
      rw [Sem.run_bind, run_underlying hu w]
      cases d <;> simp_all [structB]
    simp [loadVar, Sem.run_bind, hagg, sizeOf, typeInfo, hq, hs, hl]

/-- The arm: at an operation of this destination that loads a struct of many cells, wanted or not guarded. -/
theorem load_step {P : Program} {ops : Array Oper} {rest : List Oper} {a : Act} {w : World} {Q : Exit → Act → World → Prop} (dst : Nat) (ty : TypeId) (x : Nat) (t' : TypeId) (pos : String) (af : Array Edge) (gd : Option (Nat × Bool))
    (hw : Region.wanted ⟨some dst, .load ty (.tmp x), t', pos, af, gd⟩ (yielded ops a.tmps) = true) (g off : Nat) (hx : a.eval (.tmp x) = .pointer (some ⟨g, off, none⟩)) (cs : List Value) (d : TypeDesc)
    (hc : ∀ j v, cs[j]? = some v → w.cell? ⟨g, off + j, none⟩ = some v) (hu : P.underlying ty = some d) (hd : structB d = true) (hi : (P.info? ty).map (·.size) = some cs.length)
    (h : wpList P ops Q rest (a.put (some dst) (.agg cs.toArray)) w) : wpList P ops Q (⟨some dst, .load ty (.tmp x), t', pos, af, gd⟩ :: rest) a w := by
  refine wpList_step fun K hK => ?_
  rw [if_pos hw]
  unfold Oper.wp execOp
  simp only [hx, Instr.loadAt, Instr.sureAddr, Sem.run_bind, Sem.run_pure, Result.andThen_ok, run_loads w g off ty cs d hc hu hd hi]
  exact hK _ _ h
end Go.Proofs.Ytkipnkbmpgjcoaa
