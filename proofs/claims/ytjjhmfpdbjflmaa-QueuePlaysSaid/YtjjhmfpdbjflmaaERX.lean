/-
  One step more for regions that draw their order: a call whose answer a condition speaks of.
-/
import Derived.Test.YtjjhmfpdbjflmaaRegX
namespace Go.Proofs.Ytjjhmfpdbjflmaa.RX
section
variable {P : Program} {ops : Array Oper} {Q : Exit → Act → World → Prop} {R : World → World → Prop} {w0 : World}

theorem seqP_callOf {o : Oper} {l : List Oper} {ps : List Plan} {k : Nat} {a : Act} {ctx : List (Nat × (World → Prop))} {env : Nat → Value} {news : List Nat} (f : FuncId) (args : Array Value) (V : World → Value → Prop) (hst : ∀ w w' v, R w w' → V w v → V w' v)
    (hw : Region.wanted o (yielded ops a.tmps) = true) (hv : ∀ w, R w0 w → CtxP o ctx w → (execOp a.eval o).run P w = .ok (.enter f args) w)
    (hc : ∀ w, R w0 w → CtxP o ctx w → Calls P f args w fun e w' => ∃ v, e = .returned v ∧ R w w' ∧ V w' v)
    (hr : ∀ v, seqP P ops Q R w0 l ps (k + 1) (a.put o.dst v) ((k, fun w => V w v) :: ctx) (upd env k v) news) : seqP P ops Q R w0 (o :: l) (.of V :: ps) k a ctx env news :=
  ⟨⟨hst, fun w h1 h2 => Or.inl ⟨hw, by rw [hv w h1 h2]; exact (hc w h1 h2).mono fun e w' ⟨v, h3, h4, h5⟩ => ⟨v, h3, h4, h5, trivial⟩⟩⟩, hr⟩
end
end Go.Proofs.Ytjjhmfpdbjflmaa.RX
