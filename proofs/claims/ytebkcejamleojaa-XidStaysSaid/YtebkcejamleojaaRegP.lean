/-
  A region's operations by its number; whether they may be walked in the order of the text is asked once, for all the places at which a proof comes to it.
-/
import Derived.Test.YtebkcejamleojaaRegX
import Derived.Tactics
namespace Go.Proofs.Ytebkcejamleojaa.RX

def codeOps (k : Nat) : Code → Option (List Oper)
  | .region id ops _ => if id == k then some ops.toList else none
  | .seq a b => (codeOps k a).or (codeOps k b)
  | .cond _ a b => (codeOps k a).or (codeOps k b)
  | .block _ b => codeOps k b
  | .loop b => codeOps k b
  | .rangeFunc _ _ a b => (codeOps k a).or (codeOps k b)
  | .scope b => codeOps k b
  | _ => none

/-- The operations of the region k. -/
def funcOps (f : Func) (k : Nat) : List Oper := (f.body.bind (codeOps k)).getD []

theorem plan_same {l l' : List Oper} (h : planOk l' = true) (e : l = l') : planOk l = true := by rw [e]; exact h

end Go.Proofs.Ytebkcejamleojaa.RX
