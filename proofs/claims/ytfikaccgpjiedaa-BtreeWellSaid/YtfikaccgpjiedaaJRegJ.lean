/-
  A region that draws its order, walked by a plan, in a round.
-/
import Derived.Test.YtfikaccgpjiedaaJRegI
import Derived.Test.YtfikaccgpjiedaaJJ10
namespace Go.Proofs.Ytfikaccgpjiedaa.RX
section
variable {P : Program} {Q : Exit → Act → World → Prop} {n : Nat}

/-- THE LAW, in a round. -/
theorem wpIn_region_plan {r : Option Nat} (R : World → World → Prop) (ps : List Plan) {id : Nat} {l : List Oper} {a : Act} {w : World} (hm : P.follows .mixedOrders = true) (hok : planOk l = true) (hd : noDefer l.toArray = true) (hL : ¬ LetsOut Q)
    (hrefl : ∀ w, R w w) (htr : ∀ w1 w2 w3, R w1 w2 → R w2 w3 → R w1 w3)
    (h : seqP P l.toArray Q R { w with drawn := w.drawn + 1 } l ps 0 a [] (fun _ => undef) []) : (Code.region id l.toArray true).wpIn (wideAt r) n P Q a w := by
  refine wpIn_region_any hm ?_
  refine any_in hd hL _ _ _ _ ?_
  have := run_any (planOk_spec hok) hrefl htr h l.length (Array.replicate l.length false) (fun j => (ps[j]?.map Plan.dummy).getD undef) { w with drawn := w.drawn + 1 } (by simp)
    (fun j o hj hd => by simp [Array.getD] at hd) (fun j p hp => ⟨by simp [hp, Plan.may_dummy], fun hd => by simp [Array.getD] at hd⟩) (hrefl _) (fun i _ j _ _ hd => by simp [Array.getD] at hd) (by simp)
  rw [state_none l 0 _ _ a (fun j _ => by simp [Array.getD])] at this
  simpa using this
end
end Go.Proofs.Ytfikaccgpjiedaa.RX

