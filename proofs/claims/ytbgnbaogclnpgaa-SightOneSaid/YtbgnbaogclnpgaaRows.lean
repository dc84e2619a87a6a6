/-
  No cell of these rows narrows 'for every input' (looked for: loops, veiled, ifaces, maps, wideKeys, modest, calm, conditions, laid).
  DERIVED. THE GIVEN ROWS OF THIS SEAT. 3 by the template 'for every input the law returns true; each argument reads behind the call as it read before'; 0 by the template 'total and deterministic' (their statements: YtbgnbaogclnpgaaTotals.lean).
  GIVEN WITH THE SEED: the statements are not yours to turn. If you find one false, say at which input.
  Laid BY PROGRAM, IN A SANDBOX (cutbox-rows.mjs): the forced cells as the released guide's own fill.sh prints them over the translation bf2090649407dbc3… (all of the seat's roots in one cut). By AI agents, Wed Nov 11 2026. No macro, syntax, notation, axiom, sorry.
-/
import Derived.Test.YtbgnbaogclnpgaaChecked
import GoSem.Claim
import GoSem.ClaimJoined
import GoSem.ClaimMapViews
import Derived.JoinedTies
import Derived.KernelRfl
namespace Go.Proofs.Ytbgnbaogclnpgaa
/- THE CELL 'sum', in the pinned program and in every row, IS THE sha256 OF THE DUMP (.gsa) THAT YtbgnbaogclnpgaaProg.lean LOADS. Nothing in Lean hashes anything: it is a label: what it is worth is what the hold of that sum in a sandbox is worth. -/
noncomputable def Try.pinned : Pinned := { name := "ytbgnbaogclnpgaa", sum := "bf2090649407dbc3cf9b95119a29c11a544feb6bb419aadbdf9a01f3a38693ba", checked := Try.checked }
namespace Rows
def none {H : Type} : Left H := { results := [], args := [] }

/-- 'covenantlaw12.SightOne': WHATEVER THE INPUT: true; the input reads as it did. -/
def sightOneSpec : ChangeSpec := { name := "sightOne", fn := fun _ => fun
  | [d1, d2] => { results := [.lit (.bool true)], args := [d1, d2] }
  | _ => none }
def sightOneRow : OpenClaim := { program := "ytbgnbaogclnpgaa", sum := "bf2090649407dbc3cf9b95119a29c11a544feb6bb419aadbdf9a01f3a38693ba", func := "covenant/covenantlaw12.SightOne", spec := "sightOne", unfollowed := true, recurses := true, apart := false }
def SightOneSaid : Prop := sightOneRow.holds Try.pinned (OpenSpec.ofChange sightOneSpec)

/-- ITS FALSE NEIGHBOUR: 'it returns false'. Refute it at one input. -/
def sightOneWrong : ChangeSpec := { name := "sightOne", fn := fun _ => fun
  | [d1, d2] => { results := [.lit (.bool false)], args := [d1, d2] }
  | _ => none }
def SightOneWrongFalsely : Prop := sightOneRow.holds Try.pinned (OpenSpec.ofChange sightOneWrong)

/-- 'covenantlaw12.SightDead': WHATEVER THE INPUT: true; the input reads as it did. -/
def sightDeadSpec : ChangeSpec := { name := "sightDead", fn := fun _ => fun
  | [d1, d2, d3, d4] => { results := [.lit (.bool true)], args := [d1, d2, d3, d4] }
  | _ => none }
def sightDeadRow : OpenClaim := { program := "ytbgnbaogclnpgaa", sum := "bf2090649407dbc3cf9b95119a29c11a544feb6bb419aadbdf9a01f3a38693ba", func := "covenant/covenantlaw12.SightDead", spec := "sightDead", unfollowed := true, recurses := true, apart := false }
def SightDeadSaid : Prop := sightDeadRow.holds Try.pinned (OpenSpec.ofChange sightDeadSpec)

/-- ITS FALSE NEIGHBOUR: 'it returns false'. Refute it at one input. -/
def sightDeadWrong : ChangeSpec := { name := "sightDead", fn := fun _ => fun
  | [d1, d2, d3, d4] => { results := [.lit (.bool false)], args := [d1, d2, d3, d4] }
  | _ => none }
def SightDeadWrongFalsely : Prop := sightDeadRow.holds Try.pinned (OpenSpec.ofChange sightDeadWrong)

/-- 'covenantlaw12.SightFresh': WHATEVER THE INPUT: true; the input reads as it did. -/
def sightFreshSpec : ChangeSpec := { name := "sightFresh", fn := fun _ => fun
  | [d1, d2, d3, d4, d5] => { results := [.lit (.bool true)], args := [d1, d2, d3, d4, d5] }
  | _ => none }
def sightFreshRow : OpenClaim := { program := "ytbgnbaogclnpgaa", sum := "bf2090649407dbc3cf9b95119a29c11a544feb6bb419aadbdf9a01f3a38693ba", func := "covenant/covenantlaw12.SightFresh", spec := "sightFresh", unfollowed := true, recurses := true, apart := false }
def SightFreshSaid : Prop := sightFreshRow.holds Try.pinned (OpenSpec.ofChange sightFreshSpec)

/-- ITS FALSE NEIGHBOUR: 'it returns false'. Refute it at one input. -/
def sightFreshWrong : ChangeSpec := { name := "sightFresh", fn := fun _ => fun
  | [d1, d2, d3, d4, d5] => { results := [.lit (.bool false)], args := [d1, d2, d3, d4, d5] }
  | _ => none }
def SightFreshWrongFalsely : Prop := sightFreshRow.holds Try.pinned (OpenSpec.ofChange sightFreshWrong)

/- THE SECOND FORM. 'bulk': how many values and letters a reading holds, each counted each time it is reached (what is shared counts as often as it is met; a slice's spare places count too). A statement '..UptoSaid' is the law's where the arguments, and the package variables that the reading takes, are together of bulk at most 1048576: NARROWER than '..Said'. Prove '..Said' where nothing that the law and all that it calls make is longer than what came in: it says more and counts as full. Else prove '..UptoSaid'. A law counts once. -/
mutual
def uptoBulk {H : Type} : DataW H → Nat
  | .lit (.string bytes) => bytes.length + 1
  | .lit _ => 1
  | .nil => 1
  | .ptr d => uptoBulk d + 1
  | .slice elems spare => uptoBulkAll elems + uptoBulkAll spare + 1
  | .agg parts => uptoBulkAll parts + 1
  | .iface _ d => uptoBulk d + 1
  | .map entries => uptoBulkEntries entries + 1
  | .held _ => 1
def uptoBulkAll {H : Type} : List (DataW H) → Nat
  | [] => 0
  | d :: r => uptoBulk d + uptoBulkAll r
def uptoBulkEntries {H : Type} : List (Lit × DataW H) → Nat
  | [] => 0
  | x :: r => uptoBulkEntry x + uptoBulkEntries r
def uptoBulkEntry {H : Type} : Lit × DataW H → Nat
  | (.string bytes, d) => bytes.length + uptoBulk d + 1
  | (_, d) => uptoBulk d + 1
 end
def uptoSmall : (H : Type) → List (DataW H) → Bool := fun _ ds => decide (uptoBulkAll ds ≤ 1048576)
def OpenSpec.upto (s : _root_.Go.ChangeSpec) : _root_.Go.OpenSpec := { _root_.Go.OpenSpec.ofChange s with cond := some uptoSmall }

/-- 'covenantlaw12.SightOne', WHERE WHAT IT READS IS OF BULK AT MOST 1048576: true; the input reads as it did. -/
def sightOneUptoRow : OpenClaim := { program := "ytbgnbaogclnpgaa", sum := "bf2090649407dbc3cf9b95119a29c11a544feb6bb419aadbdf9a01f3a38693ba", func := "covenant/covenantlaw12.SightOne", spec := "sightOne", unfollowed := true, recurses := true, apart := false, narrowed := true }
def SightOneUptoSaid : Prop := sightOneUptoRow.holds Try.pinned (OpenSpec.upto sightOneSpec)

/-- 'covenantlaw12.SightDead', WHERE WHAT IT READS IS OF BULK AT MOST 1048576: true; the input reads as it did. -/
def sightDeadUptoRow : OpenClaim := { program := "ytbgnbaogclnpgaa", sum := "bf2090649407dbc3cf9b95119a29c11a544feb6bb419aadbdf9a01f3a38693ba", func := "covenant/covenantlaw12.SightDead", spec := "sightDead", unfollowed := true, recurses := true, apart := false, narrowed := true }
def SightDeadUptoSaid : Prop := sightDeadUptoRow.holds Try.pinned (OpenSpec.upto sightDeadSpec)

/-- 'covenantlaw12.SightFresh', WHERE WHAT IT READS IS OF BULK AT MOST 1048576: true; the input reads as it did. -/
def sightFreshUptoRow : OpenClaim := { program := "ytbgnbaogclnpgaa", sum := "bf2090649407dbc3cf9b95119a29c11a544feb6bb419aadbdf9a01f3a38693ba", func := "covenant/covenantlaw12.SightFresh", spec := "sightFresh", unfollowed := true, recurses := true, apart := false, narrowed := true }
def SightFreshUptoSaid : Prop := sightFreshUptoRow.holds Try.pinned (OpenSpec.upto sightFreshSpec)

end Rows
end Go.Proofs.Ytbgnbaogclnpgaa
