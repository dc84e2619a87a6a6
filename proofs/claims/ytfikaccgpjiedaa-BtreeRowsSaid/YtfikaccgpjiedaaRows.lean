/-
  No cell of these rows narrows 'for every input' (looked for: loops, veiled, ifaces, maps, wideKeys, modest, calm, conditions, laid).
  DERIVED. THE GIVEN ROWS OF THIS SEAT. 4 by the template 'for every input the law returns true; each argument reads behind the call as it read before'; 0 by the template 'total and deterministic' (their statements: YtfikaccgpjiedaaTotals.lean).
  GIVEN WITH THE SEED: the statements are not yours to turn. If you find one false, say at which input.
  Laid BY PROGRAM, IN A SANDBOX (cutbox-rows.mjs): the forced cells as the released guide's own fill.sh prints them over the translation 30ad457f768df9c3… (all of the seat's roots in one cut). By AI agents, Wed Nov 11 2026. No macro, syntax, notation, axiom, sorry.
-/
import Derived.Test.YtfikaccgpjiedaaChecked
import GoSem.Claim
import GoSem.ClaimJoined
import GoSem.ClaimMapViews
import Derived.JoinedTies
import Derived.KernelRfl
namespace Go.Proofs.Ytfikaccgpjiedaa
/- THE CELL 'sum', in the pinned program and in every row, IS THE sha256 OF THE DUMP (.gsa) THAT YtfikaccgpjiedaaProg.lean LOADS. Nothing in Lean hashes anything: it is a label: what it is worth is what the hold of that sum in a sandbox is worth. -/
noncomputable def Try.pinned : Pinned := { name := "ytfikaccgpjiedaa", sum := "30ad457f768df9c3d0e1538a9373a93f6c439c1ded32db7513ed37cae4e8ffef", checked := Try.checked }
namespace Rows
def none {H : Type} : Left H := { results := [], args := [] }

/-- 'covenantlaw07.BtreeWell': WHATEVER THE INPUT: true; the input reads as it did. -/
def btreeWellSpec : ChangeSpec := { name := "btreeWell", fn := fun _ => fun
  | [d] => { results := [.lit (.bool true)], args := [d] }
  | _ => none }
def btreeWellRow : OpenClaim := { program := "ytfikaccgpjiedaa", sum := "30ad457f768df9c3d0e1538a9373a93f6c439c1ded32db7513ed37cae4e8ffef", func := "covenant/covenantlaw07.BtreeWell", spec := "btreeWell", inPlace := ["slices.overlaps[covenant/btree.Entry]", "slices.overlaps[*covenant/btree.node]"], unfollowed := true, recurses := true, apart := false }
def BtreeWellSaid : Prop := btreeWellRow.holds Try.pinned (OpenSpec.ofChange btreeWellSpec)

/-- ITS FALSE NEIGHBOUR: 'it returns false'. Refute it at one input. -/
def btreeWellWrong : ChangeSpec := { name := "btreeWell", fn := fun _ => fun
  | [d] => { results := [.lit (.bool false)], args := [d] }
  | _ => none }
def BtreeWellWrongFalsely : Prop := btreeWellRow.holds Try.pinned (OpenSpec.ofChange btreeWellWrong)

/-- 'covenantlaw07.BtreeParts': WHATEVER THE INPUT: true; the input reads as it did. -/
def btreePartsSpec : ChangeSpec := { name := "btreeParts", fn := fun _ => fun
  | [d1, d2] => { results := [.lit (.bool true)], args := [d1, d2] }
  | _ => none }
def btreePartsRow : OpenClaim := { program := "ytfikaccgpjiedaa", sum := "30ad457f768df9c3d0e1538a9373a93f6c439c1ded32db7513ed37cae4e8ffef", func := "covenant/covenantlaw07.BtreeParts", spec := "btreeParts", inPlace := ["slices.overlaps[covenant/btree.Entry]", "slices.overlaps[*covenant/btree.node]"], unfollowed := true, recurses := true, apart := false }
def BtreePartsSaid : Prop := btreePartsRow.holds Try.pinned (OpenSpec.ofChange btreePartsSpec)

/-- ITS FALSE NEIGHBOUR: 'it returns false'. Refute it at one input. -/
def btreePartsWrong : ChangeSpec := { name := "btreeParts", fn := fun _ => fun
  | [d1, d2] => { results := [.lit (.bool false)], args := [d1, d2] }
  | _ => none }
def BtreePartsWrongFalsely : Prop := btreePartsRow.holds Try.pinned (OpenSpec.ofChange btreePartsWrong)

/-- 'covenantlaw07.BtreeRows': WHATEVER THE INPUT: true; the input reads as it did. -/
def btreeRowsSpec : ChangeSpec := { name := "btreeRows", fn := fun _ => fun
  | [d1, d2] => { results := [.lit (.bool true)], args := [d1, d2] }
  | _ => none }
def btreeRowsRow : OpenClaim := { program := "ytfikaccgpjiedaa", sum := "30ad457f768df9c3d0e1538a9373a93f6c439c1ded32db7513ed37cae4e8ffef", func := "covenant/covenantlaw07.BtreeRows", spec := "btreeRows", inPlace := ["slices.overlaps[covenant/btree.Entry]", "slices.overlaps[*covenant/btree.node]"], unfollowed := true, recurses := true, apart := false }
def BtreeRowsSaid : Prop := btreeRowsRow.holds Try.pinned (OpenSpec.ofChange btreeRowsSpec)

/-- ITS FALSE NEIGHBOUR: 'it returns false'. Refute it at one input. -/
def btreeRowsWrong : ChangeSpec := { name := "btreeRows", fn := fun _ => fun
  | [d1, d2] => { results := [.lit (.bool false)], args := [d1, d2] }
  | _ => none }
def BtreeRowsWrongFalsely : Prop := btreeRowsRow.holds Try.pinned (OpenSpec.ofChange btreeRowsWrong)

/-- 'covenantlaw07.BtreeCopies': WHATEVER THE INPUT: true; the input reads as it did. -/
def btreeCopiesSpec : ChangeSpec := { name := "btreeCopies", fn := fun _ => fun
  | [d1, d2] => { results := [.lit (.bool true)], args := [d1, d2] }
  | _ => none }
def btreeCopiesRow : OpenClaim := { program := "ytfikaccgpjiedaa", sum := "30ad457f768df9c3d0e1538a9373a93f6c439c1ded32db7513ed37cae4e8ffef", func := "covenant/covenantlaw07.BtreeCopies", spec := "btreeCopies", inPlace := ["slices.overlaps[covenant/btree.Entry]", "slices.overlaps[*covenant/btree.node]"], unfollowed := true, recurses := true, apart := false }
def BtreeCopiesSaid : Prop := btreeCopiesRow.holds Try.pinned (OpenSpec.ofChange btreeCopiesSpec)

/-- ITS FALSE NEIGHBOUR: 'it returns false'. Refute it at one input. -/
def btreeCopiesWrong : ChangeSpec := { name := "btreeCopies", fn := fun _ => fun
  | [d1, d2] => { results := [.lit (.bool false)], args := [d1, d2] }
  | _ => none }
def BtreeCopiesWrongFalsely : Prop := btreeCopiesRow.holds Try.pinned (OpenSpec.ofChange btreeCopiesWrong)

/- THE SECOND FORM. 'bulk': how many values and letters a reading holds, each counted each time it is reached (what is shared counts as often as it is met; a slice's spare places count too). A statement '..UptoSaid' is the law's where the arguments, and the package variables that the reading takes, are together of bulk at most 1048576: NARROWER than '..Said'. Prove '..Said' where nothing that the law and all that it calls make is longer than what came in: it says more and counts as full. Else prove '..UptoSaid'. A law counts once. -/
mutual
def uptoBulk {H : Type} : DataW H → Nat
  | .lit (.string bytes) => bytes.length + 1
  | .lit _ => 1
  | .nil => 1
  | .ptr d => uptoBulk d + 1
  | .slice elems spare => uptoBulkAll elems + uptoBulkAll spare + 1
  | .agg parts => uptoBulkAll parts + 1
  | .iface _ d => uptoBulk d + 1
  | .map entries => uptoBulkEntries entries + 1
  | .held _ => 1
def uptoBulkAll {H : Type} : List (DataW H) → Nat
  | [] => 0
  | d :: r => uptoBulk d + uptoBulkAll r
def uptoBulkEntries {H : Type} : List (Lit × DataW H) → Nat
  | [] => 0
  | x :: r => uptoBulkEntry x + uptoBulkEntries r
def uptoBulkEntry {H : Type} : Lit × DataW H → Nat
  | (.string bytes, d) => bytes.length + uptoBulk d + 1
  | (_, d) => uptoBulk d + 1
 end
def uptoSmall : (H : Type) → List (DataW H) → Bool := fun _ ds => decide (uptoBulkAll ds ≤ 1048576)
def OpenSpec.upto (s : _root_.Go.ChangeSpec) : _root_.Go.OpenSpec := { _root_.Go.OpenSpec.ofChange s with cond := some uptoSmall }

/-- 'covenantlaw07.BtreeWell', WHERE WHAT IT READS IS OF BULK AT MOST 1048576: true; the input reads as it did. -/
def btreeWellUptoRow : OpenClaim := { program := "ytfikaccgpjiedaa", sum := "30ad457f768df9c3d0e1538a9373a93f6c439c1ded32db7513ed37cae4e8ffef", func := "covenant/covenantlaw07.BtreeWell", spec := "btreeWell", inPlace := ["slices.overlaps[covenant/btree.Entry]", "slices.overlaps[*covenant/btree.node]"], unfollowed := true, recurses := true, apart := false, narrowed := true }
def BtreeWellUptoSaid : Prop := btreeWellUptoRow.holds Try.pinned (OpenSpec.upto btreeWellSpec)

/-- 'covenantlaw07.BtreeParts', WHERE WHAT IT READS IS OF BULK AT MOST 1048576: true; the input reads as it did. -/
def btreePartsUptoRow : OpenClaim := { program := "ytfikaccgpjiedaa", sum := "30ad457f768df9c3d0e1538a9373a93f6c439c1ded32db7513ed37cae4e8ffef", func := "covenant/covenantlaw07.BtreeParts", spec := "btreeParts", inPlace := ["slices.overlaps[covenant/btree.Entry]", "slices.overlaps[*covenant/btree.node]"], unfollowed := true, recurses := true, apart := false, narrowed := true }
def BtreePartsUptoSaid : Prop := btreePartsUptoRow.holds Try.pinned (OpenSpec.upto btreePartsSpec)

/-- 'covenantlaw07.BtreeRows', WHERE WHAT IT READS IS OF BULK AT MOST 1048576: true; the input reads as it did. -/
def btreeRowsUptoRow : OpenClaim := { program := "ytfikaccgpjiedaa", sum := "30ad457f768df9c3d0e1538a9373a93f6c439c1ded32db7513ed37cae4e8ffef", func := "covenant/covenantlaw07.BtreeRows", spec := "btreeRows", inPlace := ["slices.overlaps[covenant/btree.Entry]", "slices.overlaps[*covenant/btree.node]"], unfollowed := true, recurses := true, apart := false, narrowed := true }
def BtreeRowsUptoSaid : Prop := btreeRowsUptoRow.holds Try.pinned (OpenSpec.upto btreeRowsSpec)

/-- 'covenantlaw07.BtreeCopies', WHERE WHAT IT READS IS OF BULK AT MOST 1048576: true; the input reads as it did. -/
def btreeCopiesUptoRow : OpenClaim := { program := "ytfikaccgpjiedaa", sum := "30ad457f768df9c3d0e1538a9373a93f6c439c1ded32db7513ed37cae4e8ffef", func := "covenant/covenantlaw07.BtreeCopies", spec := "btreeCopies", inPlace := ["slices.overlaps[covenant/btree.Entry]", "slices.overlaps[*covenant/btree.node]"], unfollowed := true, recurses := true, apart := false, narrowed := true }
def BtreeCopiesUptoSaid : Prop := btreeCopiesUptoRow.holds Try.pinned (OpenSpec.upto btreeCopiesSpec)

end Rows
end Go.Proofs.Ytfikaccgpjiedaa
