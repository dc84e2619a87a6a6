/-
  No cell of these rows narrows 'for every input' (looked for: loops, veiled, ifaces, maps, wideKeys, modest, calm, conditions, laid).
  DERIVED. THE GIVEN ROWS OF THIS SEAT. 5 by the template 'for every input the law returns true; each argument reads behind the call as it read before'; 0 by the template 'total and deterministic' (their statements: YtjjhmfpdbjflmaaTotals.lean).
  GIVEN WITH THE SEED: the statements are not yours to turn. If you find one false, say at which input.
  Laid BY PROGRAM, IN A SANDBOX (cutbox-rows.mjs): the forced cells as the released guide's own fill.sh prints them over the translation 62a5fcae38e04162… (all of the seat's roots in one cut). By AI agents, Wed Nov 11 2026. No macro, syntax, notation, axiom, sorry.
-/
import Derived.Test.YtjjhmfpdbjflmaaChecked
import GoSem.Claim
import GoSem.ClaimJoined
import GoSem.ClaimMapViews
import Derived.JoinedTies
import Derived.KernelRfl
namespace Go.Proofs.Ytjjhmfpdbjflmaa
/- THE CELL 'sum', in the pinned program and in every row, IS THE sha256 OF THE DUMP (.gsa) THAT YtjjhmfpdbjflmaaProg.lean LOADS. Nothing in Lean hashes anything: it is a label: what it is worth is what the hold of that sum in a sandbox is worth. -/
noncomputable def Try.pinned : Pinned := { name := "ytjjhmfpdbjflmaa", sum := "62a5fcae38e04162b4a6f718a351f709f757b235c456dd79b2cf9b62122505b3", checked := Try.checked }
namespace Rows
def none {H : Type} : Left H := { results := [], args := [] }

/-- 'covenantlaw14.QueuePlays': WHATEVER THE INPUT: true; the input reads as it did. -/
def queuePlaysSpec : ChangeSpec := { name := "queuePlays", fn := fun _ => fun
  | [d1, d2] => { results := [.lit (.bool true)], args := [d1, d2] }
  | _ => none }
def queuePlaysRow : OpenClaim := { program := "ytjjhmfpdbjflmaa", sum := "62a5fcae38e04162b4a6f718a351f709f757b235c456dd79b2cf9b62122505b3", func := "covenant/covenantlaw14.QueuePlays", spec := "queuePlays", inPlace := ["maps.clone"], unfollowed := true, recurses := true, apart := false }
def QueuePlaysSaid : Prop := queuePlaysRow.holds Try.pinned (OpenSpec.ofChange queuePlaysSpec)

/-- ITS FALSE NEIGHBOUR: 'it returns false'. Refute it at one input. -/
def queuePlaysWrong : ChangeSpec := { name := "queuePlays", fn := fun _ => fun
  | [d1, d2] => { results := [.lit (.bool false)], args := [d1, d2] }
  | _ => none }
def QueuePlaysWrongFalsely : Prop := queuePlaysRow.holds Try.pinned (OpenSpec.ofChange queuePlaysWrong)

/-- 'covenantlaw14.QueueNames': WHATEVER THE INPUT: true; the input reads as it did. -/
def queueNamesSpec : ChangeSpec := { name := "queueNames", fn := fun _ => fun
  | [] => { results := [.lit (.bool true)], args := [] }
  | _ => none }
def queueNamesRow : OpenClaim := { program := "ytjjhmfpdbjflmaa", sum := "62a5fcae38e04162b4a6f718a351f709f757b235c456dd79b2cf9b62122505b3", func := "covenant/covenantlaw14.QueueNames", spec := "queueNames", inPlace := ["maps.clone"], unfollowed := true, recurses := true, apart := false }
def QueueNamesSaid : Prop := queueNamesRow.holds Try.pinned (OpenSpec.ofChange queueNamesSpec)

/-- ITS FALSE NEIGHBOUR: 'it returns false'. Refute it at one input. -/
def queueNamesWrong : ChangeSpec := { name := "queueNames", fn := fun _ => fun
  | [] => { results := [.lit (.bool false)], args := [] }
  | _ => none }
def QueueNamesWrongFalsely : Prop := queueNamesRow.holds Try.pinned (OpenSpec.ofChange queueNamesWrong)

/-- 'covenantlaw14.QueueTogether': WHATEVER THE INPUT: true; the input reads as it did. -/
def queueTogetherSpec : ChangeSpec := { name := "queueTogether", fn := fun _ => fun
  | [d1, d2] => { results := [.lit (.bool true)], args := [d1, d2] }
  | _ => none }
def queueTogetherRow : OpenClaim := { program := "ytjjhmfpdbjflmaa", sum := "62a5fcae38e04162b4a6f718a351f709f757b235c456dd79b2cf9b62122505b3", func := "covenant/covenantlaw14.QueueTogether", spec := "queueTogether", unfollowed := true, recurses := true, apart := false }
def QueueTogetherSaid : Prop := queueTogetherRow.holds Try.pinned (OpenSpec.ofChange queueTogetherSpec)

/-- ITS FALSE NEIGHBOUR: 'it returns false'. Refute it at one input. -/
def queueTogetherWrong : ChangeSpec := { name := "queueTogether", fn := fun _ => fun
  | [d1, d2] => { results := [.lit (.bool false)], args := [d1, d2] }
  | _ => none }
def QueueTogetherWrongFalsely : Prop := queueTogetherRow.holds Try.pinned (OpenSpec.ofChange queueTogetherWrong)

/-- 'covenantlaw14.QueueEnd': WHATEVER THE INPUT: true; the input reads as it did. -/
def queueEndSpec : ChangeSpec := { name := "queueEnd", fn := fun _ => fun
  | [d1, d2] => { results := [.lit (.bool true)], args := [d1, d2] }
  | _ => none }
def queueEndRow : OpenClaim := { program := "ytjjhmfpdbjflmaa", sum := "62a5fcae38e04162b4a6f718a351f709f757b235c456dd79b2cf9b62122505b3", func := "covenant/covenantlaw14.QueueEnd", spec := "queueEnd", inPlace := ["maps.clone"], unfollowed := true, recurses := true, apart := false }
def QueueEndSaid : Prop := queueEndRow.holds Try.pinned (OpenSpec.ofChange queueEndSpec)

/-- ITS FALSE NEIGHBOUR: 'it returns false'. Refute it at one input. -/
def queueEndWrong : ChangeSpec := { name := "queueEnd", fn := fun _ => fun
  | [d1, d2] => { results := [.lit (.bool false)], args := [d1, d2] }
  | _ => none }
def QueueEndWrongFalsely : Prop := queueEndRow.holds Try.pinned (OpenSpec.ofChange queueEndWrong)

/-- 'covenantlaw14.QueueElse': WHATEVER THE INPUT: true; the input reads as it did. -/
def queueElseSpec : ChangeSpec := { name := "queueElse", fn := fun _ => fun
  | [d1, d2, d3] => { results := [.lit (.bool true)], args := [d1, d2, d3] }
  | _ => none }
def queueElseRow : OpenClaim := { program := "ytjjhmfpdbjflmaa", sum := "62a5fcae38e04162b4a6f718a351f709f757b235c456dd79b2cf9b62122505b3", func := "covenant/covenantlaw14.QueueElse", spec := "queueElse", inPlace := ["maps.clone"], unfollowed := true, recurses := true, apart := false }
def QueueElseSaid : Prop := queueElseRow.holds Try.pinned (OpenSpec.ofChange queueElseSpec)

/-- ITS FALSE NEIGHBOUR: 'it returns false'. Refute it at one input. -/
def queueElseWrong : ChangeSpec := { name := "queueElse", fn := fun _ => fun
  | [d1, d2, d3] => { results := [.lit (.bool false)], args := [d1, d2, d3] }
  | _ => none }
def QueueElseWrongFalsely : Prop := queueElseRow.holds Try.pinned (OpenSpec.ofChange queueElseWrong)

/- THE SECOND FORM. 'bulk': how many values and letters a reading holds, each counted each time it is reached (what is shared counts as often as it is met; a slice's spare places count too). A statement '..UptoSaid' is the law's where the arguments, and the package variables that the reading takes, are together of bulk at most 1048576: NARROWER than '..Said'. Prove '..Said' where nothing that the law and all that it calls make is longer than what came in: it says more and counts as full. Else prove '..UptoSaid'. A law counts once. -/
mutual
def uptoBulk {H : Type} : DataW H → Nat
  | .lit (.string bytes) => bytes.length + 1
  | .lit _ => 1
  | .nil => 1
  | .ptr d => uptoBulk d + 1
  | .slice elems spare => uptoBulkAll elems + uptoBulkAll spare + 1
  | .agg parts => uptoBulkAll parts + 1
  | .iface _ d => uptoBulk d + 1
  | .map entries => uptoBulkEntries entries + 1
  | .held _ => 1
def uptoBulkAll {H : Type} : List (DataW H) → Nat
  | [] => 0
  | d :: r => uptoBulk d + uptoBulkAll r
def uptoBulkEntries {H : Type} : List (Lit × DataW H) → Nat
  | [] => 0
  | x :: r => uptoBulkEntry x + uptoBulkEntries r
def uptoBulkEntry {H : Type} : Lit × DataW H → Nat
  | (.string bytes, d) => bytes.length + uptoBulk d + 1
  | (_, d) => uptoBulk d + 1
 end
def uptoSmall : (H : Type) → List (DataW H) → Bool := fun _ ds => decide (uptoBulkAll ds ≤ 1048576)
def OpenSpec.upto (s : _root_.Go.ChangeSpec) : _root_.Go.OpenSpec := { _root_.Go.OpenSpec.ofChange s with cond := some uptoSmall }

/-- 'covenantlaw14.QueuePlays', WHERE WHAT IT READS IS OF BULK AT MOST 1048576: true; the input reads as it did. -/
def queuePlaysUptoRow : OpenClaim := { program := "ytjjhmfpdbjflmaa", sum := "62a5fcae38e04162b4a6f718a351f709f757b235c456dd79b2cf9b62122505b3", func := "covenant/covenantlaw14.QueuePlays", spec := "queuePlays", inPlace := ["maps.clone"], unfollowed := true, recurses := true, apart := false, narrowed := true }
def QueuePlaysUptoSaid : Prop := queuePlaysUptoRow.holds Try.pinned (OpenSpec.upto queuePlaysSpec)

/-- 'covenantlaw14.QueueNames', WHERE WHAT IT READS IS OF BULK AT MOST 1048576: true; the input reads as it did. -/
def queueNamesUptoRow : OpenClaim := { program := "ytjjhmfpdbjflmaa", sum := "62a5fcae38e04162b4a6f718a351f709f757b235c456dd79b2cf9b62122505b3", func := "covenant/covenantlaw14.QueueNames", spec := "queueNames", inPlace := ["maps.clone"], unfollowed := true, recurses := true, apart := false, narrowed := true }
def QueueNamesUptoSaid : Prop := queueNamesUptoRow.holds Try.pinned (OpenSpec.upto queueNamesSpec)

/-- 'covenantlaw14.QueueTogether', WHERE WHAT IT READS IS OF BULK AT MOST 1048576: true; the input reads as it did. -/
def queueTogetherUptoRow : OpenClaim := { program := "ytjjhmfpdbjflmaa", sum := "62a5fcae38e04162b4a6f718a351f709f757b235c456dd79b2cf9b62122505b3", func := "covenant/covenantlaw14.QueueTogether", spec := "queueTogether", unfollowed := true, recurses := true, apart := false, narrowed := true }
def QueueTogetherUptoSaid : Prop := queueTogetherUptoRow.holds Try.pinned (OpenSpec.upto queueTogetherSpec)

/-- 'covenantlaw14.QueueEnd', WHERE WHAT IT READS IS OF BULK AT MOST 1048576: true; the input reads as it did. -/
def queueEndUptoRow : OpenClaim := { program := "ytjjhmfpdbjflmaa", sum := "62a5fcae38e04162b4a6f718a351f709f757b235c456dd79b2cf9b62122505b3", func := "covenant/covenantlaw14.QueueEnd", spec := "queueEnd", inPlace := ["maps.clone"], unfollowed := true, recurses := true, apart := false, narrowed := true }
def QueueEndUptoSaid : Prop := queueEndUptoRow.holds Try.pinned (OpenSpec.upto queueEndSpec)

/-- 'covenantlaw14.QueueElse', WHERE WHAT IT READS IS OF BULK AT MOST 1048576: true; the input reads as it did. -/
def queueElseUptoRow : OpenClaim := { program := "ytjjhmfpdbjflmaa", sum := "62a5fcae38e04162b4a6f718a351f709f757b235c456dd79b2cf9b62122505b3", func := "covenant/covenantlaw14.QueueElse", spec := "queueElse", inPlace := ["maps.clone"], unfollowed := true, recurses := true, apart := false, narrowed := true }
def QueueElseUptoSaid : Prop := queueElseUptoRow.holds Try.pinned (OpenSpec.upto queueElseSpec)

end Rows
end Go.Proofs.Ytjjhmfpdbjflmaa
