/-
  NARROWER THAN 'FOR EVERY INPUT', by the rows' own cells (each row's printed sentence says how): RuleTells: loops · RuleLess: loops · RuleNamed: loops · RuleSame: loops.
  DERIVED. THE GIVEN ROWS OF THIS SEAT. 5 by the template 'for every input the law returns true; each argument reads behind the call as it read before'; 0 by the template 'total and deterministic' (their statements: YtkipnkbmpgjcoaaTotals.lean).
  GIVEN WITH THE SEED: the statements are not yours to turn. If you find one false, say at which input.
  Laid BY PROGRAM, IN A SANDBOX (cutbox-rows.mjs): the forced cells as the released guide's own fill.sh prints them over the translation 5261a3d6cf6f62c6… (all of the seat's roots in one cut). By AI agents, Wed Nov 11 2026. No macro, syntax, notation, axiom, sorry.
-/
import Derived.Test.YtkipnkbmpgjcoaaChecked
import GoSem.Claim
import GoSem.ClaimJoined
import GoSem.ClaimMapViews
import Derived.JoinedTies
import Derived.KernelRfl
namespace Go.Proofs.Ytkipnkbmpgjcoaa
/- THE CELL 'sum', in the pinned program and in every row, IS THE sha256 OF THE DUMP (.gsa) THAT YtkipnkbmpgjcoaaProg.lean LOADS. Nothing in Lean hashes anything: it is a label: what it is worth is what the hold of that sum in a sandbox is worth. -/
noncomputable def Try.pinned : Pinned := { name := "ytkipnkbmpgjcoaa", sum := "5261a3d6cf6f62c6e4e1f307eb36e18e53398b8db8100191ef8fbb5db6ca9c04", checked := Try.checked }
namespace Rows
def none {H : Type} : Left H := { results := [], args := [] }

/-- 'covenantlaw08.RuleTells': WHATEVER THE INPUT: true; the input reads as it did. -/
def ruleTellsSpec : ChangeSpec := { name := "ruleTells", fn := fun _ => fun
  | [d1, d2, d3, d4, d5] => { results := [.lit (.bool true)], args := [d1, d2, d3, d4, d5] }
  | _ => none }
def ruleTellsRow : OpenClaim := { program := "ytkipnkbmpgjcoaa", sum := "5261a3d6cf6f62c6e4e1f307eb36e18e53398b8db8100191ef8fbb5db6ca9c04", func := "covenant/covenantlaw08.RuleTells", spec := "ruleTells", unfollowed := true, recurses := true, loops := true, plainKeys := false, apart := false }
def RuleTellsSaid : Prop := ruleTellsRow.holds Try.pinned (OpenSpec.ofChange ruleTellsSpec)

/-- ITS FALSE NEIGHBOUR: 'it returns false'. Refute it at one input. -/
def ruleTellsWrong : ChangeSpec := { name := "ruleTells", fn := fun _ => fun
  | [d1, d2, d3, d4, d5] => { results := [.lit (.bool false)], args := [d1, d2, d3, d4, d5] }
  | _ => none }
def RuleTellsWrongFalsely : Prop := ruleTellsRow.holds Try.pinned (OpenSpec.ofChange ruleTellsWrong)

/-- 'covenantlaw08.RuleNames': WHATEVER THE INPUT: true; the input reads as it did. -/
def ruleNamesSpec : ChangeSpec := { name := "ruleNames", fn := fun _ => fun
  | [] => { results := [.lit (.bool true)], args := [] }
  | _ => none }
def ruleNamesRow : OpenClaim := { program := "ytkipnkbmpgjcoaa", sum := "5261a3d6cf6f62c6e4e1f307eb36e18e53398b8db8100191ef8fbb5db6ca9c04", func := "covenant/covenantlaw08.RuleNames", spec := "ruleNames", unfollowed := true, recurses := true, plainKeys := false, apart := false }
def RuleNamesSaid : Prop := ruleNamesRow.holds Try.pinned (OpenSpec.ofChange ruleNamesSpec)

/-- ITS FALSE NEIGHBOUR: 'it returns false'. Refute it at one input. -/
def ruleNamesWrong : ChangeSpec := { name := "ruleNames", fn := fun _ => fun
  | [] => { results := [.lit (.bool false)], args := [] }
  | _ => none }
def RuleNamesWrongFalsely : Prop := ruleNamesRow.holds Try.pinned (OpenSpec.ofChange ruleNamesWrong)

/-- 'covenantlaw08.RuleLess': WHATEVER THE INPUT: true; the input reads as it did. -/
def ruleLessSpec : ChangeSpec := { name := "ruleLess", fn := fun _ => fun
  | [d1, d2, d3, d4, d5, d6] => { results := [.lit (.bool true)], args := [d1, d2, d3, d4, d5, d6] }
  | _ => none }
def ruleLessRow : OpenClaim := { program := "ytkipnkbmpgjcoaa", sum := "5261a3d6cf6f62c6e4e1f307eb36e18e53398b8db8100191ef8fbb5db6ca9c04", func := "covenant/covenantlaw08.RuleLess", spec := "ruleLess", unfollowed := true, recurses := true, loops := true, plainKeys := false, apart := false }
def RuleLessSaid : Prop := ruleLessRow.holds Try.pinned (OpenSpec.ofChange ruleLessSpec)

/-- ITS FALSE NEIGHBOUR: 'it returns false'. Refute it at one input. -/
def ruleLessWrong : ChangeSpec := { name := "ruleLess", fn := fun _ => fun
  | [d1, d2, d3, d4, d5, d6] => { results := [.lit (.bool false)], args := [d1, d2, d3, d4, d5, d6] }
  | _ => none }
def RuleLessWrongFalsely : Prop := ruleLessRow.holds Try.pinned (OpenSpec.ofChange ruleLessWrong)

/-- 'covenantlaw08.RuleNamed': WHATEVER THE INPUT: true; the input reads as it did. -/
def ruleNamedSpec : ChangeSpec := { name := "ruleNamed", fn := fun _ => fun
  | [d1, d2, d3, d4, d5, d6] => { results := [.lit (.bool true)], args := [d1, d2, d3, d4, d5, d6] }
  | _ => none }
def ruleNamedRow : OpenClaim := { program := "ytkipnkbmpgjcoaa", sum := "5261a3d6cf6f62c6e4e1f307eb36e18e53398b8db8100191ef8fbb5db6ca9c04", func := "covenant/covenantlaw08.RuleNamed", spec := "ruleNamed", unfollowed := true, recurses := true, loops := true, plainKeys := false, apart := false }
def RuleNamedSaid : Prop := ruleNamedRow.holds Try.pinned (OpenSpec.ofChange ruleNamedSpec)

/-- ITS FALSE NEIGHBOUR: 'it returns false'. Refute it at one input. -/
def ruleNamedWrong : ChangeSpec := { name := "ruleNamed", fn := fun _ => fun
  | [d1, d2, d3, d4, d5, d6] => { results := [.lit (.bool false)], args := [d1, d2, d3, d4, d5, d6] }
  | _ => none }
def RuleNamedWrongFalsely : Prop := ruleNamedRow.holds Try.pinned (OpenSpec.ofChange ruleNamedWrong)

/-- 'covenantlaw08.RuleSame': WHATEVER THE INPUT: true; the input reads as it did. -/
def ruleSameSpec : ChangeSpec := { name := "ruleSame", fn := fun _ => fun
  | [d1, d2, d3, d4] => { results := [.lit (.bool true)], args := [d1, d2, d3, d4] }
  | _ => none }
def ruleSameRow : OpenClaim := { program := "ytkipnkbmpgjcoaa", sum := "5261a3d6cf6f62c6e4e1f307eb36e18e53398b8db8100191ef8fbb5db6ca9c04", func := "covenant/covenantlaw08.RuleSame", spec := "ruleSame", unfollowed := true, recurses := true, loops := true, plainKeys := false, apart := false }
def RuleSameSaid : Prop := ruleSameRow.holds Try.pinned (OpenSpec.ofChange ruleSameSpec)

/-- ITS FALSE NEIGHBOUR: 'it returns false'. Refute it at one input. -/
def ruleSameWrong : ChangeSpec := { name := "ruleSame", fn := fun _ => fun
  | [d1, d2, d3, d4] => { results := [.lit (.bool false)], args := [d1, d2, d3, d4] }
  | _ => none }
def RuleSameWrongFalsely : Prop := ruleSameRow.holds Try.pinned (OpenSpec.ofChange ruleSameWrong)

/- THE SECOND FORM. 'bulk': how many values and letters a reading holds, each counted each time it is reached (what is shared counts as often as it is met; a slice's spare places count too). A statement '..UptoSaid' is the law's where the arguments, and the package variables that the reading takes, are together of bulk at most 1048576: NARROWER than '..Said'. Prove '..Said' where nothing that the law and all that it calls make is longer than what came in: it says more and counts as full. Else prove '..UptoSaid'. A law counts once. -/
mutual
def uptoBulk {H : Type} : DataW H → Nat
  | .lit (.string bytes) => bytes.length + 1
  | .lit _ => 1
  | .nil => 1
  | .ptr d => uptoBulk d + 1
  | .slice elems spare => uptoBulkAll elems + uptoBulkAll spare + 1
  | .agg parts => uptoBulkAll parts + 1
  | .iface _ d => uptoBulk d + 1
  | .map entries => uptoBulkEntries entries + 1
  | .held _ => 1
def uptoBulkAll {H : Type} : List (DataW H) → Nat
  | [] => 0
  | d :: r => uptoBulk d + uptoBulkAll r
def uptoBulkEntries {H : Type} : List (Lit × DataW H) → Nat
  | [] => 0
  | x :: r => uptoBulkEntry x + uptoBulkEntries r
def uptoBulkEntry {H : Type} : Lit × DataW H → Nat
  | (.string bytes, d) => bytes.length + uptoBulk d + 1
  | (_, d) => uptoBulk d + 1
 end
def uptoSmall : (H : Type) → List (DataW H) → Bool := fun _ ds => decide (uptoBulkAll ds ≤ 1048576)
def OpenSpec.upto (s : _root_.Go.ChangeSpec) : _root_.Go.OpenSpec := { _root_.Go.OpenSpec.ofChange s with cond := some uptoSmall }

/-- 'covenantlaw08.RuleTells', WHERE WHAT IT READS IS OF BULK AT MOST 1048576: true; the input reads as it did. -/
def ruleTellsUptoRow : OpenClaim := { program := "ytkipnkbmpgjcoaa", sum := "5261a3d6cf6f62c6e4e1f307eb36e18e53398b8db8100191ef8fbb5db6ca9c04", func := "covenant/covenantlaw08.RuleTells", spec := "ruleTells", unfollowed := true, recurses := true, loops := true, plainKeys := false, apart := false, narrowed := true }
def RuleTellsUptoSaid : Prop := ruleTellsUptoRow.holds Try.pinned (OpenSpec.upto ruleTellsSpec)

/-- 'covenantlaw08.RuleNames', WHERE WHAT IT READS IS OF BULK AT MOST 1048576: true; the input reads as it did. -/
def ruleNamesUptoRow : OpenClaim := { program := "ytkipnkbmpgjcoaa", sum := "5261a3d6cf6f62c6e4e1f307eb36e18e53398b8db8100191ef8fbb5db6ca9c04", func := "covenant/covenantlaw08.RuleNames", spec := "ruleNames", unfollowed := true, recurses := true, plainKeys := false, apart := false, narrowed := true }
def RuleNamesUptoSaid : Prop := ruleNamesUptoRow.holds Try.pinned (OpenSpec.upto ruleNamesSpec)

/-- 'covenantlaw08.RuleLess', WHERE WHAT IT READS IS OF BULK AT MOST 1048576: true; the input reads as it did. -/
def ruleLessUptoRow : OpenClaim := { program := "ytkipnkbmpgjcoaa", sum := "5261a3d6cf6f62c6e4e1f307eb36e18e53398b8db8100191ef8fbb5db6ca9c04", func := "covenant/covenantlaw08.RuleLess", spec := "ruleLess", unfollowed := true, recurses := true, loops := true, plainKeys := false, apart := false, narrowed := true }
def RuleLessUptoSaid : Prop := ruleLessUptoRow.holds Try.pinned (OpenSpec.upto ruleLessSpec)

/-- 'covenantlaw08.RuleNamed', WHERE WHAT IT READS IS OF BULK AT MOST 1048576: true; the input reads as it did. -/
def ruleNamedUptoRow : OpenClaim := { program := "ytkipnkbmpgjcoaa", sum := "5261a3d6cf6f62c6e4e1f307eb36e18e53398b8db8100191ef8fbb5db6ca9c04", func := "covenant/covenantlaw08.RuleNamed", spec := "ruleNamed", unfollowed := true, recurses := true, loops := true, plainKeys := false, apart := false, narrowed := true }
def RuleNamedUptoSaid : Prop := ruleNamedUptoRow.holds Try.pinned (OpenSpec.upto ruleNamedSpec)

/-- 'covenantlaw08.RuleSame', WHERE WHAT IT READS IS OF BULK AT MOST 1048576: true; the input reads as it did. -/
def ruleSameUptoRow : OpenClaim := { program := "ytkipnkbmpgjcoaa", sum := "5261a3d6cf6f62c6e4e1f307eb36e18e53398b8db8100191ef8fbb5db6ca9c04", func := "covenant/covenantlaw08.RuleSame", spec := "ruleSame", unfollowed := true, recurses := true, loops := true, plainKeys := false, apart := false, narrowed := true }
def RuleSameUptoSaid : Prop := ruleSameUptoRow.holds Try.pinned (OpenSpec.upto ruleSameSpec)

end Rows
end Go.Proofs.Ytkipnkbmpgjcoaa
