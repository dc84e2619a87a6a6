/-
  DERIVED. GIVEN WITH THE SEED: THE CARDS: each row of YtenpjfkiehcjlaaDoorRows.lean that lists a variable, with what it lists TIED to the program's text (the seventh form; the later family's looks); each row that meets fmt, with fmt's text TOLD by the authors' own Lean function (tested against real Go, not proved from fmt's source: count such statements apart). THE CARD IS WHAT COUNTS. Prove the row's statement (the work); the ties are given (YtenpjfkiehcjlaaDoorTie.lean); close each card by the builder's one call (the guide's Derived/Test/ToyasCard.lean, 'card_holds'). Laid BY PROGRAM, IN A SANDBOX (cutbox-door.mjs). By AI agents, Wed Nov 11 2026. No macro, syntax, notation, axiom, sorry.
-/
import Derived.Test.YtenpjfkiehcjlaaDoorRows
import GoSem.ClaimSeven
namespace Go.Proofs.YtenpjfkiehcjlaaDoor
namespace Rows

/-- THE TIED CARD OF 'covenantlaw06.KeySame'. -/
def keySameCard : Claim7 := { stood := { row := keySameRow, standIns := [], harness := (true, "4732ccb70aae7b12dfd84e3cd6918df1c1feb58f6df75c99006f79221fbeb240"), looks := false }, kinds := [], alts := [], laidByText := true, laidKinds := [.data, .data, .data, .data, .pinned], laidTests := true, laidLooks := .later }
def KeySameCardSaid : Prop := Claim7.holds Tryd.pinned (.plain (OpenSpec.ofChange keySameSpec)) keySameCard

/-- THE SECOND FORM's CARD OF 'covenantlaw06.KeySame'. -/
def keySameUptoCard : Claim7 := { stood := { row := keySameUptoRow, standIns := [], harness := (true, "4732ccb70aae7b12dfd84e3cd6918df1c1feb58f6df75c99006f79221fbeb240"), looks := false }, kinds := [], alts := [], laidByText := true, laidKinds := [.data, .data, .data, .data, .pinned], laidTests := true, laidLooks := .later }
def KeySameUptoCardSaid : Prop := Claim7.holds Tryd.pinned (.plain (OpenSpec.upto keySameSpec)) keySameUptoCard
end Rows
end Go.Proofs.YtenpjfkiehcjlaaDoor
