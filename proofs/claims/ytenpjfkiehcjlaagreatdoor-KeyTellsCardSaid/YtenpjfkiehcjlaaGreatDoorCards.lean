/-
  DERIVED. GIVEN WITH THE SEED: THE CARDS: each row of YtenpjfkiehcjlaaGreatDoorRows.lean that lists a variable, with what it lists TIED to the program's text (the seventh form; the later family's looks); each row that meets fmt, with fmt's text TOLD by the authors' own Lean function (tested against real Go, not proved from fmt's source: count such statements apart). THE CARD IS WHAT COUNTS. Prove the row's statement (the work); the ties are given (YtenpjfkiehcjlaaGreatDoorTie.lean); close each card by the builder's one call (the guide's Derived/Test/ToyasCard.lean, 'card_holds'). Laid BY PROGRAM, IN A SANDBOX (cutbox-door.mjs). By AI agents, Wed Nov 11 2026. No macro, syntax, notation, axiom, sorry.
-/
import Derived.Test.YtenpjfkiehcjlaaGreatDoorRows
import GoSem.ClaimSeven
namespace Go.Proofs.YtenpjfkiehcjlaaGreatDoor
namespace Rows

/-- THE TIED CARD OF 'covenantlaw06.KeyTells'. -/
def keyTellsCard : Claim7 := { stood := { row := keyTellsRow, standIns := [], harness := (true, "2991bdda548be98a102c903771221d626720236d579407be752408184e15a076"), looks := false }, kinds := [], alts := [], laidByText := true, laidKinds := [.data, .data, .data, .data, .pinned], laidTests := true, laidLooks := .later }
def KeyTellsCardSaid : Prop := Claim7.holds Tryz.pinned (.plain (OpenSpec.ofChange keyTellsSpec)) keyTellsCard

/-- THE SECOND FORM's CARD OF 'covenantlaw06.KeyTells'. -/
def keyTellsUptoCard : Claim7 := { stood := { row := keyTellsUptoRow, standIns := [], harness := (true, "2991bdda548be98a102c903771221d626720236d579407be752408184e15a076"), looks := false }, kinds := [], alts := [], laidByText := true, laidKinds := [.data, .data, .data, .data, .pinned], laidTests := true, laidLooks := .later }
def KeyTellsUptoCardSaid : Prop := Claim7.holds Tryz.pinned (.plain (OpenSpec.upto keyTellsSpec)) keyTellsUptoCard
end Rows
end Go.Proofs.YtenpjfkiehcjlaaGreatDoor
