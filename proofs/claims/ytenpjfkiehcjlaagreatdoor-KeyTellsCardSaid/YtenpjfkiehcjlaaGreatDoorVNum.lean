/-
  What value.readNumber and strings.Clone answer, as walks over this translation.
-/
import Derived.Test.YtenpjfkiehcjlaaGreatDoorVBase
import Derived.Test.YtenpjfkiehcjlaaGreatDoorReg
import Derived.Lib.AtoiErrMem
import Derived.Deep.QuietTactic
import Derived.BigQuiet
namespace Go.Proofs.YtenpjfkiehcjlaaGreatDoor
open Go.RowKit

def numOK (l : List UInt8) : Bool := match Lib.parseIntB 64 l with | .ok _ => true | _ => false
def numV (l : List UInt8) : Int := match Lib.parseIntB 64 l with | .ok v => v | .range => Lib.intSat 64 l | _ => 0

set_option maxHeartbeats 400000 in
theorem clone_any (s : ByteArray) (hs : s.size ≤ 281474976710656) (w : World) :
    Calls Tryz.prog 36 #[.string s] w fun e w' => e = .returned (.string s) ∧ Below w.heap.size w w' := by
  go_enter Tryz.func36, Tryz.ntmps36
  go_wp2_with fail
  refine (Tryz.stringslite_Clone s _ hs).mono ?_
  rintro e w1 ⟨rfl, hb⟩
  go_wp2_with fail
  go_ret
  exact ⟨rfl, hb⟩

end Go.Proofs.YtenpjfkiehcjlaaGreatDoor
