/-
  What value.Fits answers, as walks over this translation.
-/
import Derived.Test.YtenpjfkiehcjlaaGreatDoorVText
namespace Go.Proofs.YtenpjfkiehcjlaaGreatDoor
open Go.RowKit

def fitsB (k n hi : Int) (t : List UInt8) (kind : Int) : Bool := decide (1 ≤ kind ∧ kind ≤ 4) && (mayB k n hi t && (decide (k = 0) || decide (k = kind)))

end Go.Proofs.YtenpjfkiehcjlaaGreatDoor
