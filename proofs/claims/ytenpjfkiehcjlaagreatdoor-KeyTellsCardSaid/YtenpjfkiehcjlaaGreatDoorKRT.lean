/-
  The document's own text of a value, in one form.
-/
import Derived.Test.YtenpjfkiehcjlaaGreatDoorVRText
import Derived.Test.YtenpjfkiehcjlaaGreatDoorVTwo
namespace Go.Proofs.YtenpjfkiehcjlaaGreatDoor
open Go.RowKit

theorem rtext_is (k n hi : Int) (b1 : I64 n) (b2 : I64 hi) (t tx : ByteArray) (h : textL k n hi t.data.toList = tx.data.toList) (w : World) :
    Calls Tryz.prog 44 #[.agg #[.int .u8 k, .int .i64 n, .int .i64 hi, .string t]] w fun e w' => e = .returned (.string tx) ∧ Below w.heap.size w w' :=
  (rtext_any k n hi b1.1 b1.2 b2.1 b2.2 t w).mono fun _ _ hq => by rw [h, ba_eta] at hq; exact hq

end Go.Proofs.YtenpjfkiehcjlaaGreatDoor
