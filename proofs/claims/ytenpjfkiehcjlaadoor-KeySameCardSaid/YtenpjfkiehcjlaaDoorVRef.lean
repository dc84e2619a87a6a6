/-
  What the document's own answers covenantref01.May and covenantref01.Fits are, as walks over this translation.
-/
import Derived.Test.YtenpjfkiehcjlaaDoorVText
namespace Go.Proofs.YtenpjfkiehcjlaaDoor
open Go.RowKit

theorem ref_end {n hi : Int} {b : Bool} {k : Int} {t : ByteArray} (h : b = mayB k n hi t.data.toList) : Ending.returned (.bool b) = .returned (.bool (mayB k n hi t.data.toList)) := by rw [h]

end Go.Proofs.YtenpjfkiehcjlaaDoor
