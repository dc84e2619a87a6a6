/-
  Steps, told by what they are (stage 9).
-/
import Derived.Test.YtpdfknknnklioaaYCom
namespace Go.Proofs.Ytpdfknknnklioaa
open Go.RowKit
theorem comT_eq (T : Tb) (kind id : Int) (h0 : kind ≠ 0) (h1 : kind = 1) : T.stp kind id = T.comT id ∧ T.stpI kind id = 0 ∧ T.stpE kind id = T.err id := by
  unfold Tb.stp Tb.stpI Tb.stpE
  rw [if_neg h0, if_neg h0, if_neg h0, if_pos h1]
  exact ⟨rfl, rfl, rfl⟩
theorem aboT_eq (T : Tb) (kind id : Int) (h0 : kind ≠ 0) (h1 : kind ≠ 1) : T.stp kind id = T.aboT id ∧ T.stpI kind id = 0 ∧ T.stpE kind id = T.err id := by
  unfold Tb.stp Tb.stpI Tb.stpE
  rw [if_neg h0, if_neg h0, if_neg h0, if_neg h1]
  exact ⟨rfl, rfl, rfl⟩
theorem begT_eq (T : Tb) (id : Int) : T.stp 0 id = T.begT id ∧ T.stpI 0 id = T.begI id ∧ T.stpE 0 id = T.begE id := by
  unfold Tb.stp Tb.stpI Tb.stpE
  rw [if_pos rfl, if_pos rfl, if_pos rfl]
  exact ⟨rfl, rfl, rfl⟩

end Go.Proofs.Ytpdfknknnklioaa
