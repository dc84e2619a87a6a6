/-
  From the laws' walks to their rows (stage 13).
-/
import Derived.Test.YtdncoegdgoacnaaRows
import Derived.Test.YtdncoegdgoacnaaOWorks
import Derived.ProofKit
import Derived.OpenShut
import Derived.Carry
import Derived.SizedLaws
namespace Go.Proofs.Ytdncoegdgoacnaa
open Go.RowKit Go.ChangeShapes Go.WideShapes Go.ChangeAt

theorem ownE : ownKnob Try.prog.godebug = none := by kernel_rfl
theorem laidE : laidOutB Try.prog = true := by kernel_rfl
theorem wf8e {n : Int} (h : (Lit.int .u8 n).wf = true) : U8 n := by
  have : 0 ≤ n ∧ n ≤ 255 := by simpa [Lit.wf, IntKind.min, IntKind.max, IntKind.signed, IntKind.bits] using h
  exact ⟨this.1, by omega⟩
theorem wf16e {n : Int} (h : (Lit.int .u16 n).wf = true) : U16 n := by
  have : 0 ≤ n ∧ n ≤ 65535 := by simpa [Lit.wf, IntKind.min, IntKind.max, IntKind.signed, IntKind.bits] using h
  exact ⟨this.1, by omega⟩
end Go.Proofs.Ytdncoegdgoacnaa
