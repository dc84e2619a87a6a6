/-
  From the laws' walks to their rows: how a value reads.
-/
import Derived.Test.YtmbjhahlbbhdaaaRows
import Derived.Test.YtmbjhahlbbhdaaaQBase
import Derived.ProofKit
import Derived.OpenShut
namespace Go.Proofs.Ytmbjhahlbbhdaaa
open Go.RowKit Go.ChangeShapes Go.WideShapes Go.ChangeAt

theorem own : ownKnob Try.prog.godebug = none := by kernel_rfl

section
variable {H : Type} {enc : TypeId × Value → H} {w : World} {base : Nat} {spare : Nat → Bool} {held : Bool}

def valD (k n hi : Int) (t : ByteArray) : DataW H := .agg [.lit (.int .u8 k), .lit (.int .i64 n), .lit (.int .i64 hi), .lit (.string t.data.toList)]

theorem cVal : Try.prog.cellsOf 23 = 4 := by kernel_rfl

theorem wf64 {n : Int} (h : (Lit.int .i64 n).wf = true) : -9223372036854775808 ≤ n ∧ n ≤ 9223372036854775807 := by simpa [Lit.wf, IntKind.min, IntKind.max, IntKind.signed, IntKind.bits] using h
theorem wf8 {n : Int} (h : (Lit.int .u8 n).wf = true) : 0 ≤ n ∧ n ≤ 255 := by simpa [Lit.wf, IntKind.min, IntKind.max, IntKind.signed, IntKind.bits] using h

set_option maxRecDepth 100000 in
theorem open_value {b0 : Nat} {v : Value} {d : DataW H} {p : List MemPlace} (hv : Value.okWide Try.prog w .any b0 23 v) (h : DataW.Trod enc Try.prog w base spare held 23 v d p) :
    ∃ k n hi t, v = .agg #[.int .u8 k, .int .i64 n, .int .i64 hi, .string t] ∧ d = valD k n hi t ∧ p = [] ∧ (Lit.int .u8 k).wf = true ∧ (Lit.int .i64 n).wf = true ∧ (Lit.int .i64 hi).wf = true ∧ t.size ≤ maxLen := by
  obtain ⟨v0, v1, v2, v3, y0, y1, y2, y3, m, rfl, rfl, rfl, h0, h1, h2, h3⟩ := Joins.open_agg4 Try.underlying23 (by kernel_rfl) cVal hv h
  obtain ⟨k, e0, rfl, w0⟩ := DataW.trod_int Try.underlying5 h0
  obtain ⟨n, e1, rfl, w1⟩ := DataW.trod_int Try.underlying2 h1
  obtain ⟨hi, e2, rfl, w2⟩ := DataW.trod_int Try.underlying2 h2
  obtain ⟨t, e3, rfl, w3⟩ := DataW.trod_string Try.underlying9 h3
  cases e0; cases e1; cases e2; cases e3
  exact ⟨k, n, hi, t, rfl, rfl, rfl, w0, w1, w2, w3⟩

theorem shut_value {k n hi : Int} {t : ByteArray} (w0 : (Lit.int .u8 k).wf = true) (w1 : (Lit.int .i64 n).wf = true) (w2 : (Lit.int .i64 hi).wf = true) (w3 : t.size ≤ maxLen) :
    DataW.Trod enc Try.prog w base spare held 23 (.agg #[.int .u8 k, .int .i64 n, .int .i64 hi, .string t]) (valD k n hi t) [] := by
  have := Joins.shut_agg4 (enc := enc) (w := w) (base := base) (spare := spare) (held := held) Try.underlying23 (by kernel_rfl) cVal
    (Joins.field_of_Trod (shut_int (enc := enc) (w := w) (base := base) (spare := spare) (held := held) Try.underlying5 w0) rfl) (Joins.field_of_Trod (shut_int (enc := enc) (w := w) (base := base) (spare := spare) (held := held) Try.underlying2 w1) rfl)
    (Joins.field_of_Trod (shut_int (enc := enc) (w := w) (base := base) (spare := spare) (held := held) Try.underlying2 w2) rfl) (Joins.field_of_Trod (Go.ChangeMaps.shut_string (enc := enc) (w := w) (base := base) (sp := spare) (held := held) Try.underlying9 w3) rfl)
  exact this
end

end Go.Proofs.Ytmbjhahlbbhdaaa
