/-
  From the laws' walks to their rows: the builder (a listed row, the world's shape kept), how a value reads, what the row's list gives the walks.
-/
import Derived.Test.YtpnnkgjgkcgagaaDoorRows
import Derived.Test.YtpnnkgjgkcgagaaDoorVBase
import Derived.ProofKit
import Derived.OpenShut
import Derived.LaidMore
import Derived.Lay
import Derived.SizedLaws
import Derived.Stop.LaidErr
import Derived.Stop.Joined
import Derived.Lib.LaidTab
namespace Go.Proofs.YtpnnkgjgkcgagaaDoor
open Go.RowKit Go.ChangeShapes Go.WideShapes Go.ChangeAt

/-- A listed row by its contract: the contract is handed the reach, the world's shape, and the list's condition. -/
theorem handed {H : Type} {enc : TypeId × Value → H} {a : Assume} {C : Checked} {os : Os} {f : FuncId} {fn : Func} {s : ChangeSpec} {conds : List PathCond} {apart fresh handsOn again : Bool} {X : World → Array Value → Prop}
    (hX : ∀ (w w' : World) (args : Array Value), w.heap = w'.heap → X w args → X w' args)
    (own : ownKnob C.prog.godebug = none) (started : os.Started) (noInit : C.prog.inits.idxOf? f = none) (hfn : C.prog.funcs[f]? = some fn)
    (witness : ∃ (w : World) (tape : Tape) (i : Input), w.os = os ∧ (w.forCall tape i).Shaped C.prog ∧ i.vars = [] ∧ Input.okWide C.prog (w.forCall tape i) .any w.heap.size f i ∧
      ((s.pre enc C.prog fn conds apart (w.forCall tape i).memory i.args ∧ X (w.forCall tape i).memory i.args) ∧ sizedMet enc C.prog fn (OpenSpec.ofChange s) apart (w.forCall tape i).memory i.args) ∧ a.holds C.prog (lone (Frame.enter C.prog f i.args .normal) [] (w.forCall tape i)))
    (contract : ∀ (W : World) (base : Nat) (args : Array Value) (ds gs : List (DataW H)) (before : List MemPlace),
      (∀ (j : Nat) t v, fn.params[j]? = some t → args[j]? = some v → Value.okWide C.prog W .any base t v) →
      DataW.Whole enc C.prog fn.params.toList s.vars apart W args.toList ds gs before →
      (DataW.weightsEach C.prog (fn.params.toList ++ s.plain.varTypes C.prog) (ds ++ gs)).all (· ≤ reachBytes) = true → W.ShapedOpen C.prog → X W args →
      Calls C.prog f args W fun e W' => ∃ v, e = .returned v ∧ s.post enc C.prog fn apart fresh handsOn again W args v W') :
    ReturnsInHanded a C os f .any (fun w args => (s.pre enc C.prog fn conds apart w args ∧ X w args) ∧ sizedMet enc C.prog fn (OpenSpec.ofChange s) apart w args) (s.post enc C.prog fn apart fresh handsOn again) := by
  refine returnsInHanded_of_calls own started noInit witness fun w tape i _ hsh _ hok hpre _ => ?_
  obtain ⟨_, _, _, fn2, h2, _, _, _, _, hval⟩ := hok
  obtain rfl : fn2 = fn := Option.some.inj (h2.symm.trans hfn)
  obtain ⟨⟨⟨ds, gs, before, hw, _⟩, hx⟩, hz⟩ := hpre
  refine (contract _ w.heap.size i.args ds gs before hval (DataW.Whole.of_heap (w' := w.forCall tape i) (by rfl) hw) (hz.weights hw) hsh (hX _ _ _ (by rfl) hx)).mono fun e W' hq => ?_
  obtain ⟨v, rfl, hp⟩ := hq
  exact ChangeSpec.post_blind hp

theorem own : ownKnob Tryd.prog.godebug = none := by kernel_rfl

/-! ### What the list gives -/

theorem tTab : (Tryd.prog.globals[0]?).map (·.type) = some 89 := by kernel_rfl
theorem tSyn : (Tryd.prog.globals[4]?).map (·.type) = some 63 := by kernel_rfl
theorem tRan : (Tryd.prog.globals[5]?).map (·.type) = some 63 := by kernel_rfl
theorem cTab : Tryd.prog.cellsOf 89 = 20 := by kernel_rfl
theorem cU64 : Tryd.prog.cellsOf 78 = 1 := by kernel_rfl

theorem cStr : Tryd.prog.cellsOf 9 = 1 := by kernel_rfl
theorem cErr : Tryd.prog.cellsOf 119 = 1 := by kernel_rfl
theorem star : "*" ++ "errors.errorString" = "*errors.errorString" := by decide
theorem rowErr (u : TypeId) (h : Tryd.prog.typeName? 3 u = some "*errors.errorString") : u = 117 :=
  typeName_ptr_named (nm := "errors.errorString") (by rw [star]; kernel_rfl) (by kernel_rfl) (by decide) u (by rw [star]; exact h)

/-- What the list of the laws' rows gives the walks. -/
theorem good_of_laid {W : World} (hsh : W.ShapedOpen Tryd.prog) (h : laidMetH Tryd.prog Rows.valueApartRow.laid W) : Good W := by
  rw [MakeChecks.laidMetH_plain _ _ _ (by kernel_rfl)] at h
  have h1 := laidMet.tail (laidMet.tail h)
  have ht : Lib.TabIs Tryd.prog W "internal/strconv.uint64pow10" .u64 Lib.pow10Tab :=
    Lib.tabIs_of_head (zs := Lib.pow10Tab) gTab tTab Tryd.underlying89 Tryd.underlying78 cU64 cTab h1
  have h2 := laidMet.tail (laidMet.tail h1)
  obtain ⟨a, s, hr, _⟩ := laid_sentinel h2 gRan tRan Tryd.underlying63 rowErr Tryd.underlying117 Tryd.underlying119 rfl rfl Tryd.underlying9 cErr cStr
  have h3 := laidMet.tail h2
  obtain ⟨a2, s2, hs, _⟩ := laid_sentinel h3 gSyn tSyn Tryd.underlying63 rowErr Tryd.underlying117 Tryd.underlying119 rfl rfl Tryd.underlying9 cErr cStr
  exact ⟨⟨hsh, ht⟩, ⟨_, _, hs⟩, ⟨_, _, hr⟩⟩

theorem goodT_of_laid {W : World} (hsh : W.ShapedOpen Tryd.prog) (h : laidMetH Tryd.prog Rows.valueTellsRow.laid W) : GoodT W := by
  rw [MakeChecks.laidMetH_plain _ _ _ (by kernel_rfl)] at h
  have h1 := laidMet.tail (laidMet.tail h)
  exact ⟨hsh, Lib.tabIs_of_head (zs := Lib.pow10Tab) gTab tTab Tryd.underlying89 Tryd.underlying78 cU64 cTab h1⟩

theorem sized_str {s : ByteArray} (h : s.data.toList.length ≤ reachBytes) : s.size ≤ 140737488351232 := by
  have e : s.data.toList.length = s.size := by simp
  unfold reachBytes at h
  omega

/-! ### A value that comes in -/
section
variable {H : Type} {enc : TypeId × Value → H} {w : World} {base : Nat} {spare : Nat → Bool} {held : Bool}

def valD (k n hi : Int) (t : ByteArray) : DataW H := .agg [.lit (.int .u8 k), .lit (.int .i64 n), .lit (.int .i64 hi), .lit (.string t.data.toList)]

theorem cVal : Tryd.prog.cellsOf 26 = 4 := by kernel_rfl

theorem wf64 {n : Int} (h : (Lit.int .i64 n).wf = true) : -9223372036854775808 ≤ n ∧ n ≤ 9223372036854775807 := by simpa [Lit.wf, IntKind.min, IntKind.max, IntKind.signed, IntKind.bits] using h
theorem wf8 {n : Int} (h : (Lit.int .u8 n).wf = true) : 0 ≤ n ∧ n ≤ 255 := by simpa [Lit.wf, IntKind.min, IntKind.max, IntKind.signed, IntKind.bits] using h

set_option maxRecDepth 100000 in
theorem open_value {b0 : Nat} {v : Value} {d : DataW H} {p : List MemPlace} (hv : Value.okWide Tryd.prog w .any b0 26 v) (h : DataW.Trod enc Tryd.prog w base spare held 26 v d p) :
    ∃ k n hi t, v = .agg #[.int .u8 k, .int .i64 n, .int .i64 hi, .string t] ∧ d = valD k n hi t ∧ p = [] ∧ (Lit.int .u8 k).wf = true ∧ (Lit.int .i64 n).wf = true ∧ (Lit.int .i64 hi).wf = true ∧ t.size ≤ maxLen := by
  obtain ⟨v0, v1, v2, v3, y0, y1, y2, y3, m, rfl, rfl, rfl, h0, h1, h2, h3⟩ := Joins.open_agg4 Tryd.underlying26 (by kernel_rfl) cVal hv h
  obtain ⟨k, e0, rfl, w0⟩ := DataW.trod_int Tryd.underlying5 h0
  obtain ⟨n, e1, rfl, w1⟩ := DataW.trod_int Tryd.underlying2 h1
  obtain ⟨hi, e2, rfl, w2⟩ := DataW.trod_int Tryd.underlying2 h2
  obtain ⟨t, e3, rfl, w3⟩ := DataW.trod_string Tryd.underlying9 h3
  cases e0; cases e1; cases e2; cases e3
  exact ⟨k, n, hi, t, rfl, rfl, rfl, w0, w1, w2, w3⟩

theorem shut_value {k n hi : Int} {t : ByteArray} (w0 : (Lit.int .u8 k).wf = true) (w1 : (Lit.int .i64 n).wf = true) (w2 : (Lit.int .i64 hi).wf = true) (w3 : t.size ≤ maxLen) :
    DataW.Trod enc Tryd.prog w base spare held 26 (.agg #[.int .u8 k, .int .i64 n, .int .i64 hi, .string t]) (valD k n hi t) [] := by
  have := Joins.shut_agg4 (enc := enc) (w := w) (base := base) (spare := spare) (held := held) Tryd.underlying26 (by kernel_rfl) cVal
    (Joins.field_of_Trod (shut_int (enc := enc) (w := w) (base := base) (spare := spare) (held := held) Tryd.underlying5 w0) rfl) (Joins.field_of_Trod (shut_int (enc := enc) (w := w) (base := base) (spare := spare) (held := held) Tryd.underlying2 w1) rfl)
    (Joins.field_of_Trod (shut_int (enc := enc) (w := w) (base := base) (spare := spare) (held := held) Tryd.underlying2 w2) rfl) (Joins.field_of_Trod (Go.ChangeMaps.shut_string (enc := enc) (w := w) (base := base) (sp := spare) (held := held) Tryd.underlying9 w3) rfl)
  exact this

/-- The reach pays the text's length. -/
theorem sized_value {ts : List TypeId} {ds : List (DataW H)} (h : (DataW.weightsEach Tryd.prog ts ds).all (· ≤ reachBytes) = true) {j : Nat} {k n hi : Int} {t : ByteArray} (ht : ts[j]? = some 26) (hd : ds[j]? = some (valD k n hi t)) : t.size ≤ 140737488351232 := by
  have hm : t.data.toList.length ∈ (valD (H := H) k n hi t).weights Tryd.prog 26 := by
    simp [valD, DataW.weights, Tryd.underlying26, DataW.weightsEach]
  have := List.all_eq_true.1 h _ (DataW.weights_mem_each ht hd _ hm)
  have e : t.data.toList.length = t.size := by simp
  have h2 := of_decide_eq_true this
  unfold reachBytes at h2
  omega
end

end Go.Proofs.YtpnnkgjgkcgagaaDoor
