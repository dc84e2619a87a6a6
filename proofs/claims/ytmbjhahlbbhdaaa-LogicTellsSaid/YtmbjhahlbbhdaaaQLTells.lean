/-
  Each call of package logic answers what the document's own does: covenantlaw02.LogicTells answers true for every two values, every number and every truth, and leaves them as they were. Conditions: none (each argument reads as the row says).
-/
import Derived.Test.YtmbjhahlbbhdaaaQLift
import Derived.Test.YtmbjhahlbbhdaaaQTells2
import Derived.Carry
namespace Go.Proofs.Ytmbjhahlbbhdaaa
open Go.RowKit Go.ChangeShapes Go.WideShapes Go.ChangeAt
open Go.ChangeMaps (open_string shut_string)

set_option maxRecDepth 100000 in
theorem logicTells_lifted (os : Os) (started : os.Started) (H : Type) (enc : TypeId × Value → H) :
    ReturnsInHanded {} Try.checked os 3 .any (Rows.logicTellsSpec.pre6 enc Try.prog Try.f3 Rows.logicTellsRow.domain false) (Rows.logicTellsSpec.post enc Try.prog Try.f3 false true false false) := by
  refine returnsInHanded_of_change (C := Try.checked) own started (by kernel_rfl) Try.func3
    (ChangeSpec.witness6 (enc := enc) (C := Try.checked) false ⟨#[], #[.agg #[.int .u8 0, .int .i64 0, .int .i64 0, .string ⟨#[]⟩], .agg #[.int .u8 0, .int .i64 0, .int .i64 0, .string ⟨#[]⟩], .int .i64 0, .bool false], []⟩ 8 (by kernel_rfl) (by kernel_rfl) (by kernel_rfl) (by kernel_rfl)) ?_
  intro W base args ds gs before hval0 hW _ _
  have hval : ∀ (j : Nat) t v, Try.f3.params[j]? = some t → args[j]? = some v → Value.okWide Try.prog W .any base t v := hval0
  have hW' := hW
  obtain ⟨p, q, hA0, hV, rfl, _, _⟩ := hW
  have hA : DataW.TrodAll enc Try.prog W 0 (fun _ => true) true Try.f3.params.toList args.toList ds p := hA0
  rw [Try.params3] at hA hval
  obtain ⟨v0, v1, v2, v3, d0, d1, d2, d3, p0, p1, p2, p3, rfl, rfl, rfl, h0, h1, h2, h3⟩ := trodAll_four hA
  obtain ⟨rfl, rfl⟩ := trodVars_none hV
  obtain ⟨k0, n0, u0, t0, rfl, rfl, rfl, wk0, wn0, wu0, wt0⟩ := open_value (hval 0 23 v0 rfl rfl) h0
  obtain ⟨k1, n1, u1, t1, rfl, rfl, rfl, wk1, wn1, wu1, wt1⟩ := open_value (hval 1 23 v1 rfl rfl) h1
  obtain ⟨n2, rfl, rfl, rfl, wn2⟩ := open_int Try.underlying2 (hval 2 2 v2 rfl rfl) h2
  obtain ⟨b3, rfl, rfl, rfl⟩ := open_bool Try.underlying4 (hval 3 4 v3 rfl rfl) h3
  simp only [List.append_nil] at hW'
  refine (tells_any k0 n0 u0 t0 k1 n1 u1 t1 n2 b3 (wf64 wn0) (wf64 wn1) W).mono fun e W' ⟨he, hb⟩ => ?_
  subst he
  exact ⟨_, rfl, _, _, _, [], [], [], hW', trodAll_mk1 (shut_bool Try.underlying4 _), trodAll_mk4 (shut_value wk0 wn0 wu0 wt0) (shut_value wk1 wn1 wu1 wt1) (shut_int Try.underlying2 wn2) (shut_bool Try.underlying4 b3), rfl, hb.frame _, fun h => by cases h⟩

/-- THE ROW. -/
theorem logicTells_holds : Rows.LogicTellsSaid :=
  OpenClaim.holds_of_wide 3 Try.f3 rfl rfl rfl rfl rfl rfl rfl ⟨rfl, rfl, rfl, rfl, rfl⟩ rfl rfl rfl rfl rfl (by kernel_rfl) Try.func3 (by kernel_rfl)
    (of_decide_eq_true (by kernel_rfl)) (by unfold Func.isWrapper; first | (rw [if_pos (by decide +kernel)]; kernel_rfl) | (rw [if_neg (by decide +kernel)]; exact ⟨rfl, rfl⟩))
    (fun os started H enc _ => logicTells_lifted os started H enc)
#print axioms logicTells_holds
end Go.Proofs.Ytmbjhahlbbhdaaa
