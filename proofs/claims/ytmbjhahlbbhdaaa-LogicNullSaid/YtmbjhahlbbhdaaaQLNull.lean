/-
  What comes of NULL is NULL, but for IsNull, for And with no, and for Or with yes: covenantlaw02.LogicNull answers true for every value, and leaves it as it was. Conditions: none (each argument reads as the row says).
-/
import Derived.Test.YtmbjhahlbbhdaaaQLift
import Derived.Test.YtmbjhahlbbhdaaaQNull2
import Derived.Carry
namespace Go.Proofs.Ytmbjhahlbbhdaaa
open Go.RowKit Go.ChangeShapes Go.WideShapes Go.ChangeAt
open Go.ChangeMaps (open_string shut_string)

set_option maxRecDepth 100000 in
theorem logicNull_lifted (os : Os) (started : os.Started) (H : Type) (enc : TypeId × Value → H) :
    ReturnsInHanded {} Try.checked os 8 .any (Rows.logicNullSpec.pre6 enc Try.prog Try.f8 Rows.logicNullRow.domain false) (Rows.logicNullSpec.post enc Try.prog Try.f8 false true false false) := by
  refine returnsInHanded_of_change (C := Try.checked) own started (by kernel_rfl) Try.func8
    (ChangeSpec.witness6 (enc := enc) (C := Try.checked) false ⟨#[], #[.agg #[.int .u8 0, .int .i64 0, .int .i64 0, .string ⟨#[]⟩]], []⟩ 8 (by kernel_rfl) (by kernel_rfl) (by kernel_rfl) (by kernel_rfl)) ?_
  intro W base args ds gs before hval0 hW _ _
  have hval : ∀ (j : Nat) t v, Try.f8.params[j]? = some t → args[j]? = some v → Value.okWide Try.prog W .any base t v := hval0
  have hW' := hW
  obtain ⟨p, q, hA0, hV, rfl, _, _⟩ := hW
  have hA : DataW.TrodAll enc Try.prog W 0 (fun _ => true) true Try.f8.params.toList args.toList ds p := hA0
  rw [Try.params8] at hA hval
  obtain ⟨v0, d0, rfl, rfl, h0⟩ := trodAll_one hA
  obtain ⟨rfl, rfl⟩ := trodVars_none hV
  obtain ⟨k0, n0, u0, t0, rfl, rfl, rfl, wk0, wn0, wu0, wt0⟩ := open_value (hval 0 23 v0 rfl rfl) h0
  try simp only [List.append_nil] at hW'
  refine (null_any k0 n0 u0 t0 (wf64 wn0) W).mono fun e W' ⟨he, hb⟩ => ?_
  subst he
  exact ⟨_, rfl, _, _, _, [], [], [], hW', trodAll_mk1 (shut_bool Try.underlying4 _), trodAll_mk1 (shut_value wk0 wn0 wu0 wt0), rfl, hb.frame _, fun h => by cases h⟩

/-- THE ROW. -/
theorem logicNull_holds : Rows.LogicNullSaid :=
  OpenClaim.holds_of_wide 8 Try.f8 rfl rfl rfl rfl rfl rfl rfl ⟨rfl, rfl, rfl, rfl, rfl⟩ rfl rfl rfl rfl rfl (by kernel_rfl) Try.func8 (by kernel_rfl)
    (of_decide_eq_true (by kernel_rfl)) (by unfold Func.isWrapper; first | (rw [if_pos (by decide +kernel)]; kernel_rfl) | (rw [if_neg (by decide +kernel)]; exact ⟨rfl, rfl⟩))
    (fun os started H enc _ => logicNull_lifted os started H enc)
#print axioms logicNull_holds
end Go.Proofs.Ytmbjhahlbbhdaaa
