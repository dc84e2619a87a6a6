/-
  With a greater At nothing that was seen is not, and with one commit more just what is of that one is seen more: covenantlaw10.SnapMore answers true for every list of steps, number and transaction, and leaves them as they were. Conditions: none (each argument reads as the row says).
-/
import Derived.Test.YtpdfknknnklioaaNLift
import Derived.Test.YtpdfknknnklioaaNMore
import Derived.Carry
namespace Go.Proofs.Ytpdfknknnklioaa
open Go.RowKit Go.ChangeShapes Go.WideShapes Go.ChangeAt

set_option maxRecDepth 100000 in
theorem snapMore_lifted (os : Os) (started : os.Started) (H : Type) (enc : TypeId × Value → H) :
    ReturnsInHanded {} Try.checked os 6 .any (Rows.snapMoreSpec.pre6 enc Try.prog Try.f6 Rows.snapMoreRow.domain false) (Rows.snapMoreSpec.post enc Try.prog Try.f6 false true false false) := by
  refine returnsInHanded_of_change (C := Try.checked) ownE started (by kernel_rfl) Try.func6
    (ChangeSpec.witness6 (enc := enc) (C := Try.checked) false ⟨#[], #[.slice none 0 0, .int .i64 0, .int .i64 0], []⟩ 8 (by kernel_rfl) (by kernel_rfl) (by kernel_rfl) (by kernel_rfl)) ?_
  intro W base args ds gs before hval0 hW _ _
  have hval : ∀ (j : Nat) t v, Try.f6.params[j]? = some t → args[j]? = some v → Value.okWide Try.prog W .any base t v := hval0
  have hW' := hW
  obtain ⟨p, q, hA0, hV, rfl, _, _⟩ := hW
  have hA : DataW.TrodAll enc Try.prog W 0 (fun _ => true) true Try.f6.params.toList args.toList ds p := hA0
  rw [Try.params6] at hA hval
  obtain ⟨v0, v1, v2, d0, d1, d2, p0, p1, p2, rfl, rfl, rfl, h0, h1, h2⟩ := trodAll_three hA
  obtain ⟨rfl, rfl⟩ := trodVars_none hV
  try simp only [List.append_nil] at hW'
  obtain ⟨a0, n0, c0, l0, rfl, hn0, hs0⟩ := open_steps (hval 0 22 v0 rfl rfl) h0
  obtain ⟨e1, rfl, rfl, rfl, wn1⟩ := open_int Try.underlying3 (hval 1 3 v1 rfl rfl) h1
  have hin1 := wf64e wn1
  obtain ⟨e2, rfl, rfl, rfl, wn2⟩ := open_int Try.underlying3 (hval 2 3 v2 rfl rfl) h2
  have hin2 := wf64e wn2
  have hlt : ∀ x ∈ p0 ++ [] ++ [], x.block < W.heap.size := fun x hx => hW'.lt x (by first | exact hx | simpa using hx)
  have hlt0 : ∀ x ∈ (p0 : List MemPlace), x.block < W.heap.size := fun x hx => hlt x (by simp only [List.mem_append]; exact .inl (.inl hx))
  have hlt1 : ∀ x ∈ ([] : List MemPlace), x.block < W.heap.size := fun x hx => hlt x (by simp only [List.mem_append]; exact .inl (.inr hx))
  have hlt2 : ∀ x ∈ ([] : List MemPlace), x.block < W.heap.size := fun x hx => hlt x (by simp only [List.mem_append]; exact .inr hx)
  refine (more_law a0 c0 n0 l0 hn0 e1 e2 hin1 hin2 W hs0).mono fun e W' ⟨he, hb⟩ => ?_
  subst he
  exact ⟨_, rfl, _, _, _, [], (p0 ++ ([] ++ [])), [], hW', trodAll_mk1 (shut_bool Try.underlying4 _), trodAll_mk3 (Below.trod laidE (by kernel_rfl) (of_decide_eq_true (by kernel_rfl)) h0 hb hlt0) (Below.trod laidE (by kernel_rfl) (of_decide_eq_true (by kernel_rfl)) h1 hb hlt1) (Below.trod laidE (by kernel_rfl) (of_decide_eq_true (by kernel_rfl)) h2 hb hlt2), rfl, hb.frame _, fun h => by cases h⟩

/-- THE ROW. -/
theorem snapMore_holds : Rows.SnapMoreSaid :=
  OpenClaim.holds_of_wide 6 Try.f6 rfl rfl rfl rfl rfl rfl rfl ⟨rfl, rfl, rfl, rfl, rfl⟩ rfl rfl rfl rfl rfl (by kernel_rfl) Try.func6 (by kernel_rfl)
    (of_decide_eq_true (by kernel_rfl)) (by unfold Func.isWrapper; first | (rw [if_pos (by decide +kernel)]; kernel_rfl) | (rw [if_neg (by decide +kernel)]; exact ⟨rfl, rfl⟩))
    (fun os started H enc _ => snapMore_lifted os started H enc)
#print axioms snapMore_holds
end Go.Proofs.Ytpdfknknnklioaa
