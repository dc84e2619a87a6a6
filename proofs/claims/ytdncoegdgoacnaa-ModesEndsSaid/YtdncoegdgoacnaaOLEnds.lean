/-
  With nothing held each mode goes, and none is covered; the strongest goes with none, and covers each; mode 1 is covered by each set that has a mode: covenantlaw13.ModesEnds answers true for every class, mode and set. Conditions: none (each argument reads as the row says).
-/
import Derived.Test.YtdncoegdgoacnaaOLift
import Derived.Test.YtdncoegdgoacnaaOEnds
import Derived.Carry
namespace Go.Proofs.Ytdncoegdgoacnaa
open Go.RowKit Go.ChangeShapes Go.WideShapes Go.ChangeAt

set_option maxRecDepth 100000 in
theorem modesEnds_lifted (os : Os) (started : os.Started) (H : Type) (enc : TypeId × Value → H) :
    ReturnsInHanded {} Try.checked os 8 .any (Rows.modesEndsSpec.pre6 enc Try.prog Try.f8 Rows.modesEndsRow.domain false) (Rows.modesEndsSpec.post enc Try.prog Try.f8 false true false false) := by
  refine returnsInHanded_of_change (C := Try.checked) ownE started (by kernel_rfl) Try.func8
    (ChangeSpec.witness6 (enc := enc) (C := Try.checked) false ⟨#[], #[.int .u8 0, .int .u8 0, .int .u16 0], []⟩ 8 (by kernel_rfl) (by kernel_rfl) (by kernel_rfl) (by kernel_rfl)) ?_
  intro W base args ds gs before hval0 hW _ _
  have hval : ∀ (j : Nat) t v, Try.f8.params[j]? = some t → args[j]? = some v → Value.okWide Try.prog W .any base t v := hval0
  have hW' := hW
  obtain ⟨p, q, hA0, hV, rfl, _, _⟩ := hW
  have hA : DataW.TrodAll enc Try.prog W 0 (fun _ => true) true Try.f8.params.toList args.toList ds p := hA0
  rw [Try.params8] at hA hval
  obtain ⟨v0, v1, v2, d0, d1, d2, p0, p1, p2, rfl, rfl, rfl, h0, h1, h2⟩ := trodAll_three hA
  obtain ⟨rfl, rfl⟩ := trodVars_none hV
  try simp only [List.append_nil] at hW'
  obtain ⟨e0, rfl, rfl, rfl, wn0⟩ := open_int Try.underlying5 (hval 0 5 v0 rfl rfl) h0
  have hin0 := wf8e wn0
  obtain ⟨e1, rfl, rfl, rfl, wn1⟩ := open_int Try.underlying5 (hval 1 5 v1 rfl rfl) h1
  have hin1 := wf8e wn1
  obtain ⟨e2, rfl, rfl, rfl, wn2⟩ := open_int Try.underlying25 (hval 2 25 v2 rfl rfl) h2
  have hin2 := wf16e wn2
  have hlt : ∀ x ∈ ([] ++ [] ++ [] : List MemPlace), x.block < W.heap.size := fun x hx => hW'.lt x (by first | exact hx | simpa using hx)
  have hlt0 : ∀ x ∈ ([] : List MemPlace), x.block < W.heap.size := fun x hx => hlt x (by simp only [List.mem_append]; exact .inl (.inl hx))
  have hlt1 : ∀ x ∈ ([] : List MemPlace), x.block < W.heap.size := fun x hx => hlt x (by simp only [List.mem_append]; exact .inl (.inr hx))
  have hlt2 : ∀ x ∈ ([] : List MemPlace), x.block < W.heap.size := fun x hx => hlt x (by simp only [List.mem_append]; exact .inr hx)
  refine (ends_law e0 e1 e2 hin1 hin2 W).mono fun e W' ⟨he, hb⟩ => ?_
  subst he
  exact ⟨_, rfl, _, _, _, [], ([] ++ ([] ++ [])), [], hW', trodAll_mk1 (shut_bool Try.underlying4 _), trodAll_mk3 (Below.trod laidE (by kernel_rfl) (of_decide_eq_true (by kernel_rfl)) h0 hb hlt0) (Below.trod laidE (by kernel_rfl) (of_decide_eq_true (by kernel_rfl)) h1 hb hlt1) (Below.trod laidE (by kernel_rfl) (of_decide_eq_true (by kernel_rfl)) h2 hb hlt2), rfl, hb.frame _, fun h => by cases h⟩

/-- THE ROW. -/
theorem modesEnds_holds : Rows.ModesEndsSaid :=
  OpenClaim.holds_of_wide 8 Try.f8 rfl rfl rfl rfl rfl rfl rfl ⟨rfl, rfl, rfl, rfl, rfl⟩ rfl rfl rfl rfl rfl (by kernel_rfl) Try.func8 (by kernel_rfl)
    (of_decide_eq_true (by kernel_rfl)) (by unfold Func.isWrapper; first | (rw [if_pos (by decide +kernel)]; kernel_rfl) | (rw [if_neg (by decide +kernel)]; exact ⟨rfl, rfl⟩))
    (fun os started H enc _ => modesEnds_lifted os started H enc)
#print axioms modesEnds_holds
end Go.Proofs.Ytdncoegdgoacnaa
