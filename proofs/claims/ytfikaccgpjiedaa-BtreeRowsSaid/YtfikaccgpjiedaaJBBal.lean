/-
  What is of no program: a node is parted, two are put together, one gives to the other: what they hold stays (stage 7).
-/
import Derived.Test.YtfikaccgpjiedaaJJ13
namespace Go.Proofs.Ytfikaccgpjiedaa

section
variable {α : Type}

/-- Two children and what is between them, as one. -/
theorem weave_glue (l r : List α) (m : α) (B : List (List α)) (F : List α) : weave (l :: r :: B) (m :: F) = weave ((l ++ m :: r) :: B) F := by
  cases F with
  | nil => simp [weave]
  | cons f F => simp [weave]

theorem weave_pre : ∀ (A C : List (List α)) (E F : List α), A.length = E.length → weave (A ++ C) (E ++ F) = ((A.zip E).flatMap fun p => p.1 ++ [p.2]) ++ weave C F
  | [], C, [], F, _ => by simp
  | [], _, _ :: _, _, h => by simp at h
  | _ :: _, _, [], _, h => by simp at h
  | a :: A, C, e :: E, F, h => by
      simp only [List.cons_append, weave]
      rw [weave_pre A C E F (by simpa using h)]
      simp

theorem glue_at (A B : List (List α)) (E F : List α) (l r : List α) (m : α) (h : A.length = E.length) : weave (A ++ l :: r :: B) (E ++ m :: F) = weave (A ++ (l ++ m :: r) :: B) (E ++ F) := by
  rw [weave_pre _ _ _ _ h, weave_pre _ _ _ _ h, weave_glue]

theorem rot_at (A B : List (List α)) (E F : List α) {l r l' r' : List α} {m m' : α} (h : A.length = E.length) (e : l ++ m :: r = l' ++ m' :: r') : weave (A ++ l :: r :: B) (E ++ m :: F) = weave (A ++ l' :: r' :: B) (E ++ m' :: F) := by
  rw [glue_at A B E F l r m h, glue_at A B E F l' r' m' h, e]

/-- A node parted at an entry. -/
theorem flat_part (h : Nat) (el er : List α) (m : α) (cl cr : List (Tr α h)) (hl : cl.length = el.length + 1) : flat (h + 1) (el ++ m :: er, cl ++ cr) = flat (h + 1) (el, cl) ++ m :: flat (h + 1) (er, cr) := by
  rw [flat_node, flat_node, flat_node, List.map_append, weave_app _ _ _ _ _ (by simpa using hl)]

/-- A child parted, in its node. -/
theorem flat_split (h : Nat) (E F : List α) (A B : List (Tr α h)) (c l r : Tr α h) (m : α) (hA : A.length = E.length) (hc : flat h c = flat h l ++ m :: flat h r) : flat (h + 1) (E ++ m :: F, A ++ l :: r :: B) = flat (h + 1) (E ++ F, A ++ c :: B) := by
  rw [flat_node, flat_node, List.map_append, List.map_append, List.map_cons, List.map_cons, List.map_cons, glue_at _ _ _ _ _ _ _ (by simpa using hA), hc]

/-- Two children and what is between them, turned into two others. -/
theorem flat_rot (h : Nat) (E F : List α) (A B : List (Tr α h)) (l r l' r' : Tr α h) (m m' : α) (hA : A.length = E.length) (hc : flat h l ++ m :: flat h r = flat h l' ++ m' :: flat h r') : flat (h + 1) (E ++ m :: F, A ++ l :: r :: B) = flat (h + 1) (E ++ m' :: F, A ++ l' :: r' :: B) := by
  rw [flat_node, flat_node, List.map_append, List.map_append, List.map_cons, List.map_cons, List.map_cons, List.map_cons]
  exact rot_at _ _ _ _ (by simpa using hA) hc

/-- Another child in its place. -/
theorem flat_child (h : Nat) (E F : List α) (A B : List (Tr α h)) (c : Tr α h) (hA : A.length = E.length) : flat (h + 1) (E ++ F, A ++ c :: B) = (((A.map (flat h)).zip E).flatMap fun p => p.1 ++ [p.2]) ++ weave (flat h c :: B.map (flat h)) F := by
  rw [flat_node, List.map_append, List.map_cons, weave_pre _ _ _ _ (by simpa using hA)]

/-- A list, and its place i. -/
theorem cut_at {l : List α} {i : Nat} {x : α} (h : l[i]? = some x) : l = l.take i ++ x :: l.drop (i + 1) := by
  obtain ⟨h1, h2⟩ := List.getElem?_eq_some_iff.mp h
  rw [← h2, ← List.drop_eq_getElem_cons h1, List.take_append_drop]
end

end Go.Proofs.Ytfikaccgpjiedaa

