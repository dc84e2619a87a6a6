/-
  With its column's value as a Lit in the place of a Col an expression comes to the same. Plain mathematics.
-/
import Derived.Test.YtflclkmhdngmaaaETruthM
namespace Go.Proofs.Ytflclkmhdngmaaa
open Go.RowKit

/-- Is an expression a Col whose value may be? -/
def isC (r : Rw) (e : Ex) : Bool := decide (e.op = 2) && (decide (0 ≤ e.m) && (decide (e.m < (r.len : Int)) && mayV (r.vals e.m.toNat)))

/-- e', with Lits in the place of Cols, is put of e. -/
def PutOf (r : Rw) : Ex → Ex → Prop
  | .nil, e' => Same e' .nil
  | .node op v m a len cap kid, e' => (isC r (.node op v m a len cap kid) = true ∧ Same e' (mkLit (r.vals m.toNat))) ∨
      (isC r (.node op v m a len cap kid) = false ∧ e'.op = op ∧ e'.v = v ∧ e'.m = m ∧ e'.len = len ∧ ∀ i, i < len → PutOf r (kid i) (e'.kid i))

theorem putOf_iff {r : Rw} {e e' : Ex} : PutOf r e e' ↔ (isC r e = true ∧ Same e' (mkLit (r.vals e.m.toNat))) ∨ (isC r e = false ∧ e'.op = e.op ∧ e'.v = e.v ∧ e'.m = e.m ∧ e'.len = e.len ∧ ∀ i, i < e.len → PutOf r (e.kid i) (e'.kid i)) := by
  cases e with
  | node => exact Iff.rfl
  | nil =>
    have h : isC r .nil = false := rfl
    constructor
    · intro hs
      obtain ⟨a, b, c, d, _⟩ := same_iff.1 hs
      exact .inr ⟨h, a, b, c, d, fun i hi => absurd hi (Nat.not_lt_zero _)⟩
    · rintro (⟨h1, _⟩ | ⟨_, a, b, c, d, _⟩)
      · rw [h] at h1; cases h1
      · exact same_iff.2 ⟨a, b, c, d, fun i hi => by rw [d] at hi; exact absurd hi (Nat.not_lt_zero _)⟩

theorem putOf_same {r : Rw} : ∀ {e e' : Ex}, PutOf r e e' → okB mayV (hasBelow r.len) e = true →
    e'.sz = e.sz ∧ e'.dp = e.dp ∧ okB mayV (hasBelow r.len) e' = true ∧ foldV r e' = foldV r e := by
  intro e
  induction e using Ex.ind with
  | h e ih =>
    intro e' hp hok
    obtain ⟨hf, hle, hk⟩ := ok_node hok
    rcases putOf_iff.1 hp with ⟨hc, hs⟩ | ⟨hc, ho, hv, hm, hl, hks⟩
    · unfold isC at hc
      simp only [Bool.and_eq_true, decide_eq_true_eq] at hc
      obtain ⟨h2, h3, h4, h5⟩ := hc
      have hl0 : e.len = 0 := by rw [hle, h2]; rfl
      have okl : okB mayV (hasBelow r.len) (mkLit (r.vals e.m.toNat)) = true := by
        unfold okB
        rw [Ex.allB_eq]
        show (formedB mayV (hasBelow r.len) (mkLit (r.vals e.m.toNat)) && true) = true
        rw [Bool.and_true]
        show (decide (0 = arity 1) && (if (1 : Int) = 1 then decide ((0 : Int) = 0) && mayV (r.vals e.m.toNat) else _)) = true
        rw [if_pos rfl, h5]; rfl
      refine ⟨?_, ?_, ?_, ?_⟩
      · rw [hs.sz, Ex.sz_eq, Ex.sz_eq, hl0]; rfl
      · rw [hs.dp, Ex.dp_eq, Ex.dp_eq, hl0]; rfl
      · rw [hs.ok]; exact okl
      · rw [foldV_congr rfl (fun _ _ => rfl) (by rw [hs.ok]; exact okl) hs, foldV_eq r (mkLit (r.vals e.m.toNat)), foldV_eq r e, if_pos (show arity e.op = 0 by rw [h2]; decide), if_pos (show arity (mkLit (r.vals e.m.toNat)).op = 0 by show arity 1 = 0; decide)]
        unfold leafV
        rw [if_pos h2, if_neg (show ¬ (mkLit (r.vals e.m.toNat)).op = 2 by show ¬ (1 : Int) = 2; decide)]
        rfl
    · have ihk := fun i (hi : i < e.len) => ih i hi (hks i hi) (hk i hi)
      have a2 := arity_le e.op
      refine ⟨?_, ?_, ?_, ?_⟩
      · rw [Ex.sz_eq, Ex.sz_eq, hl, sumTo_congr (fun i hi => (ihk i hi).1)]
      · rw [Ex.dp_eq, Ex.dp_eq, hl, maxTo_congr (fun i hi => (ihk i hi).2.1)]
      · unfold okB
        rw [Ex.allB_eq, Bool.and_eq_true, allTo_iff]
        refine ⟨?_, fun i hi => (ihk i (by omega)).2.2.1⟩
        unfold formedB at hf ⊢
        rw [ho, hv, hm, hl]; exact hf
      · rw [foldV_eq r e', foldV_eq r e, ho]
        by_cases h0 : arity e.op = 0
        · rw [if_pos h0, if_pos h0]
          have : leafV r e' = leafV r e := by unfold leafV; rw [ho, hv, hm]
          rw [this]
        · have e0 := (ihk 0 (by omega)).2.2.2
          by_cases h1 : arity e.op = 1
          · rw [if_neg h0, if_neg h0, if_pos h1, if_pos h1, e0]
          · have e1 := (ihk 1 (by omega)).2.2.2
            rw [if_neg h0, if_neg h0, if_neg h1, if_neg h1, e0, e1]

/-- Unless an expression is not valid over the row, what is put of it comes to the same. -/
theorem putOf_eval {r : Rw} {e e' : Ex} (hp : PutOf r e e') : (evalR r e).2 = 4 ∨ evalR r e' = evalR r e := by
  by_cases hv : validB mayV (hasBelow r.len) e = true
  · right
    obtain ⟨h1, h2, h3⟩ := valid_iff.1 hv
    obtain ⟨s1, s2, s3, s4⟩ := putOf_same hp h3
    unfold evalR
    rw [if_pos hv, if_pos (valid_iff.2 ⟨by omega, by omega, s3⟩), s4]
  · left
    unfold evalR
    rw [if_neg hv]
end Go.Proofs.Ytflclkmhdngmaaa
