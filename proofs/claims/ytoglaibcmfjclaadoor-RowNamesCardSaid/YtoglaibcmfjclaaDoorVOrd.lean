/-
  What is of no program: the comparison of values is an order.
-/
import Derived.Test.YtoglaibcmfjclaaDoorVCmp
namespace Go.Proofs.YtoglaibcmfjclaaDoor

theorem bl_irrefl : ∀ l : List UInt8, Op.bytesLess l l = false
  | [] => rfl
  | c :: l => by
    have := bl_irrefl l
    simp [Op.bytesLess, this]

theorem bl_asymm : ∀ a b : List UInt8, Op.bytesLess a b = true → Op.bytesLess b a = false
  | _, [], h => by simp [Op.bytesLess] at h
  | [], _ :: _, _ => by simp [Op.bytesLess]
  | x :: a, y :: b, h => by
    have ih := bl_asymm a b
    simp only [Op.bytesLess, Bool.or_eq_true, decide_eq_true_eq, Bool.and_eq_true, beq_iff_eq] at h
    rw [Bool.eq_false_iff]
    intro h2
    simp only [Op.bytesLess, Bool.or_eq_true, decide_eq_true_eq, Bool.and_eq_true, beq_iff_eq] at h2
    rcases h with h | ⟨rfl, h⟩
    · rcases h2 with h2 | ⟨rfl, _⟩
      · rw [UInt8.lt_iff_toNat_lt] at h h2; omega
      · rw [UInt8.lt_iff_toNat_lt] at h; omega
    · rcases h2 with h2 | ⟨_, h2⟩
      · rw [UInt8.lt_iff_toNat_lt] at h2; omega
      · rw [ih h] at h2; cases h2

theorem bl_total : ∀ a b : List UInt8, Op.bytesLess a b = false → Op.bytesLess b a = false → a = b
  | [], [], _, _ => rfl
  | [], _ :: _, h, _ => by simp [Op.bytesLess] at h
  | _ :: _, [], _, h => by simp [Op.bytesLess] at h
  | x :: a, y :: b, h, h2 => by
    have ih := bl_total a b
    simp only [Op.bytesLess, Bool.or_eq_false_iff, decide_eq_false_iff_not, Bool.and_eq_false_iff, beq_eq_false_iff_ne, ne_eq] at h h2
    have e : x = y := by
      have h3 := h.1; have h4 := h2.1
      rw [UInt8.lt_iff_toNat_lt] at h3 h4
      exact UInt8.toNat_inj.1 (by omega)
    subst e
    have a1 : Op.bytesLess a b = false := h.2.resolve_left (fun e => e rfl)
    have a2 : Op.bytesLess b a = false := h2.2.resolve_left (fun e => e rfl)
    rw [ih a1 a2]

theorem bl_trans : ∀ a b c : List UInt8, Op.bytesLess a b = true → Op.bytesLess b c = true → Op.bytesLess a c = true
  | _, [], _, h, _ => by simp [Op.bytesLess] at h
  | _, _ :: _, [], _, h => by simp [Op.bytesLess] at h
  | [], _ :: _, _ :: _, _, _ => by simp [Op.bytesLess]
  | x :: a, y :: b, z :: c, h, h2 => by
    have ih := bl_trans a b c
    simp only [Op.bytesLess, Bool.or_eq_true, decide_eq_true_eq, Bool.and_eq_true, beq_iff_eq] at h h2 ⊢
    rcases h with h | ⟨rfl, h⟩
    · rcases h2 with h2 | ⟨rfl, _⟩
      · left; rw [UInt8.lt_iff_toNat_lt] at h h2 ⊢; omega
      · left; exact h
    · rcases h2 with h2 | ⟨rfl, h2⟩
      · left; exact h2
      · right; exact ⟨rfl, ih h h2⟩

/-- Of three things compared: what the third comparison must be. -/
def Tri (x y z : Int) : Prop := (x = -1 ∨ x = 0 ∨ x = 1) ∧ (y = -1 ∨ y = 0 ∨ y = 1) ∧ (z = -1 ∨ z = 0 ∨ z = 1) ∧ (x = 0 → z = y) ∧ (y = 0 → z = x) ∧ (x = y → z = x)

theorem tri_cmpI (a b c : Int) : Tri (cmpI a b) (cmpI b c) (cmpI a c) := by
  unfold Tri cmpI
  repeat' split
  all_goals omega

theorem cmpI_neg (a b : Int) : cmpI b a = -cmpI a b := by
  unfold cmpI
  repeat' split
  all_goals omega
theorem cmpI_zero (a b : Int) : cmpI a b = 0 ↔ a = b := by
  unfold cmpI
  repeat' split
  all_goals omega

theorem cmpS_cases (a b : ByteArray) : (cmpS a b = -1 ∧ Op.bytesLess a.toList b.toList = true) ∨ (cmpS a b = 1 ∧ Op.bytesLess b.toList a.toList = true) ∨ (cmpS a b = 0 ∧ a.toList = b.toList) := by
  unfold cmpS
  cases h : Op.bytesLess a.toList b.toList
  · cases h2 : Op.bytesLess b.toList a.toList
    · right; right; exact ⟨by simp, bl_total _ _ h h2⟩
    · right; left; exact ⟨by simp, rfl⟩
  · left; exact ⟨by simp, rfl⟩

theorem cmpS_lt {a b : ByteArray} (h : Op.bytesLess a.toList b.toList = true) : cmpS a b = -1 := by simp [cmpS, h]
theorem cmpS_gt {a b : ByteArray} (h : Op.bytesLess b.toList a.toList = true) : cmpS a b = 1 := by simp [cmpS, h, bl_asymm _ _ h]
theorem cmpS_same {a b : ByteArray} (h : a.toList = b.toList) : cmpS a b = 0 := by simp [cmpS, h, bl_irrefl]

theorem cmpS_neg (a b : ByteArray) : cmpS b a = -cmpS a b := by
  rcases cmpS_cases a b with ⟨e, h⟩ | ⟨e, h⟩ | ⟨e, h⟩
  · rw [e, cmpS_gt h]; rfl
  · rw [e, cmpS_lt h]
  · rw [e, cmpS_same h.symm]; rfl
theorem cmpS_zero (a b : ByteArray) : cmpS a b = 0 ↔ a.toList = b.toList := by
  rcases cmpS_cases a b with ⟨e, h⟩ | ⟨e, h⟩ | ⟨e, h⟩
  · rw [e]; refine ⟨fun h => by omega, fun h2 => ?_⟩; rw [h2, bl_irrefl] at h; cases h
  · rw [e]; refine ⟨fun h => by omega, fun h2 => ?_⟩; rw [h2, bl_irrefl] at h; cases h
  · rw [e]; exact ⟨fun _ => h, fun _ => rfl⟩

theorem tri_cmpS (a b c : ByteArray) : Tri (cmpS a b) (cmpS b c) (cmpS a c) := by
  unfold Tri
  rcases cmpS_cases a b with ⟨e1, h1⟩ | ⟨e1, h1⟩ | ⟨e1, h1⟩ <;> rcases cmpS_cases b c with ⟨e2, h2⟩ | ⟨e2, h2⟩ | ⟨e2, h2⟩
  · rw [e1, e2, cmpS_lt (bl_trans _ _ _ h1 h2)]; omega
  · rw [e1, e2]; rcases cmpS_cases a c with ⟨e3, _⟩ | ⟨e3, _⟩ | ⟨e3, _⟩ <;> rw [e3] <;> omega
  · rw [e1, e2, cmpS_lt (by rw [← h2]; exact h1)]; omega
  · rw [e1, e2]; rcases cmpS_cases a c with ⟨e3, _⟩ | ⟨e3, _⟩ | ⟨e3, _⟩ <;> rw [e3] <;> omega
  · rw [e1, e2, cmpS_gt (bl_trans _ _ _ h2 h1)]; omega
  · rw [e1, e2, cmpS_gt (by rw [← h2]; exact h1)]; omega
  · rw [e1, e2, cmpS_lt (by rw [h1]; exact h2)]; omega
  · rw [e1, e2, cmpS_gt (by rw [h1]; exact h2)]; omega
  · rw [e1, e2, cmpS_same (h1.trans h2)]; omega

/-- One comparison, and where it is 0 a further one. -/
def lex (c d : Int) : Int := if c ≠ 0 then c else d

theorem tri_lex {x y z x' y' z' : Int} (h : Tri x y z) (h' : Tri x' y' z') : Tri (lex x x') (lex y y') (lex z z') := by
  unfold Tri lex at *
  repeat' split
  all_goals omega

theorem pick4_lex (a b c d : Int) : pick4 a b c d = lex a (lex b (lex c d)) := by
  unfold pick4 lex
  repeat' split
  all_goals first | rfl | omega

theorem lex_neg (a b : Int) : lex (-a) (-b) = -lex a b := by
  unfold lex
  repeat' split
  all_goals omega

theorem tri_cmpV (k n hi : Int) (t : ByteArray) (k' n' hi' : Int) (t' : ByteArray) (k2 n2 hi2 : Int) (t2 : ByteArray) : Tri (cmpV k n hi t k' n' hi' t') (cmpV k' n' hi' t' k2 n2 hi2 t2) (cmpV k n hi t k2 n2 hi2 t2) := by
  unfold cmpV
  simp only [pick4_lex]
  exact tri_lex (tri_cmpI _ _ _) (tri_lex (tri_cmpI _ _ _) (tri_lex (tri_cmpI _ _ _) (tri_cmpS _ _ _)))

theorem cmpV_neg (k n hi : Int) (t : ByteArray) (k' n' hi' : Int) (t' : ByteArray) : cmpV k' n' hi' t' k n hi t = -cmpV k n hi t k' n' hi' t' := by
  unfold cmpV
  simp only [pick4_lex]
  rw [cmpI_neg k k', cmpI_neg n n', cmpI_neg hi hi', cmpS_neg t t', lex_neg, lex_neg, lex_neg]

theorem cmpV_zero (k n hi : Int) (t : ByteArray) (k' n' hi' : Int) (t' : ByteArray) : cmpV k n hi t k' n' hi' t' = 0 ↔ (k = k' ∧ n = n' ∧ hi = hi' ∧ t.toList = t'.toList) := by
  have h1 := cmpI_zero k k'
  have h2 := cmpI_zero n n'
  have h3 := cmpI_zero hi hi'
  have h4 := cmpS_zero t t'
  unfold cmpV pick4
  constructor
  · intro h
    split at h
    · contradiction
    · split at h
      · contradiction
      · split at h
        · contradiction
        · exact ⟨h1.1 (by omega), h2.1 (by omega), h3.1 (by omega), h4.1 h⟩
  · rintro ⟨e1, e2, e3, e4⟩
    rw [if_neg (by rw [h1.2 e1]; simp), if_neg (by rw [h2.2 e2]; simp), if_neg (by rw [h3.2 e3]; simp), h4.2 e4]

end Go.Proofs.YtoglaibcmfjclaaDoor
