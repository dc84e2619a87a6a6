/-
  What is of no program: the comparison of values of one Kind is an order.
-/
import Derived.Test.YtmbjhahlbbhdaaaQCmp
namespace Go.Proofs.Ytmbjhahlbbhdaaa

theorem bl_irrefl : ∀ l : List UInt8, Op.bytesLess l l = false
  | [] => rfl
  | c :: l => by
    have := bl_irrefl l
    simp [Op.bytesLess, this]

theorem bl_asymm : ∀ a b : List UInt8, Op.bytesLess a b = true → Op.bytesLess b a = false
  | _, [], h => by simp [Op.bytesLess] at h
  | [], _ :: _, _ => by simp [Op.bytesLess]
  | x :: a, y :: b, h => by
    have ih := bl_asymm a b
    simp only [Op.bytesLess, Bool.or_eq_true, decide_eq_true_eq, Bool.and_eq_true, beq_iff_eq] at h
    rw [Bool.eq_false_iff]
    intro h2
    simp only [Op.bytesLess, Bool.or_eq_true, decide_eq_true_eq, Bool.and_eq_true, beq_iff_eq] at h2
    rcases h with h | ⟨rfl, h⟩
    · rcases h2 with h2 | ⟨rfl, _⟩
      · rw [UInt8.lt_iff_toNat_lt] at h h2; omega
      · rw [UInt8.lt_iff_toNat_lt] at h; omega
    · rcases h2 with h2 | ⟨_, h2⟩
      · rw [UInt8.lt_iff_toNat_lt] at h2; omega
      · rw [ih h] at h2; cases h2

theorem bl_total : ∀ a b : List UInt8, Op.bytesLess a b = false → Op.bytesLess b a = false → a = b
  | [], [], _, _ => rfl
  | [], _ :: _, h, _ => by simp [Op.bytesLess] at h
  | _ :: _, [], _, h => by simp [Op.bytesLess] at h
  | x :: a, y :: b, h, h2 => by
    have ih := bl_total a b
    simp only [Op.bytesLess, Bool.or_eq_false_iff, decide_eq_false_iff_not, Bool.and_eq_false_iff, beq_eq_false_iff_ne, ne_eq] at h h2
    have e : x = y := by
      have h3 := h.1; have h4 := h2.1
      rw [UInt8.lt_iff_toNat_lt] at h3 h4
      exact UInt8.toNat_inj.1 (by omega)
    subst e
    have a1 : Op.bytesLess a b = false := h.2.resolve_left (fun e => e rfl)
    have a2 : Op.bytesLess b a = false := h2.2.resolve_left (fun e => e rfl)
    rw [ih a1 a2]

theorem bl_trans : ∀ a b c : List UInt8, Op.bytesLess a b = true → Op.bytesLess b c = true → Op.bytesLess a c = true
  | _, [], _, h, _ => by simp [Op.bytesLess] at h
  | _, _ :: _, [], _, h => by simp [Op.bytesLess] at h
  | [], _ :: _, _ :: _, _, _ => by simp [Op.bytesLess]
  | x :: a, y :: b, z :: c, h, h2 => by
    have ih := bl_trans a b c
    simp only [Op.bytesLess, Bool.or_eq_true, decide_eq_true_eq, Bool.and_eq_true, beq_iff_eq] at h h2 ⊢
    rcases h with h | ⟨rfl, h⟩
    · rcases h2 with h2 | ⟨rfl, _⟩
      · left; rw [UInt8.lt_iff_toNat_lt] at h h2 ⊢; omega
      · left; exact h
    · rcases h2 with h2 | ⟨rfl, h2⟩
      · left; exact h2
      · right; exact ⟨rfl, ih h h2⟩

theorem ordI_neg (a b : Int) : ordI b a = -ordI a b := by
  unfold ordI
  repeat' split
  all_goals omega
theorem ordI_lt {a b : Int} : ordI a b < 0 ↔ a < b := by
  unfold ordI
  repeat' split
  all_goals omega
theorem ordI_zero {a b : Int} : ordI a b = 0 ↔ a = b := by
  unfold ordI
  repeat' split
  all_goals omega

theorem ordS_lt {a b : ByteArray} : ordS a b < 0 ↔ Op.bytesLess a.toList b.toList = true := by
  unfold ordS
  split
  · simp [*]
  · split <;> simp [*]

theorem ordS_neg (a b : ByteArray) : ordS b a = -ordS a b := by
  unfold ordS
  cases h : Op.bytesLess a.toList b.toList
  · cases h2 : Op.bytesLess b.toList a.toList
    · have := bl_total _ _ h h2
      simp [this]
    · have hne : (a.toList == b.toList) = false := by
        rw [beq_eq_false_iff_ne]
        intro e
        rw [e, bl_irrefl] at h2
        cases h2
      simp [hne]
  · have h2 := bl_asymm _ _ h
    have hne : (b.toList == a.toList) = false := by
      rw [beq_eq_false_iff_ne]
      intro e
      rw [e, bl_irrefl] at h
      cases h
    simp [h2, hne]

theorem ordS_trans {a b c : ByteArray} (h : ordS a b < 0) (h2 : ordS b c < 0) : ordS a c < 0 := by
  rw [ordS_lt] at *
  exact bl_trans _ _ _ h h2

theorem cmpK_neg (k n u : Int) (t : ByteArray) (n' u' : Int) (t' : ByteArray) : cmpK k n' u' t' n u t = -cmpK k n u t n' u' t' := by
  unfold cmpK
  by_cases h2 : k = 2
  · simp only [h2, if_true]; exact ordI_neg _ _
  · simp only [h2, if_false]
    by_cases h3 : k = 3
    · simp only [h3, if_true]; exact ordS_neg _ _
    · simp only [h3, if_false]
      by_cases h4 : k = 4 ∧ n = n'
      · rw [if_pos h4, if_pos ⟨h4.1, h4.2.symm⟩]; exact ordI_neg _ _
      · rw [if_neg h4, if_neg (fun h => h4 ⟨h.1, h.2.symm⟩)]; exact ordI_neg _ _

theorem cmpK_trans (k n u : Int) (t : ByteArray) (n' u' : Int) (t' : ByteArray) (n'' u'' : Int) (t'' : ByteArray) (h : cmpK k n u t n' u' t' < 0) (h2 : cmpK k n' u' t' n'' u'' t'' < 0) : cmpK k n u t n'' u'' t'' < 0 := by
  unfold cmpK at *
  by_cases k2 : k = 2
  · simp only [k2, if_true] at *
    rw [ordI_lt] at *
    omega
  · simp only [k2, if_false] at *
    by_cases k3 : k = 3
    · simp only [k3, if_true] at *
      exact ordS_trans h h2
    · simp only [k3, if_false] at *
      by_cases k4 : k = 4
      · simp only [k4, true_and] at *
        by_cases e1 : n = n'
        · rw [if_pos e1, ordI_lt] at h
          subst e1
          by_cases e2 : n = n''
          · rw [if_pos e2, ordI_lt] at h2
            rw [if_pos e2, ordI_lt]
            omega
          · rw [if_neg e2, ordI_lt] at h2
            rw [if_neg e2, ordI_lt]
            omega
        · rw [if_neg e1, ordI_lt] at h
          by_cases e2 : n' = n''
          · subst e2
            rw [if_neg e1, ordI_lt]
            exact h
          · rw [if_neg e2, ordI_lt] at h2
            rw [if_neg (by omega), ordI_lt]
            omega
      · rw [if_neg (fun h => k4 h.1), ordI_lt] at *
        omega

theorem lessR_same {k : Int} (hk : k ≠ 0) (n u : Int) (t : ByteArray) (n' u' : Int) (t' : ByteArray) : lessR k n u t k n' u' t' = ⟨2, ofN (decide (cmpK k n u t n' u' t' < 0)), 0⟩ := by
  simp [lessR, nullB, hk]
theorem equalR_same {k : Int} (hk : k ≠ 0) (n u : Int) (t : ByteArray) (n' u' : Int) (t' : ByteArray) : equalR k n u t k n' u' t' = ⟨2, ofN (cmpK k n u t n' u' t' == 0), 0⟩ := by
  simp [equalR, nullB, hk]
theorem lessR_null {k k' : Int} (hk : k = 0 ∨ k' = 0) (n u : Int) (t : ByteArray) (n' u' : Int) (t' : ByteArray) : lessR k n u t k' n' u' t' = ⟨0, 0, 0⟩ := by
  rcases hk with rfl | rfl <;> simp [lessR, nullB]
theorem equalR_null {k k' : Int} (hk : k = 0 ∨ k' = 0) (n u : Int) (t : ByteArray) (n' u' : Int) (t' : ByteArray) : equalR k n u t k' n' u' t' = ⟨0, 0, 0⟩ := by
  rcases hk with rfl | rfl <;> simp [equalR, nullB]
theorem lessR_ne {k k' : Int} (hk : k ≠ 0) (hk' : k' ≠ 0) (h : k ≠ k') (n u : Int) (t : ByteArray) (n' u' : Int) (t' : ByteArray) : lessR k n u t k' n' u' t' = ⟨0, 0, 60⟩ := by
  simp [lessR, nullB, hk, hk', h]
theorem equalR_ne {k k' : Int} (hk : k ≠ 0) (hk' : k' ≠ 0) (h : k ≠ k') (n u : Int) (t : ByteArray) (n' u' : Int) (t' : ByteArray) : equalR k n u t k' n' u' t' = ⟨0, 0, 60⟩ := by
  simp [equalR, nullB, hk, hk', h]
end Go.Proofs.Ytmbjhahlbbhdaaa
