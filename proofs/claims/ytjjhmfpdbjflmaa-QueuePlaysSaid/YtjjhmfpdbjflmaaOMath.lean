/-
  What the laws of stage 13 need of the classes' modes.
-/
import Derived.Test.YtjjhmfpdbjflmaaOMore
namespace Go.Proofs.Ytjjhmfpdbjflmaa
open Go.RowKit
set_option linter.unusedVariables false

theorem may_class {c m : Int} (h : mayB c m = true) : c = 1 ∨ c = 2 := by
  unfold mayB at h
  simp at h
  omega
theorem may_nat {c m : Int} (h : mayB c m = true) : ∃ x : Nat, m = (x : Int) ∧ x < 9 := by
  have := may_8 h
  exact ⟨m.toNat, by omega, by omega⟩

theorem sym1 : ∀ x : Nat, x < 9 → ∀ y : Nat, y < 9 → oppB 1 (x : Int) y = oppB 1 (y : Int) x := by decide +kernel
theorem sym2 : ∀ x : Nat, x < 9 → ∀ y : Nat, y < 9 → oppB 2 (x : Int) y = oppB 2 (y : Int) x := by decide +kernel
theorem opp_sym {c : Int} {x y : Nat} (hx : mayB c (x : Int) = true) (hy : mayB c (y : Int) = true) : oppB c (x : Int) y = oppB c (y : Int) x := by
  have h1 := may_8 hx
  have h2 := may_8 hy
  rcases may_class hx with rfl | rfl
  · exact sym1 x (by omega) y (by omega)
  · exact sym2 x (by omega) y (by omega)

theorem may1 : ∀ x : Nat, x < 9 → ∀ y : Nat, y < 9 → oppB 1 (x : Int) y = true → mayB 1 (y : Int) = true := by decide +kernel
theorem may2 : ∀ x : Nat, x < 9 → ∀ y : Nat, y < 9 → oppB 2 (x : Int) y = true → mayB 2 (y : Int) = true := by decide +kernel
/-- What is incompatible with a mode is one. -/
theorem opp_may {c : Int} {x y : Nat} (hx : mayB c (x : Int) = true) (h : oppB c (x : Int) y = true) : mayB c (y : Int) = true := by
  have h1 := may_8 hx
  have h2 : y < 9 := by
    by_cases hh : y < 9
    · exact hh
    · rw [inc_out (by omega)] at h; cases h
  rcases may_class hx with rfl | rfl
  · exact may1 x (by omega) y h2 h
  · exact may2 x (by omega) y h2 h
theorem some1 : ∀ x : Nat, x < 9 → mayB 1 (x : Int) = true → oppB 1 (x : Int) 8 = true := by decide +kernel
theorem some2 : ∀ x : Nat, x < 9 → mayB 2 (x : Int) = true → oppB 2 (x : Int) 2 = true := by decide +kernel
/-- The strongest mode of a class. -/
def lastM (c : Int) : Nat := if c = 2 then 2 else 8
theorem opp_last {c : Int} {x : Nat} (hx : mayB c (x : Int) = true) : oppB c (x : Int) (lastM c) = true := by
  have h1 := may_8 hx
  rcases may_class hx with rfl | rfl
  · exact some1 x (by omega) hx
  · exact some2 x (by omega) hx
theorem last_may {c m : Int} (h : mayB c m = true) : mayB c (lastM c : Int) = true := by
  rcases may_class h with rfl | rfl <;> decide

theorem single_has {m : Int} (hm : U8 m) (h16 : m < 16) (k : Nat) : hasB (setN [m]) k = decide (m = (k : Int)) := by
  show hasB (withN 0 m) k = _
  rw [with_has (by decide) hm.1]
  have : hasB 0 k = false := by unfold hasB; exact Nat.zero_testBit _
  rw [this]
  simp [h16]
theorem single_u16 {m : Int} (hm : U8 m) : U16 (setN [m]) := with_u16 u16_0 hm.1
theorem go_single {c : Int} {x : Nat} {m : Int} (hx : x < 16) (hm : mayB c m = true) : goB c (setN [(x : Int)]) m = !oppB c m x := by
  have hu : U8 (x : Int) := by unfold U8; omega
  cases ho : oppB c m x with
  | true =>
    cases hg : goB c (setN [(x : Int)]) m with
    | false => rfl
    | true => exact ((goB_iff.1 hg).2 x (by rw [single_has hu (by omega)]; simp) ho).elim
  | false =>
    refine goB_iff.2 ⟨hm, fun k hk ho2 => ?_⟩
    rw [single_has hu (by omega), decide_eq_true_eq] at hk
    have : x = k := by omega
    rw [← this, ho] at ho2
    cases ho2
theorem cov_single {c : Int} {x : Nat} {m : Int} (hx : x < 9) (h : covB c (setN [(x : Int)]) m = true) : ∀ j, oppB c m j = true → oppB c (x : Int) j = true := by
  intro j hj
  obtain ⟨k, h1, h2, h3⟩ := (covB_iff.1 h).2 j hj
  rw [single_has (by unfold U8; omega) (by omega), decide_eq_true_eq] at h2
  have : x = k := by omega
  rw [this]; exact h3
theorem shr_nat {h : Int} (hh : U16 h) (i : Nat) (hi : i < 16) : (bits .and .u16 (h / 2 ^ i) 1 == 1) = hasB h i := by
  have := shr_bit (h := h) (m := (i : Int)) hh (by unfold U8; omega) (by omega)
  rw [show min ((i : Int)).toNat 16 = i by omega, Int.toNat_natCast] at this
  rw [this]
  cases hasB h i <;> rfl

/-- Does a mode go with each of the first modes that are held? -/
def eachB (c h m : Int) : Nat → Bool
  | 0 => true
  | i + 1 => if (hasB h i && mayB c (i : Int)) = true then eachB c h m i && goB c (setN [(i : Int)]) m else eachB c h m i
theorem each_iff {c h m : Int} (hm : mayB c m = true) : ∀ i, i ≤ 16 → (eachB c h m i = true ↔ ∀ k, k < i → hasB h k = true → mayB c (k : Int) = true → oppB c m k = false)
  | 0, _ => ⟨fun _ k hk => by omega, fun _ => rfl⟩
  | i + 1, hi => by
    have ih := each_iff hm (h := h) i (by omega)
    unfold eachB
    split
    · rename_i hq
      rw [Bool.and_eq_true] at hq
      rw [Bool.and_eq_true, ih, go_single (by omega) hm]
      constructor
      · rintro ⟨H, H2⟩ k hk h1 h2
        by_cases hki : k = i
        · subst hki
          cases ho : oppB c m k with
          | false => rfl
          | true => rw [ho] at H2; cases H2
        · exact H k (by omega) h1 h2
      · intro H
        exact ⟨fun k hk => H k (by omega), by rw [H i (by omega) hq.1 hq.2]; rfl⟩
    · rename_i hq
      rw [ih]
      constructor
      · intro H k hk h1 h2
        by_cases hki : k = i
        · subst hki
          exact absurd (by rw [h1, h2]; rfl) hq
        · exact H k (by omega) h1 h2
      · exact fun H k hk => H k (by omega)
theorem each_go {c h : Int} {x : Nat} (hm : mayB c (x : Int) = true) : goB c h (x : Int) = eachB c h (x : Int) 16 := by
  cases he : eachB c h (x : Int) 16 with
  | true =>
    refine goB_iff.2 ⟨hm, fun k hk ho => ?_⟩
    have h9 : k < 9 := by
      by_cases hh : k < 9
      · exact hh
      · rw [inc_out (by omega)] at ho; cases ho
    rw [(each_iff hm 16 (by omega)).1 he k (by omega) hk (opp_may hm ho)] at ho
    cases ho
  | false =>
    cases hg : goB c h (x : Int) with
    | false => rfl
    | true =>
      have : eachB c h (x : Int) 16 = true := (each_iff hm 16 (by omega)).2 fun k hk h1 _ => by
        cases ho : oppB c (x : Int) k with
        | false => rfl
        | true => exact ((goB_iff.1 hg).2 k h1 ho).elim
      rw [this] at he
      cases he
end Go.Proofs.Ytjjhmfpdbjflmaa
