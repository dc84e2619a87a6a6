/-
  ModesMore, walked (stage 13).
-/
import Derived.Test.YtjjhmfpdbjflmaaOSet
namespace Go.Proofs.Ytjjhmfpdbjflmaa
open Go.RowKit
set_option linter.unusedVariables false

/-- What is held, with more. -/
def orN (h h2 : Int) : Int := ((h.toNat ||| h2.toNat : Nat) : Int)
theorem or_u16 {h h2 : Int} (hh : U16 h) (hh2 : U16 h2) : U16 (orN h h2) := by
  obtain ⟨a0, a1⟩ := hh
  obtain ⟨b0, b1⟩ := hh2
  unfold orN
  have : h.toNat ||| h2.toNat < 2 ^ 16 := Nat.or_lt_two_pow (by omega) (by omega)
  exact ⟨by omega, by omega⟩
theorem or_has (h h2 : Int) (k : Nat) : hasB (orN h h2) k = (hasB h k || hasB h2 k) := by
  unfold hasB orN
  rw [Int.toNat_natCast, Nat.testBit_or]
theorem or_bits {h h2 : Int} (hh : U16 h) (hh2 : U16 h2) : bits .or .u16 h h2 = orN h h2 := by
  rw [u16_or _ _ hh.1 hh.2 hh2.1 hh2.2]; rfl
theorem go_more {c h h2 m : Int} (H : goB c (orN h h2) m = true) : goB c h m = true := by
  rw [goB_iff] at H ⊢
  exact ⟨H.1, fun k hk => H.2 k (by rw [or_has, hk]; rfl)⟩
theorem cov_more {c h h2 m : Int} (H : covB c h m = true) : covB c (orN h h2) m = true := by
  rw [covB_iff] at H ⊢
  refine ⟨H.1, fun j hj => ?_⟩
  obtain ⟨k, h1, h3, h4⟩ := H.2 j hj
  exact ⟨k, h1, by rw [or_has, h3]; rfl, h4⟩
theorem ext_has {h h2 : Int} (hh : 0 ≤ h) (hh2 : 0 ≤ h2) (H : ∀ k, hasB h k = hasB h2 k) : h = h2 := by
  have : h.toNat = h2.toNat := Nat.eq_of_testBit_eq H
  omega
theorem and_has (h h2 : Int) (hh : U16 h) (hh2 : U16 h2) (k : Nat) : hasB (bits .and .u16 h h2) k = (hasB h k && hasB h2 k) := by
  unfold hasB
  rw [u16_and _ _ hh.1 hh.2 hh2.1 hh2.2, Int.toNat_natCast, Nat.testBit_and]
theorem and_nat {h h2 : Int} (hh : U16 h) (hh2 : U16 h2) : 0 ≤ bits .and .u16 h h2 := by
  rw [u16_and _ _ hh.1 hh.2 hh2.1 hh2.2]; exact Int.natCast_nonneg _
theorem with_keeps {h m : Int} (hh : U16 h) (hm : U8 m) : bits .and .u16 (withN h m) h = h := by
  have hu := with_u16 hh hm.1
  refine ext_has (and_nat hu hh) hh.1 fun k => ?_
  rw [and_has _ _ hu hh, with_has hh.1 hm.1]
  cases hasB h k <;> simp
theorem with_twice {h m : Int} (hh : U16 h) (hm : U8 m) : withN (withN h m) m = withN h m := by
  have hu := with_u16 hh hm.1
  refine ext_has (with_u16 hu hm.1).1 hu.1 fun k => ?_
  rw [with_has hu.1 hm.1, with_has hh.1 hm.1]
  cases hasB h k <;> cases (decide (m < 16) && decide (m = (k : Int))) <;> rfl
/-- A mode's bit, shifted to the end. -/
theorem shr_bit {h m : Int} (hh : U16 h) (hm : U8 m) (h15 : m < 16) : bits .and .u16 (h / 2 ^ min m.toNat 16) 1 = if hasB h m.toNat = true then 1 else 0 := by
  have e : min m.toNat 16 = m.toNat := by have := hm.1; omega
  obtain ⟨k, hk⟩ : ∃ k : Nat, m.toNat = k := ⟨_, rfl⟩
  obtain ⟨x, rfl⟩ : ∃ x : Nat, h = x := ⟨h.toNat, by have := hh.1; omega⟩
  rw [e, hk]
  have h2 : 0 < 2 ^ k := Nat.two_pow_pos k
  have hd : ((x : Int) / 2 ^ k) = ((x / 2 ^ k : Nat) : Int) := by rw [Int.natCast_ediv, Int.natCast_pow]; rfl
  have hlt : x / 2 ^ k < 65536 := Nat.lt_of_le_of_lt (Nat.div_le_self _ _) (by have := hh.2; omega)
  rw [hd, u16_and _ 1 (Int.natCast_nonneg _) (Int.ofNat_lt.2 hlt) (by decide) (by decide), Int.toNat_natCast]
  unfold hasB
  rw [Int.toNat_natCast, show (1 : Int).toNat = 1 from rfl, Nat.and_one_is_mod, Nat.testBit_eq_decide_div_mod_eq]
  by_cases hx : x / 2 ^ k % 2 = 1
  · rw [hx, if_pos (by simp)]; rfl
  · have : x / 2 ^ k % 2 = 0 := by omega
    rw [this, if_neg (by simp)]; rfl

end Go.Proofs.Ytjjhmfpdbjflmaa
