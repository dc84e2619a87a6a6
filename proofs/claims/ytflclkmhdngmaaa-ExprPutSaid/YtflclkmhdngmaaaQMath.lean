/-
  What is of no program: sums, differences and products within 64 bits, and how the code and the document tell whether they are.
-/
import Derived.IntWalk
namespace Go.Proofs.Ytflclkmhdngmaaa
open Go.RowKit

/-- A number that is within int64. -/
def I64 (n : Int) : Prop := -9223372036854775808 ≤ n ∧ n ≤ 9223372036854775807
instance (n : Int) : Decidable (I64 n) := by unfold I64; infer_instance
def inR (n : Int) : Bool := decide (I64 n)

theorem inR_iff {n : Int} : inR n = true ↔ I64 n := by unfold inR; exact decide_eq_true_iff

theorem wrap_in {n : Int} (h : I64 n) : wrap64 n = n := by unfold wrap64; unfold I64 at h; omega
theorem wrap_R {n : Int} (h : inR n = true) : wrap64 n = n := wrap_in (of_decide_eq_true h)

theorem add_ok {x y : Int} (hx : I64 x) (hy : I64 y) : (decide (x < wrap64 (x + y)) == decide (0 < y)) = inR (x + y) := by
  rw [Bool.eq_iff_iff, inR_iff]
  simp only [beq_iff_eq, decide_eq_decide]
  unfold I64 wrap64 at *
  omega

theorem sub_ok {x y : Int} (hx : I64 x) (hy : I64 y) : (decide (wrap64 (x - y) < x) == decide (0 < y)) = inR (x - y) := by
  rw [Bool.eq_iff_iff, inR_iff]
  simp only [beq_iff_eq, decide_eq_decide]
  unfold I64 wrap64 at *
  omega

theorem wrap_mod (n : Int) : ∃ m, wrap64 n = n - 18446744073709551616 * m := by
  unfold wrap64
  exact ⟨(n + 9223372036854775808) / 18446744073709551616, by omega⟩

theorem wrap_bd (n : Int) : I64 (wrap64 n) := by unfold wrap64 I64; omega

theorem mul_ok {x y : Int} (hx : I64 x) (hy : I64 y) (h0 : x ≠ 0) (h1 : ¬ (x = -1 ∧ y = -9223372036854775808)) : (wrap64 ((wrap64 (x * y)).tdiv x) == y) = inR (x * y) := by
  rw [Bool.eq_iff_iff, beq_iff_eq, inR_iff]
  refine ⟨fun h => ?_, fun h => ?_⟩
  · apply Classical.byContradiction
    intro hn
    have hx1 : x ≠ -1 := by
      rintro rfl
      apply hn
      unfold I64 at *
      omega
    obtain ⟨m, hm⟩ := wrap_mod (x * y)
    have hb := wrap_bd (x * y)
    generalize wrap64 (x * y) = p at *
    have e1 := Int.mul_tdiv_add_tmod p x
    have e2 := Int.natAbs_tmod p x
    have e3 : p.natAbs % x.natAbs < x.natAbs := Nat.mod_lt _ (by omega)
    have e4 : (p.tdiv x).natAbs ≤ p.natAbs := by
      have : (p.tdiv x).natAbs = p.natAbs / x.natAbs := Int.natAbs_tdiv p x
      rw [this]
      exact Nat.div_le_self _ _
    have e3' : (p.tmod x).natAbs < x.natAbs := by rw [show (p.tmod x).natAbs = p.natAbs % x.natAbs from e2]; exact e3
    clear e2 e3
    generalize p.tmod x = r at *
    generalize p.tdiv x = q at *
    have hq : I64 q := by
      by_cases hq : q = 9223372036854775808
      · subst hq
        exfalso
        unfold I64 at *
        omega
      · unfold I64 at *
        omega
    rw [wrap_in hq] at h
    subst h
    generalize x * q = z at *
    have : m = 0 := by unfold I64 at *; omega
    subst this
    apply hn
    unfold I64 at *
    omega
  · rw [wrap_in h, Int.mul_tdiv_cancel_left _ h0, wrap_in hy]
end Go.Proofs.Ytflclkmhdngmaaa
