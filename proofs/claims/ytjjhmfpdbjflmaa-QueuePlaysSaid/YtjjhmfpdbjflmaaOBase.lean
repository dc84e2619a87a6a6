/-
  Stage 13: sets of modes as bits, the array of incompatible modes.
-/
import Derived.Test.YtjjhmfpdbjflmaaYBase
import Derived.WalkKit
import Derived.WalkSpells
import Derived.WalkLawsBesides
import Derived.WalkSmall
import Derived.Lib.Hide
import Derived.Lib.SmallJoins
import Derived.Maps.AppendAt
import Derived.Deep.LoopGhost
import Derived.Laws.BitsAllLaws
import Derived.Laws.Shifts
import Derived.Laws.Build
namespace Go.Proofs.Ytjjhmfpdbjflmaa
open Go.RowKit
set_option linter.unusedVariables false

/-- The set of what is incompatible with a mode. -/
def incT : List Nat := [0, 256, 384, 480, 496, 472, 504, 508, 510]
def incO : List Nat := [0, 4, 6, 0, 0, 0, 0, 0, 0]
def incL (c : Int) : List Nat := if c = 1 then incT else if c = 2 then incO else [0, 0, 0, 0, 0, 0, 0, 0, 0]
def inc (c m : Int) : Nat := (incL c).getD m.toNat 0
def incA (c : Int) : Array Value := ((incL c).map fun (x : Nat) => Value.int .u16 (x : Int)).toArray

set_option maxRecDepth 100000 in
set_option maxHeartbeats 4000000 in
theorem inc_is (c : Int) (w : World) : Calls Try.prog 53 #[.int .u8 c] w fun e w' => e = .returned (.agg (incA c)) ∧ Below w.heap.size w w' := by
  by_cases h1 : c = 1
  · subst h1
    go_enter Try.func53, Try.ntmps53
    go_wp2
    exact bodyPost_ret (v := .agg (incA 1)) (by simp [results, Try.results53, go_sem]; rfl) rfl ⟨rfl, (Below.refl _ _).alloc (Nat.le_refl _) _⟩
  · by_cases h2 : c = 2
    · subst h2
      go_enter Try.func53, Try.ntmps53
      go_wp2
      exact bodyPost_ret (v := .agg (incA 2)) (by simp [results, Try.results53, go_sem]; rfl) rfl ⟨rfl, (Below.refl _ _).alloc (Nat.le_refl _) _⟩
    · have e1 : (c == 1) = false := by simpa using h1
      have e2 : (c == 2) = false := by simpa using h2
      have hA : incA c = #[.int .u16 0, .int .u16 0, .int .u16 0, .int .u16 0, .int .u16 0, .int .u16 0, .int .u16 0, .int .u16 0, .int .u16 0] := by unfold incA incL; rw [if_neg h1, if_neg h2]; rfl
      rw [hA]
      go_enter Try.func53, Try.ntmps53
      go_wp2
      refine bodyPost_ret (v := .agg #[.int .u16 0, .int .u16 0, .int .u16 0, .int .u16 0, .int .u16 0, .int .u16 0, .int .u16 0, .int .u16 0, .int .u16 0]) (by simp [results, Try.results53, go_sem]; done) rfl ⟨rfl, (Below.refl _ _).alloc (Nat.le_refl _) _⟩

theorem incL_len (c : Int) : (incL c).length = 9 := by unfold incL; split <;> (try rfl); split <;> rfl

/-- A mode's place in the array. -/
theorem index_is (c m : Int) (h0 : 0 ≤ m) (h8 : m ≤ 8) (k : IntKind) (w : World) : (Instr.index 85 (.agg (incA c)) (.int k m)).run Try.prog w = .ok (.int .u16 (inc c m : Int)) w := by
  have hu : Try.prog.underlying 85 = some (.array 9 45) := by kernel_rfl
  have hue : Try.prog.underlying 45 = some (.int .u16) := by kernel_rfl
  have hg : (incA c)[m.toNat]? = some (.int .u16 (inc c m : Int)) := by
    have hl : m.toNat < (incL c).length := by rw [incL_len]; omega
    unfold incA inc
    simp [List.getElem?_eq_getElem hl]
  have hn : 0 ≤ m ∧ m < 9 := by omega
  have hs : Try.t45.size = 1 := by kernel_rfl
  simp [Instr.index, run_underlying hu, run_underlying hue, asIntOf, hn, part, isAgg, sizeOf, hs, hg, go_sem]

/-- A mode of a class. -/
def mayB (c m : Int) : Bool := decide (c = 1 ∧ 1 ≤ m ∧ m ≤ 8) || decide (c = 2 ∧ 1 ≤ m ∧ m ≤ 2)
/-- Is a mode among what is held? -/
def hasB (h : Int) (k : Nat) : Bool := h.toNat.testBit k
/-- Are two modes incompatible? -/
def oppB (c m : Int) (k : Nat) : Bool := (inc c m).testBit k
/-- Does a mode go with what is held? -/
def goB (c h m : Int) : Bool := mayB c m && (List.range 9).all fun k => !(hasB h k && oppB c m k)
/-- Does what is held cover a mode? -/
def covB (c h m : Int) : Bool := mayB c m && (List.range 9).all fun j => !oppB c m j || (List.range 9).any fun k => hasB h k && oppB c (k : Int) j
/-- What is held with a mode more. -/
def withN (h m : Int) : Int := ((h.toNat ||| (if m < 16 then 2 ^ m.toNat else 0) : Nat) : Int)
/-- A set of 16 bits. -/
def U16 (h : Int) : Prop := 0 ≤ h ∧ h < 65536
/-- A number of 8 bits. -/
def U8 (m : Int) : Prop := 0 ≤ m ∧ m < 256

theorem nine {m : Int} (h0 : 0 ≤ m) (h8 : m ≤ 8) : m = 0 ∨ m = 1 ∨ m = 2 ∨ m = 3 ∨ m = 4 ∨ m = 5 ∨ m = 6 ∨ m = 7 ∨ m = 8 := by omega

theorem inc_other {c : Int} (h1 : c ≠ 1) (h2 : c ≠ 2) (m : Int) : inc c m = 0 := by
  unfold inc incL
  rw [if_neg h1, if_neg h2]
  have h : ∀ n : Nat, List.getD [0, 0, 0, 0, 0, 0, 0, 0, 0] n 0 = 0 := by
    intro n
    by_cases hn : n < 9
    · have : ∀ n, n < 9 → List.getD [0, 0, 0, 0, 0, 0, 0, 0, 0] n 0 = 0 := by decide
      exact this n hn
    · rw [List.getD_eq_getElem?_getD, List.getElem?_eq_none (by simpa using hn)]; rfl
  exact h _
theorem may_other {c : Int} (h1 : c ≠ 1) (h2 : c ≠ 2) (m : Int) : mayB c m = false := by
  unfold mayB; simp [h1, h2]
theorem inc_ne (c m : Int) (h0 : 0 ≤ m) (h8 : m ≤ 8) : (inc c m != 0) = mayB c m := by
  by_cases h1 : c = 1
  · subst h1
    rcases nine h0 h8 with rfl | rfl | rfl | rfl | rfl | rfl | rfl | rfl | rfl <;> decide
  · by_cases h2 : c = 2
    · subst h2
      rcases nine h0 h8 with rfl | rfl | rfl | rfl | rfl | rfl | rfl | rfl | rfl <;> decide
    · rw [inc_other h1 h2, may_other h1 h2]; rfl
theorem inc_lt (c m : Int) : inc c m < 512 := by
  by_cases h1 : c = 1
  · subst h1
    by_cases hm : m.toNat < 9
    · have : ∀ n, n < 9 → List.getD incT n 0 < 512 := by decide
      exact this _ hm
    · unfold inc incL
      rw [if_pos rfl, List.getD_eq_getElem?_getD, List.getElem?_eq_none (by simp [incT]; omega)]; decide
  · by_cases h2 : c = 2
    · subst h2
      by_cases hm : m.toNat < 9
      · have : ∀ n, n < 9 → List.getD incO n 0 < 512 := by decide
        exact this _ hm
      · unfold inc incL
        rw [if_neg (by decide), if_pos rfl, List.getD_eq_getElem?_getD, List.getElem?_eq_none (by simp [incO]; omega)]; decide
    · rw [inc_other h1 h2]; decide
theorem inc_out {c m : Int} {k : Nat} (h : 9 ≤ k) : oppB c m k = false := by
  unfold oppB
  exact Nat.testBit_lt_two_pow (Nat.lt_of_lt_of_le (inc_lt c m) (show 2 ^ 9 ≤ 2 ^ k from Nat.pow_le_pow_right (by decide) h))

theorem goB_iff {c h m : Int} : goB c h m = true ↔ mayB c m = true ∧ ∀ k, hasB h k = true → oppB c m k = true → False := by
  unfold goB
  rw [Bool.and_eq_true, List.all_eq_true]
  constructor
  · rintro ⟨h1, h2⟩
    refine ⟨h1, fun k hk ho => ?_⟩
    by_cases h9 : k < 9
    · have := h2 k (List.mem_range.2 h9)
      rw [hk, ho] at this; cases this
    · rw [inc_out (by omega)] at ho; cases ho
  · rintro ⟨h1, h2⟩
    refine ⟨h1, fun k _ => ?_⟩
    cases hk : hasB h k with
    | false => rfl
    | true =>
      cases ho : oppB c m k with
      | false => rfl
      | true => exact (h2 k hk ho).elim
theorem covB_iff {c h m : Int} : covB c h m = true ↔ mayB c m = true ∧ ∀ j, oppB c m j = true → ∃ k, k < 9 ∧ hasB h k = true ∧ oppB c (k : Int) j = true := by
  unfold covB
  rw [Bool.and_eq_true, List.all_eq_true]
  constructor
  · rintro ⟨h1, h2⟩
    refine ⟨h1, fun j ho => ?_⟩
    by_cases h9 : j < 9
    · have := h2 j (List.mem_range.2 h9)
      rw [ho, Bool.not_true, Bool.false_or, List.any_eq_true] at this
      obtain ⟨k, hk, hkk⟩ := this
      rw [Bool.and_eq_true] at hkk
      exact ⟨k, List.mem_range.1 hk, hkk.1, hkk.2⟩
    · rw [inc_out (by omega)] at ho; cases ho
  · rintro ⟨h1, h2⟩
    refine ⟨h1, fun j _ => ?_⟩
    cases ho : oppB c m j with
    | false => rfl
    | true =>
      obtain ⟨k, hk, hkk⟩ := h2 j ho
      rw [Bool.not_true, Bool.false_or, List.any_eq_true]
      exact ⟨k, List.mem_range.2 hk, by rw [Bool.and_eq_true]; exact hkk⟩

theorem and_none (a b : Nat) : (a &&& b = 0) ↔ ∀ k, a.testBit k = true → b.testBit k = true → False := by
  constructor
  · intro h k h1 h2
    have := congrArg (fun x => x.testBit k) h
    simp [Nat.testBit_and, h1, h2] at this
  · intro h
    refine Nat.eq_of_testBit_eq fun k => ?_
    rw [Nat.testBit_and, Nat.zero_testBit]
    cases h1 : a.testBit k with
    | false => rfl
    | true =>
      cases h2 : b.testBit k with
      | false => rfl
      | true => exact (h k h1 h2).elim

/-- What the code asks of a mode and what is held. -/
theorem go_and (c h m : Int) (hm : mayB c m = true) : (h.toNat &&& inc c m = 0) ↔ goB c h m = true := by
  rw [and_none, goB_iff]
  exact ⟨fun H => ⟨hm, H⟩, fun H => H.2⟩

/-- What is incompatible with what is held, among the first modes. -/
def kept (c h : Int) : Nat → Nat
  | 0 => 0
  | i + 1 => if hasB h i = true then kept c h i ||| inc c (i : Int) else kept c h i
theorem kept_lt (c h : Int) : ∀ i, kept c h i < 512
  | 0 => by unfold kept; decide
  | i + 1 => by
    unfold kept
    split
    · exact Nat.or_lt_two_pow (n := 9) (kept_lt c h i) (inc_lt _ _)
    · exact kept_lt c h i
theorem kept_bit (c h : Int) (j : Nat) : ∀ i, (kept c h i).testBit j = true ↔ ∃ k, k < i ∧ hasB h k = true ∧ oppB c (k : Int) j = true
  | 0 => by
    constructor
    · intro hx
      rw [show kept c h 0 = 0 from rfl, Nat.zero_testBit] at hx
      cases hx
    · rintro ⟨k, hk, _⟩
      omega
  | i + 1 => by
    unfold kept
    split
    · rename_i hi
      rw [Nat.testBit_or, Bool.or_eq_true, kept_bit c h j i]
      constructor
      · rintro (⟨k, h1, h2⟩ | h1)
        · exact ⟨k, by omega, h2⟩
        · exact ⟨i, by omega, hi, h1⟩
      · rintro ⟨k, h1, h2, h3⟩
        by_cases hk : k = i
        · subst hk; exact .inr h3
        · exact .inl ⟨k, by omega, h2, h3⟩
    · rename_i hi
      rw [kept_bit c h j i]
      constructor
      · rintro ⟨k, h1, h2⟩
        exact ⟨k, by omega, h2⟩
      · rintro ⟨k, h1, h2, h3⟩
        by_cases hk : k = i
        · subst hk; exact (hi h2).elim
        · exact ⟨k, by omega, h2, h3⟩
theorem cov_and (c h m : Int) (hm : mayB c m = true) : (inc c m &&& (65535 - kept c h 9) = 0) ↔ covB c h m = true := by
  rw [and_none, covB_iff]
  have hk := kept_lt c h 9
  have e : ∀ j, (65535 - kept c h 9).testBit j = (decide (j < 16) && !(kept c h 9).testBit j) := by
    intro j
    have := Nat.testBit_two_pow_sub_succ (n := 16) (x := kept c h 9) (by omega) j
    rwa [show 2 ^ 16 - (kept c h 9 + 1) = 65535 - kept c h 9 by omega] at this
  constructor
  · intro H
    refine ⟨hm, fun j hj => ?_⟩
    have h9 : j < 9 := by
      by_cases hh : j < 9
      · exact hh
      · rw [inc_out (by omega)] at hj; cases hj
    cases hb : (kept c h 9).testBit j with
    | true => exact (kept_bit c h j 9).1 hb
    | false => exact (H j hj (by rw [e, hb]; simp; omega)).elim
  · intro H j h1 h2
    rw [e, (kept_bit c h j 9).2 (H.2 j h1)] at h2
    simp at h2

theorem with_u16 {h m : Int} (hh : U16 h) (hm : 0 ≤ m) : U16 (withN h m) := by
  obtain ⟨h0, h1⟩ := hh
  unfold withN
  have : h.toNat ||| (if m < 16 then 2 ^ m.toNat else 0) < 2 ^ 16 := by
    refine Nat.or_lt_two_pow (by omega) ?_
    split
    · exact Nat.pow_lt_pow_right (by decide) (by omega)
    · decide
  exact ⟨by omega, by omega⟩
theorem with_has {h m : Int} (hh : 0 ≤ h) (hm : 0 ≤ m) (k : Nat) : hasB (withN h m) k = (hasB h k || (decide (m < 16) && decide (m = (k : Int)))) := by
  unfold hasB withN
  rw [Int.toNat_natCast, Nat.testBit_or]
  congr 1
  split
  · rename_i h16
    rw [Nat.testBit_two_pow]
    simp only [h16, decide_true, Bool.true_and]
    exact decide_eq_decide.2 (by omega)
  · rename_i h16
    simp [h16]
end Go.Proofs.Ytjjhmfpdbjflmaa
