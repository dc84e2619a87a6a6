/-
  Package modes: walked (stage 13).
-/
import Derived.Test.YtjjhmfpdbjflmaaOBase
namespace Go.Proofs.Ytjjhmfpdbjflmaa
open Go.RowKit
set_option linter.unusedVariables false

theorem beq_of {p : Prop} [Decidable p] {x : Int} {b : Bool} (h : x = 0 ↔ b = true) : (x == 0) = b := by
  cases b with
  | true => rw [beq_iff_eq]; exact h.2 rfl
  | false =>
    cases hx : (x == 0) with
    | false => rfl
    | true => exact absurd (h.1 (beq_iff_eq.1 hx)) (by decide)

theorem inc_test (c m : Int) (h0 : 0 ≤ m) (h8 : m ≤ 8) : ((inc c m : Int) != 0) = mayB c m := by
  rw [← inc_ne c m h0 h8]
  cases h : inc c m with
  | zero => rfl
  | succ n =>
    simp
    omega
theorem go_test (c h m : Int) (hh : U16 h) (hm : mayB c m = true) : (bits .and .u16 h (inc c m : Int) == 0) = goB c h m := by
  have hlt := inc_lt c m
  rw [u16_and h (inc c m : Int) hh.1 hh.2 (by omega) (by omega), Int.toNat_natCast]
  refine beq_of (p := True) ?_
  rw [← go_and c h m hm]
  omega
theorem cov_test (c h m : Int) (hm : mayB c m = true) : (bits .andNot .u16 (inc c m : Int) (kept c h 9 : Int) == 0) = covB c h m := by
  have hlt := inc_lt c m
  have hk := kept_lt c h 9
  rw [u16_andNot _ _ (by omega) (by omega) (by omega) (by omega), Int.toNat_natCast, Int.toNat_natCast]
  refine beq_of (p := True) ?_
  rw [← cov_and c h m hm]
  omega
theorem kept_or (c h : Int) (i : Nat) : bits .or .u16 (kept c h i : Int) (inc c (i : Int) : Int) = ((kept c h i ||| inc c (i : Int) : Nat) : Int) := by
  have hlt := inc_lt c (i : Int)
  have hk := kept_lt c h i
  rw [u16_or _ _ (by omega) (by omega) (by omega) (by omega), Int.toNat_natCast, Int.toNat_natCast]
/-- A bit of a set. -/
theorem two_lt {k : Nat} (hk : k < 16) : 2 ^ k < 65536 := Nat.lt_of_lt_of_le (Nat.pow_lt_pow_right (by decide) hk) (by decide)
theorem wrap_two {k : Nat} (hk : k < 16) : IntKind.u16.wrap ((2 : Int) ^ k) = ((2 ^ k : Nat) : Int) := by
  have h2 := two_lt hk
  have e : ((2 : Int) ^ k) = ((2 ^ k : Nat) : Int) := by simp
  rw [IntKind.wrap_u16, e]
  generalize 2 ^ k = x at *
  omega
theorem bit_two (h : Int) (hh : U16 h) (k : Nat) (hk : k < 16) : (bits .and .u16 h (IntKind.u16.wrap ((2 : Int) ^ k)) != 0) = hasB h k := by
  have h2 := two_lt hk
  rw [wrap_two hk, u16_and h _ hh.1 hh.2 (Int.natCast_nonneg _) (Int.ofNat_lt.2 h2), Int.toNat_natCast]
  have e : (((h.toNat &&& 2 ^ k : Nat) : Int) == 0) = !hasB h k := by
    refine beq_of (p := True) ?_
    rw [Int.natCast_eq_zero, and_none]
    unfold hasB
    constructor
    · intro H
      cases hb : h.toNat.testBit k with
      | false => rfl
      | true => exact (H k hb (by rw [Nat.testBit_two_pow]; simp)).elim
    · intro H j h1 h3
      rw [Nat.testBit_two_pow, decide_eq_true_eq] at h3
      subst h3
      rw [h1] at H
      cases H
  rw [bne, e, Bool.not_not]

theorem may_8 {c m : Int} (h : mayB c m = true) : 1 ≤ m ∧ m ≤ 8 := by
  unfold mayB at h
  simp at h
  omega

set_option maxRecDepth 100000 in
set_option maxHeartbeats 4000000 in
theorem may_is (c m : Int) (hm : U8 m) (w : World) (b : Bool) (hb : mayB c m = b) : Calls Try.prog 29 #[.int .u8 c, .int .u8 m] w fun e w' => e = .returned (.bool b) ∧ Below w.heap.size w w' := by
  have hcon := inc_is c w
  obtain ⟨A, hA⟩ : ∃ A, incA c = A := ⟨_, rfl⟩
  by_cases h8 : m ≤ 8
  · have hix := fun w => index_is c m hm.1 h8 .u8 w
    have hne := inc_test c m hm.1 h8
    rw [hb] at hne
    rw [hA] at hcon hix
    obtain ⟨x, hx⟩ : ∃ x, (inc c m : Int) = x := ⟨_, rfl⟩
    simp only [hx] at hix hne
    clear hx hb hA
    go_enter Try.func29, Try.ntmps29
    go_wp2_with fail
    refine hcon.mono ?_
    rintro e w1 ⟨rfl, hb1⟩
    go_wp2_with fail
    go_ret
    exact ⟨rfl, hb1⟩
  · have hn : mayB c m = false := by unfold mayB; simp; omega
    rw [hn] at hb
    subst hb
    clear hcon hA
    go_enter Try.func29, Try.ntmps29
    go_wp2_with fail
    go_ret
    exact ⟨rfl, Below.refl _ _⟩

set_option maxRecDepth 100000 in
set_option maxHeartbeats 4000000 in
theorem go_is (c h m : Int) (hm : U8 m) (hh : U16 h) (w : World) (b : Bool) (hb : goB c h m = b) : Calls Try.prog 26 #[.int .u8 c, .int .u16 h, .int .u8 m] w fun e w' => e = .returned (.bool b) ∧ Below w.heap.size w w' := by
  obtain ⟨p, hp⟩ : ∃ p, mayB c m = p := ⟨_, rfl⟩
  have hcm := may_is c m hm w p hp
  cases p with
  | false =>
    have hn : goB c h m = false := by unfold goB; rw [hp]; rfl
    rw [hn] at hb
    subst hb
    go_enter Try.func26, Try.ntmps26
    go_wp2_with fail
    refine hcm.mono ?_
    rintro e w1 ⟨rfl, hb1⟩
    go_wp2_with fail
    go_ret
    exact ⟨rfl, hb1⟩
  | true =>
    have hcon := fun w => inc_is c w
    have hix := fun w => index_is c m hm.1 (may_8 hp).2 .u8 w
    have hxb := go_test c h m hh hp
    rw [hb] at hxb
    obtain ⟨A, hA⟩ : ∃ A, incA c = A := ⟨_, rfl⟩
    obtain ⟨x, hx⟩ : ∃ x, (inc c m : Int) = x := ⟨_, rfl⟩
    simp only [hA] at hcon hix
    simp only [hx] at hix hxb
    clear hA hb hx
    go_enter Try.func26, Try.ntmps26
    go_wp2_with fail
    refine hcm.mono ?_
    rintro e w1 ⟨rfl, hb1⟩
    have HB := Lib.hid hb1
    clear hb1
    go_wp2_with fail
    refine (hcon _).mono ?_
    rintro e w2 ⟨rfl, hb2⟩
    have HB2 := Lib.hid hb2
    clear hb2
    go_wp2_with fail
    go_ret
    exact ⟨rfl, below_tr HB.out HB2.out⟩

set_option maxRecDepth 100000 in
set_option maxHeartbeats 4000000 in
theorem covers_is (c h m : Int) (hm : U8 m) (hh : U16 h) (w : World) (b : Bool) (hb : covB c h m = b) : Calls Try.prog 27 #[.int .u8 c, .int .u16 h, .int .u8 m] w fun e w' => e = .returned (.bool b) ∧ Below w.heap.size w w' := by
  obtain ⟨p, hp⟩ : ∃ p, mayB c m = p := ⟨_, rfl⟩
  have hcm := fun w => may_is c m hm w p hp
  have hcon := fun w => inc_is c w
  have hix := fun i (h0 : 0 ≤ i) h8 k w => index_is c i h0 h8 k w
  obtain ⟨A, hA⟩ : ∃ A, incA c = A := ⟨_, rfl⟩
  simp only [hA] at hcon hix
  have HIX := Lib.hid hix
  clear hA hix
  go_enter Try.func27, Try.ntmps27
  go_wp2_with fail
  refine (hcon _).mono ?_
  rintro e w1 ⟨rfl, hb1⟩
  have HB := Lib.hid hb1
  clear hb1
  go_wp2_with fail
  go_loopg [7, 8, 9, 12, 13, 14, 15, 16, 17, 18, 19, 20, 21, 22, 23, 24] 9 (fun gg s7 s8 s9 s12 s13 s14 s15 s16 s17 s18 s19 s20 s21 s22 s23 s24 wr => ∃ i : Nat, s12 = .int .i64 i ∧ s7 = .int .u16 (kept c h i : Int) ∧ i ≤ 9 ∧ 9 - i ≤ gg ∧ Hid (Below w.heap.size w wr))
  case atStart => exact ⟨0, rfl, rfl, by omega, by omega, HB⟩
  case round =>
    obtain ⟨i, rfl, rfl, hi, hgg, BW⟩ := hrel
    by_cases h9 : i < 9
    · have hlt : (i : Int) < 9 := by omega
      have hix := fun k w => HIX.out (i : Int) (by omega) (by omega) k w
      have hq := bit_two h hh i (by omega)
      have hor := kept_or c h i
      obtain ⟨q, hqq⟩ : ∃ q, hasB h i = q := ⟨_, rfl⟩
      rw [hqq] at hq
      have hk : kept c h (i + 1) = if q = true then kept c h i ||| inc c (i : Int) else kept c h i := by rw [← hqq]; rfl
      obtain ⟨x, hx⟩ : ∃ x, kept c h i = x := ⟨_, rfl⟩
      obtain ⟨y, hy⟩ : ∃ y, inc c (i : Int) = y := ⟨_, rfl⟩
      simp only [hx, hy] at hix hor hk ⊢
      have HK := Lib.hid hk
      clear hqq hk hx hy
      cases q with
      | true =>
        go_wp2_with fail
        go_roundg (9 - (i + 1))
        case measure => omega
        case rel => exact ⟨i + 1, by go_num, by rw [HK.out]; rfl, by omega, Nat.le_refl _, BW⟩
      | false =>
        go_wp2_with fail
        go_roundg (9 - (i + 1))
        case measure => omega
        case rel => exact ⟨i + 1, by go_num, by rw [HK.out]; rfl, by omega, Nat.le_refl _, BW⟩
    · have hlt : ¬ (i : Int) < 9 := by omega
      have hi9 : i = 9 := by omega
      subst hi9
      clear hlt
      cases p with
      | false =>
        have hn : covB c h m = false := by unfold covB; rw [hp]; rfl
        rw [hn] at hb
        subst hb
        go_wp2_with fail
        refine (hcm _).mono ?_
        rintro e w2 ⟨rfl, hb2⟩
        have HB2 := Lib.hid (below_tr BW.out hb2)
        clear hb2
        go_wp2_with fail
        go_ret
        exact ⟨rfl, HB2.out⟩
      | true =>
        have hxb := cov_test c h m hp
        rw [hb] at hxb
        have hix := fun w => HIX.out m hm.1 (may_8 hp).2 .u8 w
        obtain ⟨x, hx⟩ : ∃ x, (inc c m : Int) = x := ⟨_, rfl⟩
        obtain ⟨y, hy⟩ : ∃ y, (kept c h 9 : Int) = y := ⟨_, rfl⟩
        simp only [hx, hy] at hix hxb ⊢
        clear hx hy hb
        go_wp2_with fail
        refine (hcm _).mono ?_
        rintro e w2 ⟨rfl, hb2⟩
        have HB2 := Lib.hid (below_tr BW.out hb2)
        clear hb2
        go_wp2_with fail
        refine (hcon _).mono ?_
        rintro e w3 ⟨rfl, hb3⟩
        have HB3 := Lib.hid (below_tr HB2.out hb3)
        clear hb3
        go_wp2_with fail
        go_ret
        exact ⟨rfl, HB3.out⟩
end Go.Proofs.Ytjjhmfpdbjflmaa
