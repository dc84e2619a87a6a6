/-
  ModesMore, walked (stage 13).
-/
import Derived.Test.YtdncoegdgoacnaaOWorks
namespace Go.Proofs.Ytdncoegdgoacnaa
open Go.RowKit
set_option linter.unusedVariables false

/-- What is held, with more. -/
def orN (h h2 : Int) : Int := ((h.toNat ||| h2.toNat : Nat) : Int)
theorem or_u16 {h h2 : Int} (hh : U16 h) (hh2 : U16 h2) : U16 (orN h h2) := by
  obtain ⟨a0, a1⟩ := hh
  obtain ⟨b0, b1⟩ := hh2
  unfold orN
  have : h.toNat ||| h2.toNat < 2 ^ 16 := Nat.or_lt_two_pow (by omega) (by omega)
  exact ⟨by omega, by omega⟩
theorem or_has (h h2 : Int) (k : Nat) : hasB (orN h h2) k = (hasB h k || hasB h2 k) := by
  unfold hasB orN
  rw [Int.toNat_natCast, Nat.testBit_or]
theorem or_bits {h h2 : Int} (hh : U16 h) (hh2 : U16 h2) : bits .or .u16 h h2 = orN h h2 := by
  rw [u16_or _ _ hh.1 hh.2 hh2.1 hh2.2]; rfl
theorem go_more {c h h2 m : Int} (H : goB c (orN h h2) m = true) : goB c h m = true := by
  rw [goB_iff] at H ⊢
  exact ⟨H.1, fun k hk => H.2 k (by rw [or_has, hk]; rfl)⟩
theorem cov_more {c h h2 m : Int} (H : covB c h m = true) : covB c (orN h h2) m = true := by
  rw [covB_iff] at H ⊢
  refine ⟨H.1, fun j hj => ?_⟩
  obtain ⟨k, h1, h3, h4⟩ := H.2 j hj
  exact ⟨k, h1, by rw [or_has, h3]; rfl, h4⟩
theorem ext_has {h h2 : Int} (hh : 0 ≤ h) (hh2 : 0 ≤ h2) (H : ∀ k, hasB h k = hasB h2 k) : h = h2 := by
  have : h.toNat = h2.toNat := Nat.eq_of_testBit_eq H
  omega
theorem and_has (h h2 : Int) (hh : U16 h) (hh2 : U16 h2) (k : Nat) : hasB (bits .and .u16 h h2) k = (hasB h k && hasB h2 k) := by
  unfold hasB
  rw [u16_and _ _ hh.1 hh.2 hh2.1 hh2.2, Int.toNat_natCast, Nat.testBit_and]
theorem and_nat {h h2 : Int} (hh : U16 h) (hh2 : U16 h2) : 0 ≤ bits .and .u16 h h2 := by
  rw [u16_and _ _ hh.1 hh.2 hh2.1 hh2.2]; exact Int.natCast_nonneg _
theorem with_keeps {h m : Int} (hh : U16 h) (hm : U8 m) : bits .and .u16 (withN h m) h = h := by
  have hu := with_u16 hh hm.1
  refine ext_has (and_nat hu hh) hh.1 fun k => ?_
  rw [and_has _ _ hu hh, with_has hh.1 hm.1]
  cases hasB h k <;> simp
theorem with_twice {h m : Int} (hh : U16 h) (hm : U8 m) : withN (withN h m) m = withN h m := by
  have hu := with_u16 hh hm.1
  refine ext_has (with_u16 hu hm.1).1 hu.1 fun k => ?_
  rw [with_has hu.1 hm.1, with_has hh.1 hm.1]
  cases hasB h k <;> cases (decide (m < 16) && decide (m = (k : Int))) <;> rfl
/-- A mode's bit, shifted to the end. -/
theorem shr_bit {h m : Int} (hh : U16 h) (hm : U8 m) (h15 : m < 16) : bits .and .u16 (h / 2 ^ min m.toNat 16) 1 = if hasB h m.toNat = true then 1 else 0 := by
  have e : min m.toNat 16 = m.toNat := by have := hm.1; omega
  obtain ⟨k, hk⟩ : ∃ k : Nat, m.toNat = k := ⟨_, rfl⟩
  obtain ⟨x, rfl⟩ : ∃ x : Nat, h = x := ⟨h.toNat, by have := hh.1; omega⟩
  rw [e, hk]
  have h2 : 0 < 2 ^ k := Nat.two_pow_pos k
  have hd : ((x : Int) / 2 ^ k) = ((x / 2 ^ k : Nat) : Int) := by rw [Int.natCast_ediv, Int.natCast_pow]; rfl
  have hlt : x / 2 ^ k < 65536 := Nat.lt_of_le_of_lt (Nat.div_le_self _ _) (by have := hh.2; omega)
  rw [hd, u16_and _ 1 (Int.natCast_nonneg _) (Int.ofNat_lt.2 hlt) (by decide) (by decide), Int.toNat_natCast]
  unfold hasB
  rw [Int.toNat_natCast, show (1 : Int).toNat = 1 from rfl, Nat.and_one_is_mod, Nat.testBit_eq_decide_div_mod_eq]
  by_cases hx : x / 2 ^ k % 2 = 1
  · rw [hx, if_pos (by simp)]; rfl
  · have : x / 2 ^ k % 2 = 0 := by omega
    rw [this, if_neg (by simp)]; rfl

set_option maxRecDepth 100000 in
set_option maxHeartbeats 4000000 in
theorem more_law (c h h2 m : Int) (hm : U8 m) (hh : U16 h) (hh2 : U16 h2) (w : World) :
    Calls Try.prog 6 #[.int .u8 c, .int .u16 h, .int .u16 h2, .int .u8 m] w fun e w' => e = .returned (.bool true) ∧ Below w.heap.size w w' := by
  have hor := or_bits hh hh2
  obtain ⟨x, hx⟩ : ∃ x, orN h h2 = x := ⟨_, rfl⟩
  have hxu : U16 x := by rw [← hx]; exact or_u16 hh hh2
  obtain ⟨y, hy⟩ : ∃ y, withN h m = y := ⟨_, rfl⟩
  have hyu : U16 y := by rw [← hy]; exact with_u16 hh hm.1
  obtain ⟨p1, hp1⟩ : ∃ p, goB c x m = p := ⟨_, rfl⟩
  obtain ⟨p2, hp2⟩ : ∃ p, goB c h m = p := ⟨_, rfl⟩
  obtain ⟨p3, hp3⟩ : ∃ p, covB c h m = p := ⟨_, rfl⟩
  obtain ⟨p4, hp4⟩ : ∃ p, covB c x m = p := ⟨_, rfl⟩
  have HG : Hid (p1 = true → p2 = true) := Lib.hid (fun H => by rw [← hp2]; rw [← hp1, ← hx] at H; exact go_more H)
  have HC : Hid (p3 = true → p4 = true) := Lib.hid (fun H => by rw [← hp4, ← hx]; rw [← hp3] at H; exact cov_more H)
  have HP1 := Lib.hid fun w => go_is c x m hm hxu w p1 hp1
  have HP2 := Lib.hid fun w => go_is c h m hm hh w p2 hp2
  have HP3 := Lib.hid fun w => covers_is c h m hm hh w p3 hp3
  have HP4 := Lib.hid fun w => covers_is c x m hm hxu w p4 hp4
  have HWA := Lib.hid fun w => with_is h m hm hh w y hy
  have HWB := Lib.hid fun w => with_is y m hm hyu w y (by rw [← hy]; exact with_twice hh hm)
  have hk : bits .and .u16 y h = h := by rw [← hy]; exact with_keeps hh hm
  have hm0 := hm.1
  have HSH : Hid (m ≤ 15 → bits .and .u16 (y / 2 ^ m.toNat) 1 = 1) := Lib.hid (fun h15 => by
    have e0 : min m.toNat 16 = m.toNat := by omega
    rw [← e0, shr_bit hyu hm (by omega), ← hy, with_has hh.1 hm.1, if_pos]
    have e1 : m < 16 := by omega
    have e2 : m = ((m.toNat : Nat) : Int) := by omega
    rw [Bool.or_eq_true]
    exact .inr (by rw [Bool.and_eq_true]; exact ⟨by simp [e1], decide_eq_true e2⟩))
  rw [hx] at hor
  clear hx hxu hy hyu hp1 hp2 hp3 hp4 hh hh2 hm
  have HB0 : Hid (Below w.heap.size w w) := Lib.hid (Below.refl _ _)
  go_enter Try.func6, Try.ntmps6
  have hcon := works_is w
  go_wp2_with fail
  refine (show Calls Try.prog _ _ _ _ from hcon).mono ?_
  rintro e w1 ⟨rfl, hb1⟩
  have HB1 : Hid (Below w.heap.size w w1) := Lib.hid (below_tr HB0.out hb1)
  clear hcon hb1 HB0
  cases p1 with
  | false =>
    cases p3 with
    | false =>
      have hcon := HP1.out w1
      go_wp2_with fail
      refine (show Calls Try.prog _ _ _ _ from hcon).mono ?_
      rintro e w2 ⟨rfl, hb2⟩
      have HB2 : Hid (Below w.heap.size w w2) := Lib.hid (below_tr HB1.out hb2)
      clear hcon hb2 HB1
      have hcon := HP3.out w2
      go_wp2_with fail
      refine (show Calls Try.prog _ _ _ _ from hcon).mono ?_
      rintro e w3 ⟨rfl, hb3⟩
      have HB3 : Hid (Below w.heap.size w w3) := Lib.hid (below_tr HB2.out hb3)
      clear hcon hb3 HB2
      have hcon := HWA.out w3
      go_wp2_with fail
      refine (show Calls Try.prog _ _ _ _ from hcon).mono ?_
      rintro e w4 ⟨rfl, hb4⟩
      have HB4 : Hid (Below w.heap.size w w4) := Lib.hid (below_tr HB3.out hb4)
      clear hcon hb4 HB3
      by_cases h15 : m > 15
      · have hz15 : ¬ m ≤ 15 := by omega
        have hcon := HWB.out w4
        go_wp2_with fail
        refine (show Calls Try.prog _ _ _ _ from hcon).mono ?_
        rintro e w5 ⟨rfl, hb5⟩
        have HB5 : Hid (Below w.heap.size w w5) := Lib.hid (below_tr HB4.out hb5)
        clear hcon hb5 HB4
        go_wp2_with fail
        go_ret
        exact ⟨rfl, HB5.out⟩
      · have hle : m ≤ 15 := by omega
        have hsh := HSH.out hle
        have hcon := HWB.out w4
        go_wp2_with fail
        refine (show Calls Try.prog _ _ _ _ from hcon).mono ?_
        rintro e w5 ⟨rfl, hb5⟩
        have HB5 : Hid (Below w.heap.size w w5) := Lib.hid (below_tr HB4.out hb5)
        clear hcon hb5 HB4
        go_wp2_with fail
        go_ret
        exact ⟨rfl, HB5.out⟩
    | true =>
      have e4 := HC.out rfl
      subst e4
      have hcon := HP1.out w1
      go_wp2_with fail
      refine (show Calls Try.prog _ _ _ _ from hcon).mono ?_
      rintro e w2 ⟨rfl, hb2⟩
      have HB2 : Hid (Below w.heap.size w w2) := Lib.hid (below_tr HB1.out hb2)
      clear hcon hb2 HB1
      have hcon := HP3.out w2
      go_wp2_with fail
      refine (show Calls Try.prog _ _ _ _ from hcon).mono ?_
      rintro e w3 ⟨rfl, hb3⟩
      have HB3 : Hid (Below w.heap.size w w3) := Lib.hid (below_tr HB2.out hb3)
      clear hcon hb3 HB2
      have hcon := HP4.out w3
      go_wp2_with fail
      refine (show Calls Try.prog _ _ _ _ from hcon).mono ?_
      rintro e w4 ⟨rfl, hb4⟩
      have HB4 : Hid (Below w.heap.size w w4) := Lib.hid (below_tr HB3.out hb4)
      clear hcon hb4 HB3
      have hcon := HWA.out w4
      go_wp2_with fail
      refine (show Calls Try.prog _ _ _ _ from hcon).mono ?_
      rintro e w5 ⟨rfl, hb5⟩
      have HB5 : Hid (Below w.heap.size w w5) := Lib.hid (below_tr HB4.out hb5)
      clear hcon hb5 HB4
      by_cases h15 : m > 15
      · have hz15 : ¬ m ≤ 15 := by omega
        have hcon := HWB.out w5
        go_wp2_with fail
        refine (show Calls Try.prog _ _ _ _ from hcon).mono ?_
        rintro e w6 ⟨rfl, hb6⟩
        have HB6 : Hid (Below w.heap.size w w6) := Lib.hid (below_tr HB5.out hb6)
        clear hcon hb6 HB5
        go_wp2_with fail
        go_ret
        exact ⟨rfl, HB6.out⟩
      · have hle : m ≤ 15 := by omega
        have hsh := HSH.out hle
        have hcon := HWB.out w5
        go_wp2_with fail
        refine (show Calls Try.prog _ _ _ _ from hcon).mono ?_
        rintro e w6 ⟨rfl, hb6⟩
        have HB6 : Hid (Below w.heap.size w w6) := Lib.hid (below_tr HB5.out hb6)
        clear hcon hb6 HB5
        go_wp2_with fail
        go_ret
        exact ⟨rfl, HB6.out⟩
  | true =>
    have e2 := HG.out rfl
    subst e2
    cases p3 with
    | false =>
      have hcon := HP1.out w1
      go_wp2_with fail
      refine (show Calls Try.prog _ _ _ _ from hcon).mono ?_
      rintro e w2 ⟨rfl, hb2⟩
      have HB2 : Hid (Below w.heap.size w w2) := Lib.hid (below_tr HB1.out hb2)
      clear hcon hb2 HB1
      have hcon := HP2.out w2
      go_wp2_with fail
      refine (show Calls Try.prog _ _ _ _ from hcon).mono ?_
      rintro e w3 ⟨rfl, hb3⟩
      have HB3 : Hid (Below w.heap.size w w3) := Lib.hid (below_tr HB2.out hb3)
      clear hcon hb3 HB2
      have hcon := HP3.out w3
      go_wp2_with fail
      refine (show Calls Try.prog _ _ _ _ from hcon).mono ?_
      rintro e w4 ⟨rfl, hb4⟩
      have HB4 : Hid (Below w.heap.size w w4) := Lib.hid (below_tr HB3.out hb4)
      clear hcon hb4 HB3
      have hcon := HWA.out w4
      go_wp2_with fail
      refine (show Calls Try.prog _ _ _ _ from hcon).mono ?_
      rintro e w5 ⟨rfl, hb5⟩
      have HB5 : Hid (Below w.heap.size w w5) := Lib.hid (below_tr HB4.out hb5)
      clear hcon hb5 HB4
      by_cases h15 : m > 15
      · have hz15 : ¬ m ≤ 15 := by omega
        have hcon := HWB.out w5
        go_wp2_with fail
        refine (show Calls Try.prog _ _ _ _ from hcon).mono ?_
        rintro e w6 ⟨rfl, hb6⟩
        have HB6 : Hid (Below w.heap.size w w6) := Lib.hid (below_tr HB5.out hb6)
        clear hcon hb6 HB5
        go_wp2_with fail
        go_ret
        exact ⟨rfl, HB6.out⟩
      · have hle : m ≤ 15 := by omega
        have hsh := HSH.out hle
        have hcon := HWB.out w5
        go_wp2_with fail
        refine (show Calls Try.prog _ _ _ _ from hcon).mono ?_
        rintro e w6 ⟨rfl, hb6⟩
        have HB6 : Hid (Below w.heap.size w w6) := Lib.hid (below_tr HB5.out hb6)
        clear hcon hb6 HB5
        go_wp2_with fail
        go_ret
        exact ⟨rfl, HB6.out⟩
    | true =>
      have e4 := HC.out rfl
      subst e4
      have hcon := HP1.out w1
      go_wp2_with fail
      refine (show Calls Try.prog _ _ _ _ from hcon).mono ?_
      rintro e w2 ⟨rfl, hb2⟩
      have HB2 : Hid (Below w.heap.size w w2) := Lib.hid (below_tr HB1.out hb2)
      clear hcon hb2 HB1
      have hcon := HP2.out w2
      go_wp2_with fail
      refine (show Calls Try.prog _ _ _ _ from hcon).mono ?_
      rintro e w3 ⟨rfl, hb3⟩
      have HB3 : Hid (Below w.heap.size w w3) := Lib.hid (below_tr HB2.out hb3)
      clear hcon hb3 HB2
      have hcon := HP3.out w3
      go_wp2_with fail
      refine (show Calls Try.prog _ _ _ _ from hcon).mono ?_
      rintro e w4 ⟨rfl, hb4⟩
      have HB4 : Hid (Below w.heap.size w w4) := Lib.hid (below_tr HB3.out hb4)
      clear hcon hb4 HB3
      have hcon := HP4.out w4
      go_wp2_with fail
      refine (show Calls Try.prog _ _ _ _ from hcon).mono ?_
      rintro e w5 ⟨rfl, hb5⟩
      have HB5 : Hid (Below w.heap.size w w5) := Lib.hid (below_tr HB4.out hb5)
      clear hcon hb5 HB4
      have hcon := HWA.out w5
      go_wp2_with fail
      refine (show Calls Try.prog _ _ _ _ from hcon).mono ?_
      rintro e w6 ⟨rfl, hb6⟩
      have HB6 : Hid (Below w.heap.size w w6) := Lib.hid (below_tr HB5.out hb6)
      clear hcon hb6 HB5
      by_cases h15 : m > 15
      · have hz15 : ¬ m ≤ 15 := by omega
        have hcon := HWB.out w6
        go_wp2_with fail
        refine (show Calls Try.prog _ _ _ _ from hcon).mono ?_
        rintro e w7 ⟨rfl, hb7⟩
        have HB7 : Hid (Below w.heap.size w w7) := Lib.hid (below_tr HB6.out hb7)
        clear hcon hb7 HB6
        go_wp2_with fail
        go_ret
        exact ⟨rfl, HB7.out⟩
      · have hle : m ≤ 15 := by omega
        have hsh := HSH.out hle
        have hcon := HWB.out w6
        go_wp2_with fail
        refine (show Calls Try.prog _ _ _ _ from hcon).mono ?_
        rintro e w7 ⟨rfl, hb7⟩
        have HB7 : Hid (Below w.heap.size w w7) := Lib.hid (below_tr HB6.out hb7)
        clear hcon hb7 HB6
        go_wp2_with fail
        go_ret
        exact ⟨rfl, HB7.out⟩

end Go.Proofs.Ytdncoegdgoacnaa
