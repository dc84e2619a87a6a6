/-
  ModesEnds, walked (stage 13).
-/
import Derived.Test.YtdncoegdgoacnaaOMath
namespace Go.Proofs.Ytdncoegdgoacnaa
open Go.RowKit
set_option linter.unusedVariables false

/-- Is one of the modes from 1 on, below a number, held? -/
def someB (h : Int) : Nat → Bool
  | 0 => false
  | j + 1 => someB h j || (decide (1 ≤ j) && hasB h j)
theorem some_iff (h : Int) : ∀ n, someB h n = true ↔ ∃ k, 1 ≤ k ∧ k < n ∧ hasB h k = true
  | 0 => ⟨fun H => (by cases H), fun ⟨k, _, hk, _⟩ => by omega⟩
  | n + 1 => by
    rw [someB, Bool.or_eq_true, Bool.and_eq_true, some_iff h n, decide_eq_true_eq]
    constructor
    · rintro (⟨k, h1, h2, h3⟩ | ⟨h1, h2⟩)
      · exact ⟨k, h1, by omega, h3⟩
      · exact ⟨n, h1, by omega, h2⟩
    · rintro ⟨k, h1, h2, h3⟩
      by_cases hk : k = n
      · subst hk; exact .inr ⟨h1, h3⟩
      · exact .inl ⟨k, h1, by omega, h3⟩

theorem zero_has (k : Nat) : hasB 0 k = false := by unfold hasB; exact Nat.zero_testBit _
theorem go_zero {c : Int} {x : Nat} (hm : mayB c (x : Int) = true) : goB c 0 (x : Int) = true :=
  goB_iff.2 ⟨hm, fun k hk => by rw [zero_has] at hk; cases hk⟩
theorem cov_zero {c : Int} {x : Nat} (hm : mayB c (x : Int) = true) : covB c 0 (x : Int) = false := by
  cases hc : covB c 0 (x : Int) with
  | false => rfl
  | true =>
    obtain ⟨k, _, h2, _⟩ := (covB_iff.1 hc).2 _ (opp_last hm)
    rw [zero_has] at h2
    cases h2
theorem last_u8 (c : Int) : U8 (lastM c : Int) ∧ lastM c < 9 := by
  unfold lastM U8
  split <;> constructor <;> omega
theorem go_strong {c : Int} {x : Nat} (hm : mayB c (x : Int) = true) : goB c (setN [(lastM c : Int)]) (x : Int) = false := by
  have := (last_u8 c).2
  rw [go_single (by omega) hm, opp_last hm]; rfl
theorem cov_strong {c : Int} {x : Nat} (hm : mayB c (x : Int) = true) : covB c (setN [(lastM c : Int)]) (x : Int) = true := by
  have hl := last_u8 c
  refine covB_iff.2 ⟨hm, fun j hj => ⟨lastM c, hl.2, by rw [single_has hl.1 (by omega)]; simp, ?_⟩⟩
  have hj' := opp_may hm hj
  rw [opp_sym (last_may hm) hj']
  exact opp_last hj'
theorem lastm1 : ∀ k : Nat, k < 9 → oppB 1 8 k = decide (1 ≤ k ∧ k ≤ 8) := by decide +kernel
theorem lastm2 : ∀ k : Nat, k < 9 → oppB 2 2 k = decide (1 ≤ k ∧ k ≤ 2) := by decide +kernel
theorem last_opp {c : Int} (hc : c = 1 ∨ c = 2) {k : Nat} : oppB c (lastM c : Int) k = true ↔ 1 ≤ k ∧ k < lastM c + 1 := by
  by_cases h9 : k < 9
  · rcases hc with rfl | rfl
    · rw [show ((lastM 1 : Nat) : Int) = 8 from rfl, lastm1 k h9, decide_eq_true_eq, show lastM 1 = 8 from rfl]; omega
    · rw [show ((lastM 2 : Nat) : Int) = 2 from rfl, lastm2 k h9, decide_eq_true_eq, show lastM 2 = 2 from rfl]; omega
  · have hl := (last_u8 c).2
    rw [inc_out (by omega)]
    exact ⟨fun h => (by cases h), fun h => by omega⟩
theorem first1 : ∀ j : Nat, j < 9 → oppB 1 1 j = decide (j = 8) := by decide +kernel
theorem first2 : ∀ j : Nat, j < 9 → oppB 2 1 j = decide (j = 2) := by decide +kernel
theorem first_opp {c : Int} (hc : c = 1 ∨ c = 2) {j : Nat} : oppB c 1 j = true ↔ j = lastM c := by
  by_cases h9 : j < 9
  · rcases hc with rfl | rfl
    · rw [first1 j h9, decide_eq_true_eq]; rfl
    · rw [first2 j h9, decide_eq_true_eq]; rfl
  · have hl := (last_u8 c).2
    rw [inc_out (by omega)]
    exact ⟨fun h => (by cases h), fun h => by omega⟩
theorem go_last {c h : Int} (hc : c = 1 ∨ c = 2) : goB c h (lastM c : Int) = !someB h (lastM c + 1) := by
  have hm : mayB c (lastM c : Int) = true := by rcases hc with rfl | rfl <;> decide
  cases hs : someB h (lastM c + 1) with
  | false =>
    refine goB_iff.2 ⟨hm, fun k hk ho => ?_⟩
    have h2 := (last_opp hc).1 ho
    rw [(some_iff h _).2 ⟨k, h2.1, h2.2, hk⟩] at hs
    cases hs
  | true =>
    obtain ⟨k, h1, h2, h3⟩ := (some_iff h _).1 hs
    cases hg : goB c h (lastM c : Int) with
    | false => rfl
    | true => exact ((goB_iff.1 hg).2 k h3 ((last_opp hc).2 ⟨h1, h2⟩)).elim
theorem cov_first {c h : Int} (hc : c = 1 ∨ c = 2) : covB c h 1 = someB h (lastM c + 1) := by
  have hm : mayB c 1 = true := by rcases hc with rfl | rfl <;> decide
  have hl := last_u8 c
  have hml : mayB c (lastM c : Int) = true := last_may hm
  cases hs : someB h (lastM c + 1) with
  | true =>
    obtain ⟨k, h1, h2, h3⟩ := (some_iff h _).1 hs
    refine covB_iff.2 ⟨hm, fun j hj => ⟨k, by omega, h3, ?_⟩⟩
    rw [(first_opp hc).1 hj]
    have ho := (last_opp hc).2 ⟨h1, h2⟩
    rw [← opp_sym hml (opp_may hml ho)]
    exact ho
  | false =>
    cases hcv : covB c h 1 with
    | false => rfl
    | true =>
      obtain ⟨k, h1, h2, h3⟩ := (covB_iff.1 hcv).2 _ ((first_opp hc).2 rfl)
      have hk : mayB c (k : Int) = true := by
        cases hkk : mayB c (k : Int) with
        | true => rfl
        | false =>
          have e := inc_ne c (k : Int) (by omega) (by omega)
          rw [hkk] at e
          have e0 : inc c (k : Int) = 0 := by simpa using e
          unfold oppB at h3
          rw [e0, Nat.zero_testBit] at h3
          cases h3
      rw [opp_sym hk hml] at h3
      have h4 := (last_opp hc).1 h3
      rw [(some_iff h _).2 ⟨k, h4.1, h4.2, h2⟩] at hs
      cases hs

set_option maxRecDepth 100000 in
set_option maxHeartbeats 4000000 in
theorem ends1 (m h : Int) (hm : U8 m) (hh : U16 h) (hmay : mayB 1 m = true) (w : World) :
    Calls Try.prog 8 #[.int .u8 1, .int .u8 m, .int .u16 h] w fun e w' => e = .returned (.bool true) ∧ Below w.heap.size w w' := by
  obtain ⟨x, rfl, hx9⟩ := may_nat hmay
  have HM := Lib.hid fun w => may_is 1 x hm w true hmay
  have hl : lastM 1 = 8 := rfl
  have u0 : U8 (8 : Int) := by unfold U8; omega
  obtain ⟨sl, hsl⟩ : ∃ s, setN [(8 : Int)] = s := ⟨_, rfl⟩
  have hslu : U16 sl := by rw [← hsl]; exact single_u16 u0
  have HSL := Lib.hid fun w => set1_is 8 w u0 sl hsl
  have HG0 := Lib.hid fun w => go_is 1 0 x hm u16_0 w true (go_zero hmay)
  have HC0 := Lib.hid fun w => covers_is 1 0 x hm u16_0 w false (cov_zero hmay)
  have HGS := Lib.hid fun w => go_is 1 sl x hm hslu w false (by rw [← hsl]; exact go_strong hmay)
  have HCS := Lib.hid fun w => covers_is 1 sl x hm hslu w true (by rw [← hsl]; exact cov_strong hmay)
  have HU := Lib.hid hh
  have HX := Lib.hid hl
  clear hsl hslu hh hmay hm hl
  have HB0 : Hid (Below w.heap.size w w) := Lib.hid (Below.refl _ _)
  go_enter Try.func8, Try.ntmps8
  have hcon := works_is w
  go_wp2_with fail
  refine (show Calls Try.prog _ _ _ _ from hcon).mono ?_
  rintro e w1 ⟨rfl, hb1⟩
  have HB1 : Hid (Below w.heap.size w w1) := Lib.hid (below_tr HB0.out hb1)
  clear hcon hb1 HB0
  have hcon := HM.out w1
  go_wp2_with fail
  refine (show Calls Try.prog _ _ _ _ from hcon).mono ?_
  rintro e w2 ⟨rfl, hb2⟩
  have HB2 : Hid (Below w.heap.size w w2) := Lib.hid (below_tr HB1.out hb2)
  clear hcon hb2 HB1
  go_wp2_with fail
  go_loopg [8, 9, 21, 22, 23, 24, 25, 26, 27, 28, 29, 30, 31, 32, 33] 9 (fun gg s8 s9 s21 s22 s23 s24 s25 s26 s27 s28 s29 s30 s31 s32 s33 wr => ∃ j : Nat, s9 = .int .u8 j ∧ s8 = .bool (someB h j) ∧ 1 ≤ j ∧ j ≤ 9 ∧ 9 - j ≤ gg ∧ Hid (Below w.heap.size w wr))
  case atStart => exact ⟨1, rfl, rfl, by omega, by omega, by omega, HB2⟩
  case round =>
    obtain ⟨j, rfl, rfl, hj1, hj, hgg, BW⟩ := hrel
    by_cases h9 : j ≤ 8
    · have hlt : (j : Int) ≤ 8 := by omega
      have hq := shr_nat HU.out j (by omega)
      obtain ⟨q, hqq⟩ : ∃ q, hasB h j = q := ⟨_, rfl⟩
      obtain ⟨e, he⟩ : ∃ e, someB h j = e := ⟨_, rfl⟩
      have hk : someB h (j + 1) = (e || q) := by rw [← hqq, ← he, someB, decide_eq_true hj1]; rfl
      have HK := Lib.hid hk
      rw [hqq] at hq
      rw [he]
      clear hqq he hk
      cases e with
      | false =>
        cases q with
        | false =>
          go_wp2_with fail
          go_roundg (9 - (j + 1))
          case measure => omega
          case rel => exact ⟨j + 1, by go_num, by rw [HK.out]; rfl, by omega, by omega, Nat.le_refl _, BW⟩
        | true =>
          go_wp2_with fail
          go_roundg (9 - (j + 1))
          case measure => omega
          case rel => exact ⟨j + 1, by go_num, by rw [HK.out]; rfl, by omega, by omega, Nat.le_refl _, BW⟩
      | true =>
        go_wp2_with fail
        go_roundg (9 - (j + 1))
        case measure => omega
        case rel => exact ⟨j + 1, by go_num, by rw [HK.out]; rfl, by omega, by omega, Nat.le_refl _, BW⟩
    · have hlt : ¬ (j : Int) ≤ 8 := by omega
      have hj9 : j = 9 := by omega
      subst hj9
      clear hlt
      have G3 := HX.out
      obtain ⟨s, hs⟩ : ∃ s, someB h 9 = s := ⟨_, rfl⟩
      rw [hs]
      have HC1 := Lib.hid fun w => covers_is 1 h 1 (by unfold U8; omega) HU.out w s (by rw [← hs]; exact cov_first (c := 1) (by decide))
      have HGL := Lib.hid fun w => go_is 1 h 8 (by unfold U8; omega) HU.out w (!s) (by rw [← hs]; exact go_last (c := 1) (by decide))
      clear G3 hs
      have hcon := HG0.out wr
      go_wp2_with fail
      refine (show Calls Try.prog _ _ _ _ from hcon).mono ?_
      rintro e w3 ⟨rfl, hb3⟩
      have HB3 : Hid (Below w.heap.size w w3) := Lib.hid (below_tr BW.out hb3)
      clear hcon hb3 BW
      have hcon := HC0.out w3
      go_wp2_with fail
      refine (show Calls Try.prog _ _ _ _ from hcon).mono ?_
      rintro e w4 ⟨rfl, hb4⟩
      have HB4 : Hid (Below w.heap.size w w4) := Lib.hid (below_tr HB3.out hb4)
      clear hcon hb4 HB3
      have hcon := HSL.out w4
      go_wp2_with fail
      refine (show Calls Try.prog _ _ _ _ from hcon).mono ?_
      rintro e w5 ⟨rfl, hb5⟩
      have HB5 : Hid (Below w.heap.size w w5) := Lib.hid (below_tr HB4.out hb5)
      clear hcon hb5 HB4
      have hcon := HGS.out w5
      go_wp2_with fail
      refine (show Calls Try.prog _ _ _ _ from hcon).mono ?_
      rintro e w6 ⟨rfl, hb6⟩
      have HB6 : Hid (Below w.heap.size w w6) := Lib.hid (below_tr HB5.out hb6)
      clear hcon hb6 HB5
      have hcon := HSL.out w6
      go_wp2_with fail
      refine (show Calls Try.prog _ _ _ _ from hcon).mono ?_
      rintro e w7 ⟨rfl, hb7⟩
      have HB7 : Hid (Below w.heap.size w w7) := Lib.hid (below_tr HB6.out hb7)
      clear hcon hb7 HB6
      have hcon := HCS.out w7
      go_wp2_with fail
      refine (show Calls Try.prog _ _ _ _ from hcon).mono ?_
      rintro e w8 ⟨rfl, hb8⟩
      have HB8 : Hid (Below w.heap.size w w8) := Lib.hid (below_tr HB7.out hb8)
      clear hcon hb8 HB7
      have hcon := HC1.out w8
      go_wp2_with fail
      refine (show Calls Try.prog _ _ _ _ from hcon).mono ?_
      rintro e w9 ⟨rfl, hb9⟩
      have HB9 : Hid (Below w.heap.size w w9) := Lib.hid (below_tr HB8.out hb9)
      clear hcon hb9 HB8
      have hcon := HGL.out w9
      go_wp2_with fail
      refine (show Calls Try.prog _ _ _ _ from hcon).mono ?_
      rintro e w10 ⟨rfl, hb10⟩
      have HB10 : Hid (Below w.heap.size w w10) := Lib.hid (below_tr HB9.out hb10)
      clear hcon hb10 HB9
      go_wp2_with fail
      go_ret
      exact ⟨by simp, HB10.out⟩

set_option maxRecDepth 100000 in
set_option maxHeartbeats 4000000 in
theorem ends2 (m h : Int) (hm : U8 m) (hh : U16 h) (hmay : mayB 2 m = true) (w : World) :
    Calls Try.prog 8 #[.int .u8 2, .int .u8 m, .int .u16 h] w fun e w' => e = .returned (.bool true) ∧ Below w.heap.size w w' := by
  obtain ⟨x, rfl, hx9⟩ := may_nat hmay
  have HM := Lib.hid fun w => may_is 2 x hm w true hmay
  have hl : lastM 2 = 2 := rfl
  have u0 : U8 (2 : Int) := by unfold U8; omega
  obtain ⟨sl, hsl⟩ : ∃ s, setN [(2 : Int)] = s := ⟨_, rfl⟩
  have hslu : U16 sl := by rw [← hsl]; exact single_u16 u0
  have HSL := Lib.hid fun w => set1_is 2 w u0 sl hsl
  have HG0 := Lib.hid fun w => go_is 2 0 x hm u16_0 w true (go_zero hmay)
  have HC0 := Lib.hid fun w => covers_is 2 0 x hm u16_0 w false (cov_zero hmay)
  have HGS := Lib.hid fun w => go_is 2 sl x hm hslu w false (by rw [← hsl]; exact go_strong hmay)
  have HCS := Lib.hid fun w => covers_is 2 sl x hm hslu w true (by rw [← hsl]; exact cov_strong hmay)
  have HU := Lib.hid hh
  have HX := Lib.hid hl
  clear hsl hslu hh hmay hm hl
  have HB0 : Hid (Below w.heap.size w w) := Lib.hid (Below.refl _ _)
  go_enter Try.func8, Try.ntmps8
  have hcon := works_is w
  go_wp2_with fail
  refine (show Calls Try.prog _ _ _ _ from hcon).mono ?_
  rintro e w1 ⟨rfl, hb1⟩
  have HB1 : Hid (Below w.heap.size w w1) := Lib.hid (below_tr HB0.out hb1)
  clear hcon hb1 HB0
  have hcon := HM.out w1
  go_wp2_with fail
  refine (show Calls Try.prog _ _ _ _ from hcon).mono ?_
  rintro e w2 ⟨rfl, hb2⟩
  have HB2 : Hid (Below w.heap.size w w2) := Lib.hid (below_tr HB1.out hb2)
  clear hcon hb2 HB1
  go_wp2_with fail
  go_loopg [8, 9, 21, 22, 23, 24, 25, 26, 27, 28, 29, 30, 31, 32, 33] 3 (fun gg s8 s9 s21 s22 s23 s24 s25 s26 s27 s28 s29 s30 s31 s32 s33 wr => ∃ j : Nat, s9 = .int .u8 j ∧ s8 = .bool (someB h j) ∧ 1 ≤ j ∧ j ≤ 3 ∧ 3 - j ≤ gg ∧ Hid (Below w.heap.size w wr))
  case atStart => exact ⟨1, rfl, rfl, by omega, by omega, by omega, HB2⟩
  case round =>
    obtain ⟨j, rfl, rfl, hj1, hj, hgg, BW⟩ := hrel
    by_cases h9 : j ≤ 2
    · have hlt : (j : Int) ≤ 2 := by omega
      have hq := shr_nat HU.out j (by omega)
      obtain ⟨q, hqq⟩ : ∃ q, hasB h j = q := ⟨_, rfl⟩
      obtain ⟨e, he⟩ : ∃ e, someB h j = e := ⟨_, rfl⟩
      have hk : someB h (j + 1) = (e || q) := by rw [← hqq, ← he, someB, decide_eq_true hj1]; rfl
      have HK := Lib.hid hk
      rw [hqq] at hq
      rw [he]
      clear hqq he hk
      cases e with
      | false =>
        cases q with
        | false =>
          go_wp2_with fail
          go_roundg (3 - (j + 1))
          case measure => omega
          case rel => exact ⟨j + 1, by go_num, by rw [HK.out]; rfl, by omega, by omega, Nat.le_refl _, BW⟩
        | true =>
          go_wp2_with fail
          go_roundg (3 - (j + 1))
          case measure => omega
          case rel => exact ⟨j + 1, by go_num, by rw [HK.out]; rfl, by omega, by omega, Nat.le_refl _, BW⟩
      | true =>
        go_wp2_with fail
        go_roundg (3 - (j + 1))
        case measure => omega
        case rel => exact ⟨j + 1, by go_num, by rw [HK.out]; rfl, by omega, by omega, Nat.le_refl _, BW⟩
    · have hlt : ¬ (j : Int) ≤ 2 := by omega
      have hj9 : j = 3 := by omega
      subst hj9
      clear hlt
      have G3 := HX.out
      obtain ⟨s, hs⟩ : ∃ s, someB h 3 = s := ⟨_, rfl⟩
      rw [hs]
      have HC1 := Lib.hid fun w => covers_is 2 h 1 (by unfold U8; omega) HU.out w s (by rw [← hs]; exact cov_first (c := 2) (by decide))
      have HGL := Lib.hid fun w => go_is 2 h 2 (by unfold U8; omega) HU.out w (!s) (by rw [← hs]; exact go_last (c := 2) (by decide))
      clear G3 hs
      have hcon := HG0.out wr
      go_wp2_with fail
      refine (show Calls Try.prog _ _ _ _ from hcon).mono ?_
      rintro e w3 ⟨rfl, hb3⟩
      have HB3 : Hid (Below w.heap.size w w3) := Lib.hid (below_tr BW.out hb3)
      clear hcon hb3 BW
      have hcon := HC0.out w3
      go_wp2_with fail
      refine (show Calls Try.prog _ _ _ _ from hcon).mono ?_
      rintro e w4 ⟨rfl, hb4⟩
      have HB4 : Hid (Below w.heap.size w w4) := Lib.hid (below_tr HB3.out hb4)
      clear hcon hb4 HB3
      have hcon := HSL.out w4
      go_wp2_with fail
      refine (show Calls Try.prog _ _ _ _ from hcon).mono ?_
      rintro e w5 ⟨rfl, hb5⟩
      have HB5 : Hid (Below w.heap.size w w5) := Lib.hid (below_tr HB4.out hb5)
      clear hcon hb5 HB4
      have hcon := HGS.out w5
      go_wp2_with fail
      refine (show Calls Try.prog _ _ _ _ from hcon).mono ?_
      rintro e w6 ⟨rfl, hb6⟩
      have HB6 : Hid (Below w.heap.size w w6) := Lib.hid (below_tr HB5.out hb6)
      clear hcon hb6 HB5
      have hcon := HSL.out w6
      go_wp2_with fail
      refine (show Calls Try.prog _ _ _ _ from hcon).mono ?_
      rintro e w7 ⟨rfl, hb7⟩
      have HB7 : Hid (Below w.heap.size w w7) := Lib.hid (below_tr HB6.out hb7)
      clear hcon hb7 HB6
      have hcon := HCS.out w7
      go_wp2_with fail
      refine (show Calls Try.prog _ _ _ _ from hcon).mono ?_
      rintro e w8 ⟨rfl, hb8⟩
      have HB8 : Hid (Below w.heap.size w w8) := Lib.hid (below_tr HB7.out hb8)
      clear hcon hb8 HB7
      have hcon := HC1.out w8
      go_wp2_with fail
      refine (show Calls Try.prog _ _ _ _ from hcon).mono ?_
      rintro e w9 ⟨rfl, hb9⟩
      have HB9 : Hid (Below w.heap.size w w9) := Lib.hid (below_tr HB8.out hb9)
      clear hcon hb9 HB8
      have hcon := HGL.out w9
      go_wp2_with fail
      refine (show Calls Try.prog _ _ _ _ from hcon).mono ?_
      rintro e w10 ⟨rfl, hb10⟩
      have HB10 : Hid (Below w.heap.size w w10) := Lib.hid (below_tr HB9.out hb10)
      clear hcon hb10 HB9
      go_wp2_with fail
      go_ret
      exact ⟨by simp, HB10.out⟩

set_option maxRecDepth 100000 in
set_option maxHeartbeats 4000000 in
theorem ends_law (c m h : Int) (hm : U8 m) (hh : U16 h) (w : World) :
    Calls Try.prog 8 #[.int .u8 c, .int .u8 m, .int .u16 h] w fun e w' => e = .returned (.bool true) ∧ Below w.heap.size w w' := by
  obtain ⟨p, hp⟩ : ∃ p, mayB c m = p := ⟨_, rfl⟩
  cases p with
  | false =>
    have HM := Lib.hid fun w => may_is c m hm w false hp
    clear hp
    have HB0 : Hid (Below w.heap.size w w) := Lib.hid (Below.refl _ _)
    go_enter Try.func8, Try.ntmps8
    have hcon := works_is w
    go_wp2_with fail
    refine (show Calls Try.prog _ _ _ _ from hcon).mono ?_
    rintro e w1 ⟨rfl, hb1⟩
    have HB1 : Hid (Below w.heap.size w w1) := Lib.hid (below_tr HB0.out hb1)
    clear hcon hb1 HB0
    have hcon := HM.out w1
    go_wp2_with fail
    refine (show Calls Try.prog _ _ _ _ from hcon).mono ?_
    rintro e w2 ⟨rfl, hb2⟩
    have HB2 : Hid (Below w.heap.size w w2) := Lib.hid (below_tr HB1.out hb2)
    clear hcon hb2 HB1
    have hcon := works_is w2
    go_wp2_with fail
    refine (show Calls Try.prog _ _ _ _ from hcon).mono ?_
    rintro e w3 ⟨rfl, hb3⟩
    have HB3 : Hid (Below w.heap.size w w3) := Lib.hid (below_tr HB2.out hb3)
    clear hcon hb3 HB2
    go_wp2_with fail
    go_ret
    exact ⟨rfl, HB3.out⟩
  | true =>
    rcases may_class hp with rfl | rfl
    · exact ends1 m h hm hh hp w
    · exact ends2 m h hm hh hp w
end Go.Proofs.Ytdncoegdgoacnaa
