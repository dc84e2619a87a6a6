/-
  ModesCovered, walked (stage 13).
-/
import Derived.Test.YtdncoegdgoacnaaOMath
namespace Go.Proofs.Ytdncoegdgoacnaa
open Go.RowKit
set_option linter.unusedVariables false

theorem held_covered {c h : Int} {x : Nat} (hm : mayB c (x : Int) = true) (hx : hasB h x = true) : covB c h (x : Int) = true := by
  have h8 := may_8 hm
  exact covB_iff.2 ⟨hm, fun j hj => ⟨x, by omega, hx, hj⟩⟩
theorem covered_covered {c h : Int} {x y : Nat} (hx : x < 9) (h1 : covB c h (x : Int) = true) (h2 : covB c (setN [(x : Int)]) (y : Int) = true) : covB c h (y : Int) = true :=
  covB_iff.2 ⟨(covB_iff.1 h2).1, fun j hj => (covB_iff.1 h1).2 j (cov_single hx h2 j hj)⟩
theorem covered_bars {c h : Int} {x y : Nat} (hx : x < 9) (hm : mayB c (x : Int) = true) (hy : mayB c (y : Int) = true) (h1 : covB c h (x : Int) = true) (h2 : goB c (setN [(x : Int)]) (y : Int) = false) : goB c h (y : Int) = false := by
  rw [go_single (by omega) hy] at h2
  have ho : oppB c (y : Int) x = true := by
    cases hh : oppB c (y : Int) x with
    | true => rfl
    | false => rw [hh] at h2; cases h2
  rw [opp_sym hy hm] at ho
  obtain ⟨k, h3, h4, h5⟩ := (covB_iff.1 h1).2 y ho
  have hk : mayB c (k : Int) = true := by
    cases hkk : mayB c (k : Int) with
    | true => rfl
    | false =>
      have e := inc_ne c (k : Int) (by omega) (by omega)
      rw [hkk] at e
      have e0 : inc c (k : Int) = 0 := by simpa using e
      unfold oppB at h5
      rw [e0, Nat.zero_testBit] at h5
      cases h5
  rw [opp_sym hk hy] at h5
  cases hg : goB c h (y : Int) with
  | false => rfl
  | true => exact ((goB_iff.1 hg).2 k h4 h5).elim

set_option maxRecDepth 100000 in
set_option maxHeartbeats 4000000 in
theorem covered_law (c h a b : Int) (ha : U8 a) (hb : U8 b) (hh : U16 h) (w : World) :
    Calls Try.prog 7 #[.int .u8 c, .int .u16 h, .int .u8 a, .int .u8 b] w fun e w' => e = .returned (.bool true) ∧ Below w.heap.size w w' := by
  obtain ⟨b1, hb1⟩ : ∃ p, mayB c a = p := ⟨_, rfl⟩
  obtain ⟨b2, hb2⟩ : ∃ p, mayB c b = p := ⟨_, rfl⟩
  have HMA := Lib.hid fun w => may_is c a ha w b1 hb1
  have HMB := Lib.hid fun w => may_is c b hb w b2 hb2
  have HB0 : Hid (Below w.heap.size w w) := Lib.hid (Below.refl _ _)
  go_enter Try.func7, Try.ntmps7
  have hcon := works_is w
  go_wp2_with fail
  refine (show Calls Try.prog _ _ _ _ from hcon).mono ?_
  rintro e w1 ⟨rfl, hb1⟩
  have HB1 : Hid (Below w.heap.size w w1) := Lib.hid (below_tr HB0.out hb1)
  clear hcon hb1 HB0
  cases b1 with
  | false =>
    have hcon := HMA.out w1
    go_wp2_with fail
    refine (show Calls Try.prog _ _ _ _ from hcon).mono ?_
    rintro e w2 ⟨rfl, hb2⟩
    have HB2 : Hid (Below w.heap.size w w2) := Lib.hid (below_tr HB1.out hb2)
    clear hcon hb2 HB1
    have hcon := works_is w2
    go_wp2_with fail
    refine (show Calls Try.prog _ _ _ _ from hcon).mono ?_
    rintro e w3 ⟨rfl, hb3⟩
    have HB3 : Hid (Below w.heap.size w w3) := Lib.hid (below_tr HB2.out hb3)
    clear hcon hb3 HB2
    go_wp2_with fail
    go_ret
    exact ⟨rfl, HB3.out⟩
  | true =>
    cases b2 with
    | false =>
      have hcon := HMA.out w1
      go_wp2_with fail
      refine (show Calls Try.prog _ _ _ _ from hcon).mono ?_
      rintro e w2 ⟨rfl, hb2⟩
      have HB2 : Hid (Below w.heap.size w w2) := Lib.hid (below_tr HB1.out hb2)
      clear hcon hb2 HB1
      have hcon := HMB.out w2
      go_wp2_with fail
      refine (show Calls Try.prog _ _ _ _ from hcon).mono ?_
      rintro e w3 ⟨rfl, hb3⟩
      have HB3 : Hid (Below w.heap.size w w3) := Lib.hid (below_tr HB2.out hb3)
      clear hcon hb3 HB2
      have hcon := works_is w3
      go_wp2_with fail
      refine (show Calls Try.prog _ _ _ _ from hcon).mono ?_
      rintro e w4 ⟨rfl, hb4⟩
      have HB4 : Hid (Below w.heap.size w w4) := Lib.hid (below_tr HB3.out hb4)
      clear hcon hb4 HB3
      go_wp2_with fail
      go_ret
      exact ⟨rfl, HB4.out⟩
    | true =>
      obtain ⟨x, rfl, hx9⟩ := may_nat hb1
      obtain ⟨y, rfl, hy9⟩ := may_nat hb2
      obtain ⟨sa, hsa⟩ : ∃ s, setN [(x : Int)] = s := ⟨_, rfl⟩
      have hsau : U16 sa := by rw [← hsa]; exact single_u16 ha
      obtain ⟨q, hq⟩ : ∃ p, hasB h x = p := ⟨_, rfl⟩
      obtain ⟨v, hv⟩ : ∃ p, covB c h (x : Int) = p := ⟨_, rfl⟩
      obtain ⟨u, hu⟩ : ∃ p, covB c sa (y : Int) = p := ⟨_, rfl⟩
      obtain ⟨t, ht⟩ : ∃ p, covB c h (y : Int) = p := ⟨_, rfl⟩
      obtain ⟨s, hs⟩ : ∃ p, goB c sa (y : Int) = p := ⟨_, rfl⟩
      obtain ⟨g, hg⟩ : ∃ p, goB c h (y : Int) = p := ⟨_, rfl⟩
      have F1 : Hid (q = true → v = true) := Lib.hid (fun H => by rw [← hv]; exact held_covered hb1 (by rw [hq]; exact H))
      have F2 : Hid (v = true → u = true → t = true) := Lib.hid (fun H1 H2 => by rw [← ht]; exact covered_covered hx9 (by rw [hv]; exact H1) (by rw [hsa, hu]; exact H2))
      have F3 : Hid (v = true → s = false → g = false) := Lib.hid (fun H1 H2 => by rw [← hg]; exact covered_bars hx9 hb1 hb2 (by rw [hv]; exact H1) (by rw [hsa, hs]; exact H2))
      have hsh := shr_nat hh x (by omega)
      rw [hq] at hsh
      have HV := Lib.hid fun w => covers_is c h x ha hh w v hv
      have HU := Lib.hid fun w => covers_is c sa y hb hsau w u hu
      have HT := Lib.hid fun w => covers_is c h y hb hh w t ht
      have HS := Lib.hid fun w => go_is c sa y hb hsau w s hs
      have HG := Lib.hid fun w => go_is c h y hb hh w g hg
      have HSA := Lib.hid fun w => set1_is x w ha sa hsa
      clear hq hv hu ht hs hg hsa hsau hb1 hb2 hb hh
      have hx8 : (x : Int) < 16 := by omega
      have hcon := HMA.out w1
      go_wp2_with fail
      refine (show Calls Try.prog _ _ _ _ from hcon).mono ?_
      rintro e w2 ⟨rfl, hb2⟩
      have HB2 : Hid (Below w.heap.size w w2) := Lib.hid (below_tr HB1.out hb2)
      clear hcon hb2 HB1
      have hcon := HMB.out w2
      go_wp2_with fail
      refine (show Calls Try.prog _ _ _ _ from hcon).mono ?_
      rintro e w3 ⟨rfl, hb3⟩
      have HB3 : Hid (Below w.heap.size w w3) := Lib.hid (below_tr HB2.out hb3)
      clear hcon hb3 HB2
      cases v with
      | false =>
        have hqf : q = false := by cases q with | false => rfl | true => exact (F1.out rfl).symm
        subst hqf
        have hcon := HV.out w3
        go_wp2_with fail
        refine (show Calls Try.prog _ _ _ _ from hcon).mono ?_
        rintro e w4 ⟨rfl, hb4⟩
        have HB4 : Hid (Below w.heap.size w w4) := Lib.hid (below_tr HB3.out hb4)
        clear hcon hb4 HB3
        go_wp2_with fail
        go_ret
        exact ⟨by simp, HB4.out⟩
      | true =>
        cases q with
        | false =>
          cases u with
          | false =>
            cases s with
            | false =>
              have e_g := F3.out rfl rfl
              subst e_g
              have hcon := HV.out w3
              go_wp2_with fail
              refine (show Calls Try.prog _ _ _ _ from hcon).mono ?_
              rintro e w4 ⟨rfl, hb4⟩
              have HB4 : Hid (Below w.heap.size w w4) := Lib.hid (below_tr HB3.out hb4)
              clear hcon hb4 HB3
              have hcon := HSA.out w4
              go_wp2_with fail
              refine (show Calls Try.prog _ _ _ _ from hcon).mono ?_
              rintro e w5 ⟨rfl, hb5⟩
              have HB5 : Hid (Below w.heap.size w w5) := Lib.hid (below_tr HB4.out hb5)
              clear hcon hb5 HB4
              have hcon := HU.out w5
              go_wp2_with fail
              refine (show Calls Try.prog _ _ _ _ from hcon).mono ?_
              rintro e w6 ⟨rfl, hb6⟩
              have HB6 : Hid (Below w.heap.size w w6) := Lib.hid (below_tr HB5.out hb6)
              clear hcon hb6 HB5
              have hcon := HSA.out w6
              go_wp2_with fail
              refine (show Calls Try.prog _ _ _ _ from hcon).mono ?_
              rintro e w7 ⟨rfl, hb7⟩
              have HB7 : Hid (Below w.heap.size w w7) := Lib.hid (below_tr HB6.out hb7)
              clear hcon hb7 HB6
              have hcon := HS.out w7
              go_wp2_with fail
              refine (show Calls Try.prog _ _ _ _ from hcon).mono ?_
              rintro e w8 ⟨rfl, hb8⟩
              have HB8 : Hid (Below w.heap.size w w8) := Lib.hid (below_tr HB7.out hb8)
              clear hcon hb8 HB7
              have hcon := HG.out w8
              go_wp2_with fail
              refine (show Calls Try.prog _ _ _ _ from hcon).mono ?_
              rintro e w9 ⟨rfl, hb9⟩
              have HB9 : Hid (Below w.heap.size w w9) := Lib.hid (below_tr HB8.out hb9)
              clear hcon hb9 HB8
              go_wp2_with fail
              go_ret
              exact ⟨by simp, HB9.out⟩
            | true =>
              have hcon := HV.out w3
              go_wp2_with fail
              refine (show Calls Try.prog _ _ _ _ from hcon).mono ?_
              rintro e w4 ⟨rfl, hb4⟩
              have HB4 : Hid (Below w.heap.size w w4) := Lib.hid (below_tr HB3.out hb4)
              clear hcon hb4 HB3
              have hcon := HSA.out w4
              go_wp2_with fail
              refine (show Calls Try.prog _ _ _ _ from hcon).mono ?_
              rintro e w5 ⟨rfl, hb5⟩
              have HB5 : Hid (Below w.heap.size w w5) := Lib.hid (below_tr HB4.out hb5)
              clear hcon hb5 HB4
              have hcon := HU.out w5
              go_wp2_with fail
              refine (show Calls Try.prog _ _ _ _ from hcon).mono ?_
              rintro e w6 ⟨rfl, hb6⟩
              have HB6 : Hid (Below w.heap.size w w6) := Lib.hid (below_tr HB5.out hb6)
              clear hcon hb6 HB5
              have hcon := HSA.out w6
              go_wp2_with fail
              refine (show Calls Try.prog _ _ _ _ from hcon).mono ?_
              rintro e w7 ⟨rfl, hb7⟩
              have HB7 : Hid (Below w.heap.size w w7) := Lib.hid (below_tr HB6.out hb7)
              clear hcon hb7 HB6
              have hcon := HS.out w7
              go_wp2_with fail
              refine (show Calls Try.prog _ _ _ _ from hcon).mono ?_
              rintro e w8 ⟨rfl, hb8⟩
              have HB8 : Hid (Below w.heap.size w w8) := Lib.hid (below_tr HB7.out hb8)
              clear hcon hb8 HB7
              go_wp2_with fail
              go_ret
              exact ⟨by simp, HB8.out⟩
          | true =>
            have e_t := F2.out rfl rfl
            subst e_t
            cases s with
            | false =>
              have e_g := F3.out rfl rfl
              subst e_g
              have hcon := HV.out w3
              go_wp2_with fail
              refine (show Calls Try.prog _ _ _ _ from hcon).mono ?_
              rintro e w4 ⟨rfl, hb4⟩
              have HB4 : Hid (Below w.heap.size w w4) := Lib.hid (below_tr HB3.out hb4)
              clear hcon hb4 HB3
              have hcon := HSA.out w4
              go_wp2_with fail
              refine (show Calls Try.prog _ _ _ _ from hcon).mono ?_
              rintro e w5 ⟨rfl, hb5⟩
              have HB5 : Hid (Below w.heap.size w w5) := Lib.hid (below_tr HB4.out hb5)
              clear hcon hb5 HB4
              have hcon := HU.out w5
              go_wp2_with fail
              refine (show Calls Try.prog _ _ _ _ from hcon).mono ?_
              rintro e w6 ⟨rfl, hb6⟩
              have HB6 : Hid (Below w.heap.size w w6) := Lib.hid (below_tr HB5.out hb6)
              clear hcon hb6 HB5
              have hcon := HT.out w6
              go_wp2_with fail
              refine (show Calls Try.prog _ _ _ _ from hcon).mono ?_
              rintro e w7 ⟨rfl, hb7⟩
              have HB7 : Hid (Below w.heap.size w w7) := Lib.hid (below_tr HB6.out hb7)
              clear hcon hb7 HB6
              have hcon := HSA.out w7
              go_wp2_with fail
              refine (show Calls Try.prog _ _ _ _ from hcon).mono ?_
              rintro e w8 ⟨rfl, hb8⟩
              have HB8 : Hid (Below w.heap.size w w8) := Lib.hid (below_tr HB7.out hb8)
              clear hcon hb8 HB7
              have hcon := HS.out w8
              go_wp2_with fail
              refine (show Calls Try.prog _ _ _ _ from hcon).mono ?_
              rintro e w9 ⟨rfl, hb9⟩
              have HB9 : Hid (Below w.heap.size w w9) := Lib.hid (below_tr HB8.out hb9)
              clear hcon hb9 HB8
              have hcon := HG.out w9
              go_wp2_with fail
              refine (show Calls Try.prog _ _ _ _ from hcon).mono ?_
              rintro e w10 ⟨rfl, hb10⟩
              have HB10 : Hid (Below w.heap.size w w10) := Lib.hid (below_tr HB9.out hb10)
              clear hcon hb10 HB9
              go_wp2_with fail
              go_ret
              exact ⟨by simp, HB10.out⟩
            | true =>
              have hcon := HV.out w3
              go_wp2_with fail
              refine (show Calls Try.prog _ _ _ _ from hcon).mono ?_
              rintro e w4 ⟨rfl, hb4⟩
              have HB4 : Hid (Below w.heap.size w w4) := Lib.hid (below_tr HB3.out hb4)
              clear hcon hb4 HB3
              have hcon := HSA.out w4
              go_wp2_with fail
              refine (show Calls Try.prog _ _ _ _ from hcon).mono ?_
              rintro e w5 ⟨rfl, hb5⟩
              have HB5 : Hid (Below w.heap.size w w5) := Lib.hid (below_tr HB4.out hb5)
              clear hcon hb5 HB4
              have hcon := HU.out w5
              go_wp2_with fail
              refine (show Calls Try.prog _ _ _ _ from hcon).mono ?_
              rintro e w6 ⟨rfl, hb6⟩
              have HB6 : Hid (Below w.heap.size w w6) := Lib.hid (below_tr HB5.out hb6)
              clear hcon hb6 HB5
              have hcon := HT.out w6
              go_wp2_with fail
              refine (show Calls Try.prog _ _ _ _ from hcon).mono ?_
              rintro e w7 ⟨rfl, hb7⟩
              have HB7 : Hid (Below w.heap.size w w7) := Lib.hid (below_tr HB6.out hb7)
              clear hcon hb7 HB6
              have hcon := HSA.out w7
              go_wp2_with fail
              refine (show Calls Try.prog _ _ _ _ from hcon).mono ?_
              rintro e w8 ⟨rfl, hb8⟩
              have HB8 : Hid (Below w.heap.size w w8) := Lib.hid (below_tr HB7.out hb8)
              clear hcon hb8 HB7
              have hcon := HS.out w8
              go_wp2_with fail
              refine (show Calls Try.prog _ _ _ _ from hcon).mono ?_
              rintro e w9 ⟨rfl, hb9⟩
              have HB9 : Hid (Below w.heap.size w w9) := Lib.hid (below_tr HB8.out hb9)
              clear hcon hb9 HB8
              go_wp2_with fail
              go_ret
              exact ⟨by simp, HB9.out⟩
        | true =>
          cases u with
          | false =>
            cases s with
            | false =>
              have e_g := F3.out rfl rfl
              subst e_g
              have hcon := HV.out w3
              go_wp2_with fail
              refine (show Calls Try.prog _ _ _ _ from hcon).mono ?_
              rintro e w4 ⟨rfl, hb4⟩
              have HB4 : Hid (Below w.heap.size w w4) := Lib.hid (below_tr HB3.out hb4)
              clear hcon hb4 HB3
              have hcon := HV.out w4
              go_wp2_with fail
              refine (show Calls Try.prog _ _ _ _ from hcon).mono ?_
              rintro e w5 ⟨rfl, hb5⟩
              have HB5 : Hid (Below w.heap.size w w5) := Lib.hid (below_tr HB4.out hb5)
              clear hcon hb5 HB4
              have hcon := HSA.out w5
              go_wp2_with fail
              refine (show Calls Try.prog _ _ _ _ from hcon).mono ?_
              rintro e w6 ⟨rfl, hb6⟩
              have HB6 : Hid (Below w.heap.size w w6) := Lib.hid (below_tr HB5.out hb6)
              clear hcon hb6 HB5
              have hcon := HU.out w6
              go_wp2_with fail
              refine (show Calls Try.prog _ _ _ _ from hcon).mono ?_
              rintro e w7 ⟨rfl, hb7⟩
              have HB7 : Hid (Below w.heap.size w w7) := Lib.hid (below_tr HB6.out hb7)
              clear hcon hb7 HB6
              have hcon := HSA.out w7
              go_wp2_with fail
              refine (show Calls Try.prog _ _ _ _ from hcon).mono ?_
              rintro e w8 ⟨rfl, hb8⟩
              have HB8 : Hid (Below w.heap.size w w8) := Lib.hid (below_tr HB7.out hb8)
              clear hcon hb8 HB7
              have hcon := HS.out w8
              go_wp2_with fail
              refine (show Calls Try.prog _ _ _ _ from hcon).mono ?_
              rintro e w9 ⟨rfl, hb9⟩
              have HB9 : Hid (Below w.heap.size w w9) := Lib.hid (below_tr HB8.out hb9)
              clear hcon hb9 HB8
              have hcon := HG.out w9
              go_wp2_with fail
              refine (show Calls Try.prog _ _ _ _ from hcon).mono ?_
              rintro e w10 ⟨rfl, hb10⟩
              have HB10 : Hid (Below w.heap.size w w10) := Lib.hid (below_tr HB9.out hb10)
              clear hcon hb10 HB9
              go_wp2_with fail
              go_ret
              exact ⟨by simp, HB10.out⟩
            | true =>
              have hcon := HV.out w3
              go_wp2_with fail
              refine (show Calls Try.prog _ _ _ _ from hcon).mono ?_
              rintro e w4 ⟨rfl, hb4⟩
              have HB4 : Hid (Below w.heap.size w w4) := Lib.hid (below_tr HB3.out hb4)
              clear hcon hb4 HB3
              have hcon := HV.out w4
              go_wp2_with fail
              refine (show Calls Try.prog _ _ _ _ from hcon).mono ?_
              rintro e w5 ⟨rfl, hb5⟩
              have HB5 : Hid (Below w.heap.size w w5) := Lib.hid (below_tr HB4.out hb5)
              clear hcon hb5 HB4
              have hcon := HSA.out w5
              go_wp2_with fail
              refine (show Calls Try.prog _ _ _ _ from hcon).mono ?_
              rintro e w6 ⟨rfl, hb6⟩
              have HB6 : Hid (Below w.heap.size w w6) := Lib.hid (below_tr HB5.out hb6)
              clear hcon hb6 HB5
              have hcon := HU.out w6
              go_wp2_with fail
              refine (show Calls Try.prog _ _ _ _ from hcon).mono ?_
              rintro e w7 ⟨rfl, hb7⟩
              have HB7 : Hid (Below w.heap.size w w7) := Lib.hid (below_tr HB6.out hb7)
              clear hcon hb7 HB6
              have hcon := HSA.out w7
              go_wp2_with fail
              refine (show Calls Try.prog _ _ _ _ from hcon).mono ?_
              rintro e w8 ⟨rfl, hb8⟩
              have HB8 : Hid (Below w.heap.size w w8) := Lib.hid (below_tr HB7.out hb8)
              clear hcon hb8 HB7
              have hcon := HS.out w8
              go_wp2_with fail
              refine (show Calls Try.prog _ _ _ _ from hcon).mono ?_
              rintro e w9 ⟨rfl, hb9⟩
              have HB9 : Hid (Below w.heap.size w w9) := Lib.hid (below_tr HB8.out hb9)
              clear hcon hb9 HB8
              go_wp2_with fail
              go_ret
              exact ⟨by simp, HB9.out⟩
          | true =>
            have e_t := F2.out rfl rfl
            subst e_t
            cases s with
            | false =>
              have e_g := F3.out rfl rfl
              subst e_g
              have hcon := HV.out w3
              go_wp2_with fail
              refine (show Calls Try.prog _ _ _ _ from hcon).mono ?_
              rintro e w4 ⟨rfl, hb4⟩
              have HB4 : Hid (Below w.heap.size w w4) := Lib.hid (below_tr HB3.out hb4)
              clear hcon hb4 HB3
              have hcon := HV.out w4
              go_wp2_with fail
              refine (show Calls Try.prog _ _ _ _ from hcon).mono ?_
              rintro e w5 ⟨rfl, hb5⟩
              have HB5 : Hid (Below w.heap.size w w5) := Lib.hid (below_tr HB4.out hb5)
              clear hcon hb5 HB4
              have hcon := HSA.out w5
              go_wp2_with fail
              refine (show Calls Try.prog _ _ _ _ from hcon).mono ?_
              rintro e w6 ⟨rfl, hb6⟩
              have HB6 : Hid (Below w.heap.size w w6) := Lib.hid (below_tr HB5.out hb6)
              clear hcon hb6 HB5
              have hcon := HU.out w6
              go_wp2_with fail
              refine (show Calls Try.prog _ _ _ _ from hcon).mono ?_
              rintro e w7 ⟨rfl, hb7⟩
              have HB7 : Hid (Below w.heap.size w w7) := Lib.hid (below_tr HB6.out hb7)
              clear hcon hb7 HB6
              have hcon := HT.out w7
              go_wp2_with fail
              refine (show Calls Try.prog _ _ _ _ from hcon).mono ?_
              rintro e w8 ⟨rfl, hb8⟩
              have HB8 : Hid (Below w.heap.size w w8) := Lib.hid (below_tr HB7.out hb8)
              clear hcon hb8 HB7
              have hcon := HSA.out w8
              go_wp2_with fail
              refine (show Calls Try.prog _ _ _ _ from hcon).mono ?_
              rintro e w9 ⟨rfl, hb9⟩
              have HB9 : Hid (Below w.heap.size w w9) := Lib.hid (below_tr HB8.out hb9)
              clear hcon hb9 HB8
              have hcon := HS.out w9
              go_wp2_with fail
              refine (show Calls Try.prog _ _ _ _ from hcon).mono ?_
              rintro e w10 ⟨rfl, hb10⟩
              have HB10 : Hid (Below w.heap.size w w10) := Lib.hid (below_tr HB9.out hb10)
              clear hcon hb10 HB9
              have hcon := HG.out w10
              go_wp2_with fail
              refine (show Calls Try.prog _ _ _ _ from hcon).mono ?_
              rintro e w11 ⟨rfl, hb11⟩
              have HB11 : Hid (Below w.heap.size w w11) := Lib.hid (below_tr HB10.out hb11)
              clear hcon hb11 HB10
              go_wp2_with fail
              go_ret
              exact ⟨by simp, HB11.out⟩
            | true =>
              have hcon := HV.out w3
              go_wp2_with fail
              refine (show Calls Try.prog _ _ _ _ from hcon).mono ?_
              rintro e w4 ⟨rfl, hb4⟩
              have HB4 : Hid (Below w.heap.size w w4) := Lib.hid (below_tr HB3.out hb4)
              clear hcon hb4 HB3
              have hcon := HV.out w4
              go_wp2_with fail
              refine (show Calls Try.prog _ _ _ _ from hcon).mono ?_
              rintro e w5 ⟨rfl, hb5⟩
              have HB5 : Hid (Below w.heap.size w w5) := Lib.hid (below_tr HB4.out hb5)
              clear hcon hb5 HB4
              have hcon := HSA.out w5
              go_wp2_with fail
              refine (show Calls Try.prog _ _ _ _ from hcon).mono ?_
              rintro e w6 ⟨rfl, hb6⟩
              have HB6 : Hid (Below w.heap.size w w6) := Lib.hid (below_tr HB5.out hb6)
              clear hcon hb6 HB5
              have hcon := HU.out w6
              go_wp2_with fail
              refine (show Calls Try.prog _ _ _ _ from hcon).mono ?_
              rintro e w7 ⟨rfl, hb7⟩
              have HB7 : Hid (Below w.heap.size w w7) := Lib.hid (below_tr HB6.out hb7)
              clear hcon hb7 HB6
              have hcon := HT.out w7
              go_wp2_with fail
              refine (show Calls Try.prog _ _ _ _ from hcon).mono ?_
              rintro e w8 ⟨rfl, hb8⟩
              have HB8 : Hid (Below w.heap.size w w8) := Lib.hid (below_tr HB7.out hb8)
              clear hcon hb8 HB7
              have hcon := HSA.out w8
              go_wp2_with fail
              refine (show Calls Try.prog _ _ _ _ from hcon).mono ?_
              rintro e w9 ⟨rfl, hb9⟩
              have HB9 : Hid (Below w.heap.size w w9) := Lib.hid (below_tr HB8.out hb9)
              clear hcon hb9 HB8
              have hcon := HS.out w9
              go_wp2_with fail
              refine (show Calls Try.prog _ _ _ _ from hcon).mono ?_
              rintro e w10 ⟨rfl, hb10⟩
              have HB10 : Hid (Below w.heap.size w w10) := Lib.hid (below_tr HB9.out hb10)
              clear hcon hb10 HB9
              go_wp2_with fail
              go_ret
              exact ⟨by simp, HB10.out⟩

end Go.Proofs.Ytdncoegdgoacnaa
