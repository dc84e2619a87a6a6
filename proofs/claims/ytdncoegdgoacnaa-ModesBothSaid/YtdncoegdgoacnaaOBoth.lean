/-
  ModesBoth, walked (stage 13).
-/
import Derived.Test.YtdncoegdgoacnaaOMath
namespace Go.Proofs.Ytdncoegdgoacnaa
open Go.RowKit
set_option linter.unusedVariables false

set_option maxRecDepth 100000 in
set_option maxHeartbeats 4000000 in
theorem both_law (c a b h : Int) (ha : U8 a) (hb : U8 b) (hh : U16 h) (w : World) :
    Calls Try.prog 5 #[.int .u8 c, .int .u8 a, .int .u8 b, .int .u16 h] w fun e w' => e = .returned (.bool true) ∧ Below w.heap.size w w' := by
  obtain ⟨b1, hb1⟩ : ∃ p, mayB c a = p := ⟨_, rfl⟩
  obtain ⟨b2, hb2⟩ : ∃ p, mayB c b = p := ⟨_, rfl⟩
  have HMA := Lib.hid fun w => may_is c a ha w b1 hb1
  have HMB := Lib.hid fun w => may_is c b hb w b2 hb2
  have HB0 : Hid (Below w.heap.size w w) := Lib.hid (Below.refl _ _)
  go_enter Try.func5, Try.ntmps5
  have hcon := works_is w
  go_wp2_with fail
  refine (show Calls Try.prog _ _ _ _ from hcon).mono ?_
  rintro e w1 ⟨rfl, hb1⟩
  have HB1 : Hid (Below w.heap.size w w1) := Lib.hid (below_tr HB0.out hb1)
  clear hcon hb1 HB0
  cases b1 with
  | false =>
    have hcon := HMA.out w1
    go_wp2_with fail
    refine (show Calls Try.prog _ _ _ _ from hcon).mono ?_
    rintro e w2 ⟨rfl, hb2⟩
    have HB2 : Hid (Below w.heap.size w w2) := Lib.hid (below_tr HB1.out hb2)
    clear hcon hb2 HB1
    have hcon := works_is w2
    go_wp2_with fail
    refine (show Calls Try.prog _ _ _ _ from hcon).mono ?_
    rintro e w3 ⟨rfl, hb3⟩
    have HB3 : Hid (Below w.heap.size w w3) := Lib.hid (below_tr HB2.out hb3)
    clear hcon hb3 HB2
    go_wp2_with fail
    go_ret
    exact ⟨rfl, HB3.out⟩
  | true =>
    cases b2 with
    | false =>
      have hcon := HMA.out w1
      go_wp2_with fail
      refine (show Calls Try.prog _ _ _ _ from hcon).mono ?_
      rintro e w2 ⟨rfl, hb2⟩
      have HB2 : Hid (Below w.heap.size w w2) := Lib.hid (below_tr HB1.out hb2)
      clear hcon hb2 HB1
      have hcon := HMB.out w2
      go_wp2_with fail
      refine (show Calls Try.prog _ _ _ _ from hcon).mono ?_
      rintro e w3 ⟨rfl, hb3⟩
      have HB3 : Hid (Below w.heap.size w w3) := Lib.hid (below_tr HB2.out hb3)
      clear hcon hb3 HB2
      have hcon := works_is w3
      go_wp2_with fail
      refine (show Calls Try.prog _ _ _ _ from hcon).mono ?_
      rintro e w4 ⟨rfl, hb4⟩
      have HB4 : Hid (Below w.heap.size w w4) := Lib.hid (below_tr HB3.out hb4)
      clear hcon hb4 HB3
      go_wp2_with fail
      go_ret
      exact ⟨rfl, HB4.out⟩
    | true =>
      have hcon := HMA.out w1
      go_wp2_with fail
      refine (show Calls Try.prog _ _ _ _ from hcon).mono ?_
      rintro e w2 ⟨rfl, hb2⟩
      have HB2 : Hid (Below w.heap.size w w2) := Lib.hid (below_tr HB1.out hb2)
      clear hcon hb2 HB1
      have hcon := HMB.out w2
      go_wp2_with fail
      refine (show Calls Try.prog _ _ _ _ from hcon).mono ?_
      rintro e w3 ⟨rfl, hb3⟩
      have HB3 : Hid (Below w.heap.size w w3) := Lib.hid (below_tr HB2.out hb3)
      clear hcon hb3 HB2
      obtain ⟨x, rfl, hx9⟩ := may_nat hb1
      obtain ⟨y, rfl, hy9⟩ := may_nat hb2
      obtain ⟨sa, hsa⟩ : ∃ s, setN [(x : Int)] = s := ⟨_, rfl⟩
      obtain ⟨sb, hsb⟩ : ∃ s, setN [(y : Int)] = s := ⟨_, rfl⟩
      have hsau : U16 sa := by rw [← hsa]; exact single_u16 ha
      have hsbu : U16 sb := by rw [← hsb]; exact single_u16 hb
      obtain ⟨s, hs⟩ : ∃ s, goB c sa (y : Int) = s := ⟨_, rfl⟩
      have hs2 : goB c sb (x : Int) = s := by
        rw [← hs, ← hsa, ← hsb, go_single (by omega) hb1, go_single (by omega) hb2, opp_sym hb1 hb2]
      have HGA := Lib.hid fun w => go_is c sa y hb hsau w s hs
      have HGB := Lib.hid fun w => go_is c sb x ha hsbu w s hs2
      have HSA := Lib.hid fun w => set1_is x w ha sa hsa
      have HSB := Lib.hid fun w => set1_is y w hb sb hsb
      have HEA := Lib.hid (each_go (h := h) hb1)
      have HU := Lib.hid (And.intro hh (And.intro ha hb1))
      clear hsa hsb hsau hsbu hs hs2 hb1 hb2 hh ha hb
      have hcon := HSA.out w3
      go_wp2_with fail
      refine (show Calls Try.prog _ _ _ _ from hcon).mono ?_
      rintro e w4 ⟨rfl, hb4⟩
      have HB4 : Hid (Below w.heap.size w w4) := Lib.hid (below_tr HB3.out hb4)
      clear hcon hb4 HB3
      have hcon := HGA.out w4
      go_wp2_with fail
      refine (show Calls Try.prog _ _ _ _ from hcon).mono ?_
      rintro e w5 ⟨rfl, hb5⟩
      have HB5 : Hid (Below w.heap.size w w5) := Lib.hid (below_tr HB4.out hb5)
      clear hcon hb5 HB4
      have hcon := HSB.out w5
      go_wp2_with fail
      refine (show Calls Try.prog _ _ _ _ from hcon).mono ?_
      rintro e w6 ⟨rfl, hb6⟩
      have HB6 : Hid (Below w.heap.size w w6) := Lib.hid (below_tr HB5.out hb6)
      clear hcon hb6 HB5
      have hcon := HGB.out w6
      go_wp2_with fail
      refine (show Calls Try.prog _ _ _ _ from hcon).mono ?_
      rintro e w7 ⟨rfl, hb7⟩
      have HB7 : Hid (Below w.heap.size w w7) := Lib.hid (below_tr HB6.out hb7)
      clear hcon hb7 HB6
      go_wp2_with fail
      go_loopg [9, 10, 39, 40, 41, 42, 43, 44, 45, 46, 47, 48, 49, 50, 51, 52, 53, 54, 55, 56, 57, 58, 59, 60, 61] 16 (fun gg s9 s10 s39 s40 s41 s42 s43 s44 s45 s46 s47 s48 s49 s50 s51 s52 s53 s54 s55 s56 s57 s58 s59 s60 s61 wr => ∃ i : Nat, s10 = .int .u8 i ∧ s9 = .bool (eachB c h (x : Int) i) ∧ i ≤ 16 ∧ 16 - i ≤ gg ∧ Hid (Below w.heap.size w wr))
      case atStart => exact ⟨0, rfl, rfl, by omega, by omega, HB7⟩
      case round =>
        obtain ⟨i, rfl, rfl, hi, hgg, BW⟩ := hrel
        by_cases h9 : i < 16
        · have hlt : (i : Int) < 16 := by omega
          have hq := shr_nat HU.out.1 i h9
          obtain ⟨q, hqq⟩ : ∃ q, hasB h i = q := ⟨_, rfl⟩
          obtain ⟨e, he⟩ : ∃ e, eachB c h (x : Int) i = e := ⟨_, rfl⟩
          obtain ⟨p, hp⟩ : ∃ p, mayB c (i : Int) = p := ⟨_, rfl⟩
          have hi8 : U8 (i : Int) := by unfold U8; omega
          obtain ⟨si, hsi⟩ : ∃ s, setN [(i : Int)] = s := ⟨_, rfl⟩
          have hsiu : U16 si := by rw [← hsi]; exact single_u16 hi8
          obtain ⟨g, hg⟩ : ∃ g, goB c si (x : Int) = g := ⟨_, rfl⟩
          have hk : eachB c h (x : Int) (i + 1) = if (q && p) = true then e && g else e := by rw [← hqq, ← hp, ← he, ← hg, ← hsi]; rfl
          have HM := Lib.hid fun w => may_is c i hi8 w p hp
          have HS := Lib.hid fun w => set1_is i w hi8 si hsi
          have HG := Lib.hid fun w => go_is c si x HU.out.2.1 hsiu w g hg
          have HK := Lib.hid hk
          rw [hqq] at hq
          rw [he]
          clear hqq he hp hi8 hsi hsiu hg hk
          cases q with
          | false =>
            go_wp2_with fail
            go_roundg (16 - (i + 1))
            case measure => omega
            case rel => exact ⟨i + 1, by go_num, by rw [HK.out]; rfl, by omega, Nat.le_refl _, BW⟩
          | true =>
            cases p with
            | false =>
              have hcon := HM.out wr
              go_wp2_with fail
              refine (show Calls Try.prog _ _ _ _ from hcon).mono ?_
              rintro e w8 ⟨rfl, hb8⟩
              have HB8 : Hid (Below w.heap.size w w8) := Lib.hid (below_tr BW.out hb8)
              clear hcon hb8 BW
              go_wp2_with fail
              go_roundg (16 - (i + 1))
              case measure => omega
              case rel => exact ⟨i + 1, by go_num, by rw [HK.out]; rfl, by omega, Nat.le_refl _, HB8⟩
            | true =>
              cases e with
              | false =>
                have hcon := HM.out wr
                go_wp2_with fail
                refine (show Calls Try.prog _ _ _ _ from hcon).mono ?_
                rintro e w8 ⟨rfl, hb8⟩
                have HB8 : Hid (Below w.heap.size w w8) := Lib.hid (below_tr BW.out hb8)
                clear hcon hb8 BW
                go_wp2_with fail
                go_roundg (16 - (i + 1))
                case measure => omega
                case rel => exact ⟨i + 1, by go_num, by rw [HK.out]; rfl, by omega, Nat.le_refl _, HB8⟩
              | true =>
                have hcon := HM.out wr
                go_wp2_with fail
                refine (show Calls Try.prog _ _ _ _ from hcon).mono ?_
                rintro e w8 ⟨rfl, hb8⟩
                have HB8 : Hid (Below w.heap.size w w8) := Lib.hid (below_tr BW.out hb8)
                clear hcon hb8 BW
                have hcon := HS.out w8
                go_wp2_with fail
                refine (show Calls Try.prog _ _ _ _ from hcon).mono ?_
                rintro e w9 ⟨rfl, hb9⟩
                have HB9 : Hid (Below w.heap.size w w9) := Lib.hid (below_tr HB8.out hb9)
                clear hcon hb9 HB8
                have hcon := HG.out w9
                go_wp2_with fail
                refine (show Calls Try.prog _ _ _ _ from hcon).mono ?_
                rintro e w10 ⟨rfl, hb10⟩
                have HB10 : Hid (Below w.heap.size w w10) := Lib.hid (below_tr HB9.out hb10)
                clear hcon hb10 HB9
                go_wp2_with fail
                go_roundg (16 - (i + 1))
                case measure => omega
                case rel => exact ⟨i + 1, by go_num, by rw [HK.out]; rfl, by omega, Nat.le_refl _, HB10⟩
        · have hlt : ¬ (i : Int) < 16 := by omega
          have hi9 : i = 16 := by omega
          subst hi9
          have HGH := Lib.hid fun w => go_is c h x HU.out.2.1 HU.out.1 w _ HEA.out
          have hcon := HGH.out wr
          go_wp2_with fail
          refine (show Calls Try.prog _ _ _ _ from hcon).mono ?_
          rintro e w8 ⟨rfl, hb8⟩
          have HB8 : Hid (Below w.heap.size w w8) := Lib.hid (below_tr BW.out hb8)
          clear hcon hb8 BW
          go_wp2_with fail
          go_ret
          exact ⟨by simp, HB8.out⟩

end Go.Proofs.Ytdncoegdgoacnaa
