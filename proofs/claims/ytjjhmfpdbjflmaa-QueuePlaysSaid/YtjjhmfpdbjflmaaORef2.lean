/-
  The document's own Go, Covers, With: walked (stage 13).
-/
import Derived.Test.YtjjhmfpdbjflmaaORef
namespace Go.Proofs.Ytjjhmfpdbjflmaa
open Go.RowKit
set_option linter.unusedVariables false

theorem opp_held {c : Int} {k j : Nat} (hk : k < 9) (h : oppB c (k : Int) j = true) : mayB c (k : Int) = true := by
  cases hkk : mayB c (k : Int) with
  | true => rfl
  | false =>
    have e := inc_ne c (k : Int) (by omega) (by omega)
    rw [hkk] at e
    have e0 : inc c (k : Int) = 0 := by simpa using e
    unfold oppB at h
    rw [e0, Nat.zero_testBit] at h
    cases h

set_option maxRecDepth 100000 in
set_option maxHeartbeats 4000000 in
theorem rgo_true (c h : Int) (x : Nat) (hm : U8 (x : Int)) (hh : U16 h) (w : World) (hp : mayB c (x : Int) = true) (r : Bool) (hr : goB c h (x : Int) = r) : Calls Try.prog 58 #[.int .u8 c, .int .u16 h, .int .u8 (x : Int)] w fun e w' => e = .returned (.bool r) ∧ Below w.heap.size w w' := by
  have HM := Lib.hid fun w => rmay_is c x hm w true hp
  have HU := Lib.hid (And.intro hh (And.intro hp hr))
  clear hm hh hp hr
  have HB0 : Hid (Below w.heap.size w w) := Lib.hid (Below.refl _ _)
  go_enter Try.func58, Try.ntmps58
  have hcon := HM.out w
  go_wp2_with fail
  refine (show Calls Try.prog _ _ _ _ from hcon).mono ?_
  rintro e w1 ⟨rfl, hb1⟩
  have HB1 : Hid (Below w.heap.size w w1) := Lib.hid (below_tr HB0.out hb1)
  clear hcon hb1 HB0
  go_wp2_with fail
  go_loopg [7, 12, 13, 14, 15, 16, 17, 18, 19, 20, 21, 22, 23, 24, 25, 26, 27, 28, 29, 30] 9 (fun gg s7 s12 s13 s14 s15 s16 s17 s18 s19 s20 s21 s22 s23 s24 s25 s26 s27 s28 s29 s30 wr => ∃ j : Nat, s7 = .int .u8 j ∧ 1 ≤ j ∧ j ≤ 9 ∧ 9 - j ≤ gg ∧ Hid (∀ k : Nat, 1 ≤ k → k < j → mayB c (k : Int) = true → hasB h k = true → oppB c (x : Int) k = false) ∧ Hid (Below w.heap.size w wr))
  case atStart => exact ⟨1, rfl, by omega, by omega, by omega, Lib.hid (fun k h1 h2 => by omega), HB1⟩
  case round =>
    obtain ⟨j, rfl, hj1, hj, hgg, HI, BW⟩ := hrel
    by_cases h9 : j ≤ 8
    · have hlt : (j : Int) ≤ 8 := by omega
      have hj8 : U8 (j : Int) := by unfold U8; omega
      obtain ⟨p, hp⟩ : ∃ p, mayB c (j : Int) = p := ⟨_, rfl⟩
      obtain ⟨t, ht⟩ : ∃ t, togB c (j : Int) (x : Int) = t := ⟨_, rfl⟩
      obtain ⟨q, hq⟩ : ∃ q, hasB h j = q := ⟨_, rfl⟩
      have HP := Lib.hid fun w => rmay_is c j hj8 w p hp
      have HT := Lib.hid fun w => rtog_is c j x w t ht
      have HQ := Lib.hid fun w => rhas_is h j hj8 HU.out.1 w q (by rw [← hq]; simp; omega)
      have HF : Hid (mayB c (j : Int) = p ∧ hasB h j = q ∧ togB c (j : Int) (x : Int) = t) := Lib.hid ⟨hp, hq, ht⟩
      clear hp ht hq
      cases p with
      | false =>
        have hcon := HP.out wr
        go_wp2_with fail
        refine (show Calls Try.prog _ _ _ _ from hcon).mono ?_
        rintro e w2 ⟨rfl, hb2⟩
        have HB2 : Hid (Below w.heap.size w w2) := Lib.hid (below_tr BW.out hb2)
        clear hcon hb2 BW
        go_wp2_with fail
        go_roundg (9 - (j + 1))
        case measure => omega
        case rel => exact ⟨j + 1, by go_num, by omega, by omega, Nat.le_refl _, Lib.hid (fun k h1 h2 => by
          by_cases hk : k = j
          · subst hk
            exact fun h3 => (by rw [HF.out.1] at h3; cases h3)
          · exact HI.out k h1 (by omega)), HB2⟩
      | true =>
        cases q with
        | false =>
          have hcon := HP.out wr
          go_wp2_with fail
          refine (show Calls Try.prog _ _ _ _ from hcon).mono ?_
          rintro e w2 ⟨rfl, hb2⟩
          have HB2 : Hid (Below w.heap.size w w2) := Lib.hid (below_tr BW.out hb2)
          clear hcon hb2 BW
          have hcon := HQ.out w2
          go_wp2_with fail
          refine (show Calls Try.prog _ _ _ _ from hcon).mono ?_
          rintro e w3 ⟨rfl, hb3⟩
          have HB3 : Hid (Below w.heap.size w w3) := Lib.hid (below_tr HB2.out hb3)
          clear hcon hb3 HB2
          go_wp2_with fail
          go_roundg (9 - (j + 1))
          case measure => omega
          case rel => exact ⟨j + 1, by go_num, by omega, by omega, Nat.le_refl _, Lib.hid (fun k h1 h2 => by
            by_cases hk : k = j
            · subst hk
              exact fun _ h4 => (by rw [HF.out.2.1] at h4; cases h4)
            · exact HI.out k h1 (by omega)), HB3⟩
        | true =>
          cases t with
          | true =>
            have hcon := HP.out wr
            go_wp2_with fail
            refine (show Calls Try.prog _ _ _ _ from hcon).mono ?_
            rintro e w2 ⟨rfl, hb2⟩
            have HB2 : Hid (Below w.heap.size w w2) := Lib.hid (below_tr BW.out hb2)
            clear hcon hb2 BW
            have hcon := HQ.out w2
            go_wp2_with fail
            refine (show Calls Try.prog _ _ _ _ from hcon).mono ?_
            rintro e w3 ⟨rfl, hb3⟩
            have HB3 : Hid (Below w.heap.size w w3) := Lib.hid (below_tr HB2.out hb3)
            clear hcon hb3 HB2
            have hcon := HT.out w3
            go_wp2_with fail
            refine (show Calls Try.prog _ _ _ _ from hcon).mono ?_
            rintro e w4 ⟨rfl, hb4⟩
            have HB4 : Hid (Below w.heap.size w w4) := Lib.hid (below_tr HB3.out hb4)
            clear hcon hb4 HB3
            go_wp2_with fail
            go_roundg (9 - (j + 1))
            case measure => omega
            case rel => exact ⟨j + 1, by go_num, by omega, by omega, Nat.le_refl _, Lib.hid (fun k h1 h2 => by
              by_cases hk : k = j
              · subst hk
                exact fun h3 _ => (by have h5 := tog_opp h3 HU.out.2.1; rw [HF.out.2.2] at h5; cases ho : oppB c (x : Int) k with | false => rfl | true => rw [ho] at h5; cases h5)
              · exact HI.out k h1 (by omega)), HB4⟩
          | false =>
            have hneg : r = false := by
              have h5 := tog_opp HF.out.1 HU.out.2.1
              rw [HF.out.2.2] at h5
              have ho : oppB c (x : Int) j = true := by
                cases ho : oppB c (x : Int) j with
                | true => rfl
                | false => rw [ho] at h5; cases h5
              cases hr : r with
              | false => rfl
              | true => exact ((goB_iff.1 (HU.out.2.2.trans hr)).2 j HF.out.2.1 ho).elim
            have hcon := HP.out wr
            go_wp2_with fail
            refine (show Calls Try.prog _ _ _ _ from hcon).mono ?_
            rintro e w2 ⟨rfl, hb2⟩
            have HB2 : Hid (Below w.heap.size w w2) := Lib.hid (below_tr BW.out hb2)
            clear hcon hb2 BW
            have hcon := HQ.out w2
            go_wp2_with fail
            refine (show Calls Try.prog _ _ _ _ from hcon).mono ?_
            rintro e w3 ⟨rfl, hb3⟩
            have HB3 : Hid (Below w.heap.size w w3) := Lib.hid (below_tr HB2.out hb3)
            clear hcon hb3 HB2
            have hcon := HT.out w3
            go_wp2_with fail
            refine (show Calls Try.prog _ _ _ _ from hcon).mono ?_
            rintro e w4 ⟨rfl, hb4⟩
            have HB4 : Hid (Below w.heap.size w w4) := Lib.hid (below_tr HB3.out hb4)
            clear hcon hb4 HB3
            go_wp2_with fail
            go_ret
            exact ⟨by first | rfl | (rw [hneg]; rfl), HB4.out⟩
    · have hlt : ¬ (j : Int) ≤ 8 := by omega
      have hj9 : j = 9 := by omega
      subst hj9
      have hpos : r = true := by
        rw [← HU.out.2.2]
        exact goB_iff.2 ⟨HU.out.2.1, fun k hk ho => by
                have hmk := opp_may HU.out.2.1 ho
                have h8 := may_8 hmk
                rw [HI.out k (by omega) (by omega) hmk hk] at ho
                cases ho⟩
      go_wp2_with fail
      go_ret
      exact ⟨by first | rfl | (rw [hpos]; rfl), BW.out⟩

set_option maxRecDepth 100000 in
set_option maxHeartbeats 4000000 in
theorem rgo_is (c h m : Int) (hm : U8 m) (hh : U16 h) (w : World) (r : Bool) (hr : goB c h m = r) : Calls Try.prog 58 #[.int .u8 c, .int .u16 h, .int .u8 m] w fun e w' => e = .returned (.bool r) ∧ Below w.heap.size w w' := by
  obtain ⟨p, hp⟩ : ∃ p, mayB c m = p := ⟨_, rfl⟩
  cases p with
  | false =>
    obtain rfl : r = false := by rw [← hr]; unfold goB; rw [hp]; rfl
    have HM := Lib.hid fun w => rmay_is c m hm w false hp
    clear hp hr
    have HB0 : Hid (Below w.heap.size w w) := Lib.hid (Below.refl _ _)
    go_enter Try.func58, Try.ntmps58
    have hcon := HM.out w
    go_wp2_with fail
    refine (show Calls Try.prog _ _ _ _ from hcon).mono ?_
    rintro e w1 ⟨rfl, hb1⟩
    have HB1 : Hid (Below w.heap.size w w1) := Lib.hid (below_tr HB0.out hb1)
    clear hcon hb1 HB0
    go_wp2_with fail
    go_ret
    exact ⟨rfl, HB1.out⟩
  | true =>
    obtain ⟨x, rfl, hx9⟩ := may_nat hp
    exact rgo_true c h x hm hh w hp r hr

set_option maxRecDepth 100000 in
set_option maxHeartbeats 4000000 in
theorem rcov_true (c h : Int) (x : Nat) (hm : U8 (x : Int)) (hh : U16 h) (w : World) (hp : mayB c (x : Int) = true) (r : Bool) (hr : covB c h (x : Int) = r) : Calls Try.prog 42 #[.int .u8 c, .int .u16 h, .int .u8 (x : Int)] w fun e w' => e = .returned (.bool r) ∧ Below w.heap.size w w' := by
  have HM := Lib.hid fun w => rmay_is c x hm w true hp
  have HU := Lib.hid (And.intro hh (And.intro hp hr))
  clear hm hh hp hr
  have HB0 : Hid (Below w.heap.size w w) := Lib.hid (Below.refl _ _)
  go_enter Try.func42, Try.ntmps42
  have hcon := HM.out w
  go_wp2_with fail
  refine (show Calls Try.prog _ _ _ _ from hcon).mono ?_
  rintro e w1 ⟨rfl, hb1⟩
  have HB1 : Hid (Below w.heap.size w w1) := Lib.hid (below_tr HB0.out hb1)
  clear hcon hb1 HB0
  go_wp2_with fail
  go_loopg [7, 12, 13, 14, 15, 16, 17, 18, 19, 20, 21, 22, 23, 24, 25, 26, 27, 28, 29, 30, 31] 9 (fun gg s7 s12 s13 s14 s15 s16 s17 s18 s19 s20 s21 s22 s23 s24 s25 s26 s27 s28 s29 s30 s31 wr => ∃ j : Nat, s7 = .int .u8 j ∧ 1 ≤ j ∧ j ≤ 9 ∧ 9 - j ≤ gg ∧ Hid (∀ k : Nat, 1 ≤ k → k < j → mayB c (k : Int) = true → oppB c (x : Int) k = true → goB c h (k : Int) = false) ∧ Hid (Below w.heap.size w wr))
  case atStart => exact ⟨1, rfl, by omega, by omega, by omega, Lib.hid (fun k h1 h2 => by omega), HB1⟩
  case round =>
    obtain ⟨j, rfl, hj1, hj, hgg, HI, BW⟩ := hrel
    by_cases h9 : j ≤ 8
    · have hlt : (j : Int) ≤ 8 := by omega
      have hj8 : U8 (j : Int) := by unfold U8; omega
      obtain ⟨p, hp⟩ : ∃ p, mayB c (j : Int) = p := ⟨_, rfl⟩
      obtain ⟨t, ht⟩ : ∃ t, togB c (j : Int) (x : Int) = t := ⟨_, rfl⟩
      obtain ⟨q, hq⟩ : ∃ q, goB c h (j : Int) = q := ⟨_, rfl⟩
      have HP := Lib.hid fun w => rmay_is c j hj8 w p hp
      have HT := Lib.hid fun w => rtog_is c j x w t ht
      have HQ := Lib.hid fun w => rgo_is c h j hj8 HU.out.1 w q hq
      have HF : Hid (mayB c (j : Int) = p ∧ goB c h (j : Int) = q ∧ togB c (j : Int) (x : Int) = t) := Lib.hid ⟨hp, hq, ht⟩
      clear hp ht hq
      cases p with
      | false =>
        have hcon := HP.out wr
        go_wp2_with fail
        refine (show Calls Try.prog _ _ _ _ from hcon).mono ?_
        rintro e w2 ⟨rfl, hb2⟩
        have HB2 : Hid (Below w.heap.size w w2) := Lib.hid (below_tr BW.out hb2)
        clear hcon hb2 BW
        go_wp2_with fail
        go_roundg (9 - (j + 1))
        case measure => omega
        case rel => exact ⟨j + 1, by go_num, by omega, by omega, Nat.le_refl _, Lib.hid (fun k h1 h2 => by
          by_cases hk : k = j
          · subst hk
            exact fun h3 => (by rw [HF.out.1] at h3; cases h3)
          · exact HI.out k h1 (by omega)), HB2⟩
      | true =>
        cases t with
        | true =>
          have hcon := HP.out wr
          go_wp2_with fail
          refine (show Calls Try.prog _ _ _ _ from hcon).mono ?_
          rintro e w2 ⟨rfl, hb2⟩
          have HB2 : Hid (Below w.heap.size w w2) := Lib.hid (below_tr BW.out hb2)
          clear hcon hb2 BW
          have hcon := HT.out w2
          go_wp2_with fail
          refine (show Calls Try.prog _ _ _ _ from hcon).mono ?_
          rintro e w3 ⟨rfl, hb3⟩
          have HB3 : Hid (Below w.heap.size w w3) := Lib.hid (below_tr HB2.out hb3)
          clear hcon hb3 HB2
          go_wp2_with fail
          go_roundg (9 - (j + 1))
          case measure => omega
          case rel => exact ⟨j + 1, by go_num, by omega, by omega, Nat.le_refl _, Lib.hid (fun k h1 h2 => by
            by_cases hk : k = j
            · subst hk
              exact fun h3 h4 => (by have h5 := tog_opp h3 HU.out.2.1; rw [HF.out.2.2, h4] at h5; cases h5)
            · exact HI.out k h1 (by omega)), HB3⟩
        | false =>
          cases q with
          | false =>
            have hcon := HP.out wr
            go_wp2_with fail
            refine (show Calls Try.prog _ _ _ _ from hcon).mono ?_
            rintro e w2 ⟨rfl, hb2⟩
            have HB2 : Hid (Below w.heap.size w w2) := Lib.hid (below_tr BW.out hb2)
            clear hcon hb2 BW
            have hcon := HT.out w2
            go_wp2_with fail
            refine (show Calls Try.prog _ _ _ _ from hcon).mono ?_
            rintro e w3 ⟨rfl, hb3⟩
            have HB3 : Hid (Below w.heap.size w w3) := Lib.hid (below_tr HB2.out hb3)
            clear hcon hb3 HB2
            have hcon := HQ.out w3
            go_wp2_with fail
            refine (show Calls Try.prog _ _ _ _ from hcon).mono ?_
            rintro e w4 ⟨rfl, hb4⟩
            have HB4 : Hid (Below w.heap.size w w4) := Lib.hid (below_tr HB3.out hb4)
            clear hcon hb4 HB3
            go_wp2_with fail
            go_roundg (9 - (j + 1))
            case measure => omega
            case rel => exact ⟨j + 1, by go_num, by omega, by omega, Nat.le_refl _, Lib.hid (fun k h1 h2 => by
              by_cases hk : k = j
              · subst hk
                exact fun _ _ => HF.out.2.1
              · exact HI.out k h1 (by omega)), HB4⟩
          | true =>
            have hneg : r = false := by
              have h5 := tog_opp HF.out.1 HU.out.2.1
              rw [HF.out.2.2] at h5
              have ho : oppB c (x : Int) j = true := by
                cases ho : oppB c (x : Int) j with
                | true => rfl
                | false => rw [ho] at h5; cases h5
              cases hr : r with
              | false => rfl
              | true =>
                obtain ⟨k, h6, h7, h8⟩ := (covB_iff.1 (HU.out.2.2.trans hr)).2 j ho
                exact ((goB_iff.1 HF.out.2.1).2 k h7 (by rw [← opp_sym (opp_held h6 h8) HF.out.1]; exact h8)).elim
            have hcon := HP.out wr
            go_wp2_with fail
            refine (show Calls Try.prog _ _ _ _ from hcon).mono ?_
            rintro e w2 ⟨rfl, hb2⟩
            have HB2 : Hid (Below w.heap.size w w2) := Lib.hid (below_tr BW.out hb2)
            clear hcon hb2 BW
            have hcon := HT.out w2
            go_wp2_with fail
            refine (show Calls Try.prog _ _ _ _ from hcon).mono ?_
            rintro e w3 ⟨rfl, hb3⟩
            have HB3 : Hid (Below w.heap.size w w3) := Lib.hid (below_tr HB2.out hb3)
            clear hcon hb3 HB2
            have hcon := HQ.out w3
            go_wp2_with fail
            refine (show Calls Try.prog _ _ _ _ from hcon).mono ?_
            rintro e w4 ⟨rfl, hb4⟩
            have HB4 : Hid (Below w.heap.size w w4) := Lib.hid (below_tr HB3.out hb4)
            clear hcon hb4 HB3
            go_wp2_with fail
            go_ret
            exact ⟨by first | rfl | (rw [hneg]; rfl), HB4.out⟩
    · have hlt : ¬ (j : Int) ≤ 8 := by omega
      have hj9 : j = 9 := by omega
      subst hj9
      have hpos : r = true := by
        rw [← HU.out.2.2]
        exact covB_iff.2 ⟨HU.out.2.1, fun j ho => by
                have hmj := opp_may HU.out.2.1 ho
                have h8 := may_8 hmj
                have hg := HI.out j (by omega) (by omega) hmj ho
                cases hx : (List.range 9).any fun k => hasB h k && oppB c (k : Int) j with
                | true =>
                  obtain ⟨k, h1, h2⟩ := List.any_eq_true.1 hx
                  rw [Bool.and_eq_true] at h2
                  exact ⟨k, List.mem_range.1 h1, h2.1, h2.2⟩
                | false =>
                  have : goB c h (j : Int) = true := goB_iff.2 ⟨hmj, fun k hk hok => by
                    have h9 : k < 9 := by
                      by_cases hh : k < 9
                      · exact hh
                      · rw [inc_out (by omega)] at hok; cases hok
                    have : (List.range 9).any (fun k => hasB h k && oppB c (k : Int) j) = true := List.any_eq_true.2 ⟨k, List.mem_range.2 h9, by rw [hk, ← opp_sym hmj (opp_may hmj hok), hok]; rfl⟩
                    rw [this] at hx
                    cases hx⟩
                  rw [this] at hg
                  cases hg⟩
      go_wp2_with fail
      go_ret
      exact ⟨by first | rfl | (rw [hpos]; rfl), BW.out⟩

set_option maxRecDepth 100000 in
set_option maxHeartbeats 4000000 in
theorem rcov_is (c h m : Int) (hm : U8 m) (hh : U16 h) (w : World) (r : Bool) (hr : covB c h m = r) : Calls Try.prog 42 #[.int .u8 c, .int .u16 h, .int .u8 m] w fun e w' => e = .returned (.bool r) ∧ Below w.heap.size w w' := by
  obtain ⟨p, hp⟩ : ∃ p, mayB c m = p := ⟨_, rfl⟩
  cases p with
  | false =>
    obtain rfl : r = false := by rw [← hr]; unfold covB; rw [hp]; rfl
    have HM := Lib.hid fun w => rmay_is c m hm w false hp
    clear hp hr
    have HB0 : Hid (Below w.heap.size w w) := Lib.hid (Below.refl _ _)
    go_enter Try.func42, Try.ntmps42
    have hcon := HM.out w
    go_wp2_with fail
    refine (show Calls Try.prog _ _ _ _ from hcon).mono ?_
    rintro e w1 ⟨rfl, hb1⟩
    have HB1 : Hid (Below w.heap.size w w1) := Lib.hid (below_tr HB0.out hb1)
    clear hcon hb1 HB0
    go_wp2_with fail
    go_ret
    exact ⟨rfl, HB1.out⟩
  | true =>
    obtain ⟨x, rfl, hx9⟩ := may_nat hp
    exact rcov_true c h x hm hh w hp r hr


end Go.Proofs.Ytjjhmfpdbjflmaa
