/-
  The law KeyTurned, walked.
-/
import Derived.Test.YtenpjfkiehcjlaaKApp
namespace Go.Proofs.Ytenpjfkiehcjlaa
open Go.RowKit

theorem nullV_rev (l : List Val) : wholeV l.reverse = wholeV l := whole_reverse nullV l

set_option maxRecDepth 100000 in
set_option maxHeartbeats 8000000 in
theorem turned_1 (a0 : Option Addr) (c0 n0 : Nat) (l0 : List Val) (a1 : Option Addr) (c1 n1 : Nat) (l1 : List Int) (a2 : Option Addr) (c2 n2 : Nat) (l2 : List Val) (hn0 : l0.length = n0) (hn1 : l1.length = n1) (hn2 : l2.length = n2) (w : World) (hs0 : SlL w a0 c0 l0) (hs1 : SlI w a1 c1 l1) (hs2 : SlL w a2 c2 l2) (hz0 : longB l0 = true) :
    Calls Try.prog 5 #[.slice a0 n0 c0, .slice a1 n1 c1, .slice a2 n2 c2] w fun e w' => e = .returned (.bool true) ∧ Below w.heap.size w w' := by
  have B1 : Hid (Below w.heap.size w w) := Lib.hid (Below.refl _ _)
  have HA0 := Lib.hid hs0
  have HA1 := Lib.hid hs1
  have HA2 := Lib.hid hs2
  have HN0 := Lib.hid hn0
  have HN1 := Lib.hid hn1
  have HN2 := Lib.hid hn2
  have HZ0 := Lib.hid hz0
  clear hs0 hs1 hs2 hn0 hn1 hn2 hz0
  go_enter Try.func5, Try.ntmps5
  have hcon := long_is a0 c0 n0 l0 true HN0.out HZ0.out _ (HA0.out.below B1.out)
  go_wp2_with fail
  refine (show Calls Try.prog _ _ _ _ from hcon).mono ?_
  rintro e w1 ⟨rfl, hb1⟩
  have B2 := Lib.hid (below_tr B1.out hb1)
  clear B1
  clear hcon hb1
  have hcon := awake_is w1
  go_wp2_with fail
  refine (show Calls Try.prog _ _ _ _ from hcon).mono ?_
  rintro e w2 ⟨rfl, hb2⟩
  have B3 := Lib.hid (below_tr B2.out hb2)
  clear B2
  clear hcon hb2
  go_wp2_with fail
  go_ret
  exact ⟨rfl, B3.out⟩

set_option maxRecDepth 100000 in
set_option maxHeartbeats 8000000 in
theorem turned_2 (a0 : Option Addr) (c0 n0 : Nat) (l0 : List Val) (a1 : Option Addr) (c1 n1 : Nat) (l1 : List Int) (a2 : Option Addr) (c2 n2 : Nat) (l2 : List Val) (hn0 : l0.length = n0) (hn1 : l1.length = n1) (hn2 : l2.length = n2) (w : World) (hs0 : SlL w a0 c0 l0) (hs1 : SlI w a1 c1 l1) (hs2 : SlL w a2 c2 l2) (hz0 : longB l0 = false) (hz2 : longB l2 = true) :
    Calls Try.prog 5 #[.slice a0 n0 c0, .slice a1 n1 c1, .slice a2 n2 c2] w fun e w' => e = .returned (.bool true) ∧ Below w.heap.size w w' := by
  have B1 : Hid (Below w.heap.size w w) := Lib.hid (Below.refl _ _)
  have HA0 := Lib.hid hs0
  have HA1 := Lib.hid hs1
  have HA2 := Lib.hid hs2
  have HN0 := Lib.hid hn0
  have HN1 := Lib.hid hn1
  have HN2 := Lib.hid hn2
  have HZ0 := Lib.hid hz0
  have HZ2 := Lib.hid hz2
  clear hs0 hs1 hs2 hn0 hn1 hn2 hz0 hz2
  go_enter Try.func5, Try.ntmps5
  have hcon := long_is a0 c0 n0 l0 false HN0.out HZ0.out _ (HA0.out.below B1.out)
  go_wp2_with fail
  refine (show Calls Try.prog _ _ _ _ from hcon).mono ?_
  rintro e w1 ⟨rfl, hb1⟩
  have B2 := Lib.hid (below_tr B1.out hb1)
  clear B1
  clear hcon hb1
  have hcon := long_is a2 c2 n2 l2 true HN2.out HZ2.out _ (HA2.out.below B2.out)
  go_wp2_with fail
  refine (show Calls Try.prog _ _ _ _ from hcon).mono ?_
  rintro e w2 ⟨rfl, hb2⟩
  have B3 := Lib.hid (below_tr B2.out hb2)
  clear B2
  clear hcon hb2
  have hcon := awake_is w2
  go_wp2_with fail
  refine (show Calls Try.prog _ _ _ _ from hcon).mono ?_
  rintro e w3 ⟨rfl, hb3⟩
  have B4 := Lib.hid (below_tr B3.out hb3)
  clear B3
  clear hcon hb3
  go_wp2_with fail
  go_ret
  exact ⟨rfl, B4.out⟩

set_option maxRecDepth 100000 in
set_option maxHeartbeats 8000000 in
theorem turned_3 (a0 : Option Addr) (c0 n0 : Nat) (l0 : List Val) (a1 : Option Addr) (c1 n1 : Nat) (l1 : List Int) (a2 : Option Addr) (c2 n2 : Nat) (l2 : List Val) (hn0 : l0.length = n0) (hn1 : l1.length = n1) (hn2 : l2.length = n2) (w : World) (hs0 : SlL w a0 c0 l0) (hs1 : SlI w a1 c1 l1) (hs2 : SlL w a2 c2 l2) (hz0 : longB l0 = false) (hz2 : longB l2 = false) (h60 : 60 < n1) :
    Calls Try.prog 5 #[.slice a0 n0 c0, .slice a1 n1 c1, .slice a2 n2 c2] w fun e w' => e = .returned (.bool true) ∧ Below w.heap.size w w' := by
  have B1 : Hid (Below w.heap.size w w) := Lib.hid (Below.refl _ _)
  have HA0 := Lib.hid hs0
  have HA1 := Lib.hid hs1
  have HA2 := Lib.hid hs2
  have HN0 := Lib.hid hn0
  have HN1 := Lib.hid hn1
  have HN2 := Lib.hid hn2
  have HZ0 := Lib.hid hz0
  have HZ2 := Lib.hid hz2
  clear hs0 hs1 hs2 hn0 hn1 hn2 hz0 hz2
  go_enter Try.func5, Try.ntmps5
  have h60z : 60 < (n1 : Int) := by omega
  have hcon := long_is a0 c0 n0 l0 false HN0.out HZ0.out _ (HA0.out.below B1.out)
  go_wp2_with fail
  refine (show Calls Try.prog _ _ _ _ from hcon).mono ?_
  rintro e w1 ⟨rfl, hb1⟩
  have B2 := Lib.hid (below_tr B1.out hb1)
  clear B1
  clear hcon hb1
  have hcon := long_is a2 c2 n2 l2 false HN2.out HZ2.out _ (HA2.out.below B2.out)
  go_wp2_with fail
  refine (show Calls Try.prog _ _ _ _ from hcon).mono ?_
  rintro e w2 ⟨rfl, hb2⟩
  have B3 := Lib.hid (below_tr B2.out hb2)
  clear B2
  clear hcon hb2
  have hcon := awake_is w2
  go_wp2_with fail
  refine (show Calls Try.prog _ _ _ _ from hcon).mono ?_
  rintro e w3 ⟨rfl, hb3⟩
  have B4 := Lib.hid (below_tr B3.out hb3)
  clear B3
  clear hcon hb3
  go_wp2_with fail
  go_ret
  exact ⟨rfl, B4.out⟩

set_option maxRecDepth 100000 in
set_option maxHeartbeats 8000000 in
theorem turned_4 (a0 : Option Addr) (c0 n0 : Nat) (l0 : List Val) (a1 : Option Addr) (c1 n1 : Nat) (l1 : List Int) (a2 : Option Addr) (c2 n2 : Nat) (l2 : List Val) (hn0 : l0.length = n0) (hn1 : l1.length = n1) (hn2 : l2.length = n2) (w : World) (hs0 : SlL w a0 c0 l0) (hs1 : SlI w a1 c1 l1) (hs2 : SlL w a2 c2 l2) (hz0 : longB l0 = false) (hz2 : longB l2 = false) (h60 : n1 ≤ 60) (hm : mayC l1 n0 = false) :
    Calls Try.prog 5 #[.slice a0 n0 c0, .slice a1 n1 c1, .slice a2 n2 c2] w fun e w' => e = .returned (.bool true) ∧ Below w.heap.size w w' := by
  have B1 : Hid (Below w.heap.size w w) := Lib.hid (Below.refl _ _)
  have HA0 := Lib.hid hs0
  have HA1 := Lib.hid hs1
  have HA2 := Lib.hid hs2
  have HN0 := Lib.hid hn0
  have HN1 := Lib.hid hn1
  have HN2 := Lib.hid hn2
  have HZ0 := Lib.hid hz0
  have HZ2 := Lib.hid hz2
  have HM := Lib.hid hm
  clear hs0 hs1 hs2 hn0 hn1 hn2 hz0 hz2 hm
  go_enter Try.func5, Try.ntmps5
  have h60z : ¬ 60 < (n1 : Int) := by omega
  have hb0 : n0 ≤ 60 := by rw [← HN0.out]; exact (long_not HZ0.out).1
  have hb2 : n2 ≤ 60 := by rw [← HN2.out]; exact (long_not HZ2.out).1
  have hcon := long_is a0 c0 n0 l0 false HN0.out HZ0.out _ (HA0.out.below B1.out)
  go_wp2_with fail
  refine (show Calls Try.prog _ _ _ _ from hcon).mono ?_
  rintro e w1 ⟨rfl, hb1⟩
  have B2 := Lib.hid (below_tr B1.out hb1)
  clear B1
  clear hcon hb1
  have hcon := long_is a2 c2 n2 l2 false HN2.out HZ2.out _ (HA2.out.below B2.out)
  go_wp2_with fail
  refine (show Calls Try.prog _ _ _ _ from hcon).mono ?_
  rintro e w2 ⟨rfl, hb2⟩
  have B3 := Lib.hid (below_tr B2.out hb2)
  clear B2
  clear hcon hb2
  have hcon := awake_is w2
  go_wp2_with fail
  refine (show Calls Try.prog _ _ _ _ from hcon).mono ?_
  rintro e w3 ⟨rfl, hb3⟩
  have B4 := Lib.hid (below_tr B3.out hb3)
  clear B3
  clear hcon hb3
  have hcon := of_no a0 a1 c0 c1 n0 n1 l1 HN1.out (by omega) HM.out _ (HA1.out.below B4.out)
  go_wp2_with fail
  refine (show Calls Try.prog _ _ _ _ from hcon).mono ?_
  rintro e w4 ⟨rfl, hb4⟩
  have B5 := Lib.hid (below_tr B4.out hb4)
  clear B4
  clear hcon hb4
  have R_r6 := Lib.hid (HA0.out.below B5.out)
  have C_r6 := Lib.hid (HA1.out.below B5.out)
  have K_r6 := Lib.hid (HA2.out.below B5.out)
  have HB6 := B5
  clear HA0 HA1 HA2 B5
  have B7 : Hid (Below w4.heap.size w4 w4) := Lib.hid (Below.refl _ _)
  go_wp2_with fail
  go_loopg [9, 10] n1 (fun gg s9 s10 wr => ∃ (p : Nat) (j : Int), s10 = .int .i64 j ∧ j = (p : Int) - 1 ∧ p ≤ n1 ∧ p ≤ gg ∧ Hid (wr.ownsRow w4.heap.size 3 1 s9 ((l1.drop p).reverse).length (((l1.drop p).reverse).map (Value.int .i64))) ∧ Hid (Below w4.heap.size w4 wr))
  case atStart => exact ⟨n1, _, rfl, rfl, Nat.le_refl _, Nat.le_refl _, Lib.hid (by rw [List.drop_of_length_le (Nat.le_of_eq HN1.out)]; exact own_nilI _ _), B7⟩
  case round =>
    obtain ⟨p, j, rfl, hj, hpn, hgg, HOW, BW⟩ := hrel
    by_cases hp : p = 0
    · subst hp
      have hj0 : ¬ 0 ≤ j := by omega
      have hrl : l1.reverse.length = n1 := by rw [List.length_reverse]; exact HN1.out
      have hoI := HOW.out
      rw [List.drop_zero, hrl] at hoI
      obtain ⟨ab, cb, rfl, hsb⟩ := own_ints hrl (fun x hx => C_r6.out.wf x (List.mem_reverse.mp hx)) hoI
      have hsB := Lib.hid hsb
      clear hoI hsb HOW
      have hcon := of_no a0 ab c0 cb n0 n1 l1.reverse hrl (by omega) (by rw [mayC_reverse]; exact HM.out) _ hsB.out
      go_wp2_with fail
      refine (show Calls Try.prog _ _ _ _ from hcon).mono ?_
      rintro e w5 ⟨rfl, hb5⟩
      have D_108 := Lib.hid (hsB.out.below hb5)
      have B108 := Lib.hid (below_tr BW.out hb5)
      clear hsB BW
      clear hcon hb5
      have R_r109 := Lib.hid (R_r6.out.below B108.out)
      have C_r109 := Lib.hid (C_r6.out.below B108.out)
      have K_r109 := Lib.hid (K_r6.out.below B108.out)
      have D_r109 := Lib.hid (D_108.out)
      have HB109 := Lib.hid (below_tr HB6.out B108.out)
      clear R_r6 C_r6 K_r6 D_108 HB6 B108
      have B110 : Hid (Below w5.heap.size w5 w5) := Lib.hid (Below.refl _ _)
      go_wp2_with fail
      go_loopg [13] n1 (fun gg s13 wr => ∃ i : Nat, s13 = .int .i64 i ∧ i ≤ 0 ∧ 0 - i ≤ gg ∧ Hid (Below w5.heap.size w5 wr))
      case atStart => exact ⟨0, rfl, Nat.zero_le _, by omega, B110⟩
      case round =>
        obtain ⟨i, rfl, hin, hgg2, BW2⟩ := hrel
        obtain rfl : i = 0 := by omega
        have R_r211 := Lib.hid (R_r109.out.below BW2.out)
        have C_r211 := Lib.hid (C_r109.out.below BW2.out)
        have K_r211 := Lib.hid (K_r109.out.below BW2.out)
        have D_r211 := Lib.hid (D_r109.out.below BW2.out)
        have HB211 := Lib.hid (below_tr HB109.out BW2.out)
        clear R_r109 C_r109 K_r109 D_r109 HB109 BW2
        have B212 : Hid (Below wr.heap.size wr wr) := Lib.hid (Below.refl _ _)
        go_wp2_with fail
        go_loopg [14, 15] n2 (fun gg s14 s15 wr2 => ∃ (p : Nat) (j : Int), s15 = .int .i64 j ∧ j = (p : Int) - 1 ∧ p ≤ n2 ∧ p ≤ gg ∧ Hid (wr2.ownsRow wr.heap.size 27 4 s14 ((l2.drop p).reverse).length (flatL ((l2.drop p).reverse))) ∧ Hid (Below wr.heap.size wr wr2))
        case atStart => exact ⟨n2, _, rfl, rfl, Nat.le_refl _, Nat.le_refl _, Lib.hid (by rw [List.drop_of_length_le (Nat.le_of_eq HN2.out)]; exact own_nilV _ _), B212⟩
        case round =>
          obtain ⟨p, j3, rfl, hj3, hpn3, hgg3, HOV, BW3⟩ := hrel
          by_cases hp : p = 0
          · subst hp
            have hj30 : ¬ 0 ≤ j3 := by omega
            have hrl2 : l2.reverse.length = n2 := by rw [List.length_reverse]; exact HN2.out
            have hoV := HOV.out
            rw [List.drop_zero] at hoV
            obtain ⟨at', ct', e14, hst⟩ := own_sl (fun x hx => K_r211.out.wf x (List.mem_reverse.mp hx)) hoV
            rw [hrl2] at e14
            subst e14
            have hsT := Lib.hid hst
            clear hoV hst HOV
            have hcon := refers_no a0 a1 a2 c0 c1 c2 n0 n1 n2 l1 HN1.out (by omega) HM.out _ (C_r211.out.below BW3.out)
            go_wp2_with fail
            refine (show Calls Try.prog _ _ _ _ from hcon).mono ?_
            rintro e w6 ⟨rfl, hb6⟩
            have T_313 := Lib.hid (hsT.out.below hb6)
            have B313 := Lib.hid (below_tr BW3.out hb6)
            clear hsT BW3
            clear hcon hb6
            have hcon := refers_no a0 ab at' c0 cb ct' n0 n1 n2 l1.reverse hrl (by omega) (by rw [mayC_reverse]; exact HM.out) _ (D_r211.out.below B313.out)
            go_wp2_with fail
            refine (show Calls Try.prog _ _ _ _ from hcon).mono ?_
            rintro e w7 ⟨rfl, hb7⟩
            have T_314 := Lib.hid (T_313.out.below hb7)
            have B314 := Lib.hid (below_tr B313.out hb7)
            clear T_313 B313
            clear hcon hb7
            obtain ⟨y, hy⟩ : ∃ y, wholeV l2 = y := ⟨_, rfl⟩
            have HY := Lib.hid hy
            clear hy
            have hcon := whole_is a2 c2 n2 l2 y HN2.out (by omega) HY.out _ (K_r211.out.below B314.out)
            go_wp2_with fail
            refine (show Calls Try.prog _ _ _ _ from hcon).mono ?_
            rintro e w8 ⟨rfl, hb8⟩
            have T_315 := Lib.hid (T_314.out.below hb8)
            have B315 := Lib.hid (below_tr B314.out hb8)
            clear T_314 B314
            clear hcon hb8
            have hcon := whole_is at' ct' n2 l2.reverse y hrl2 (by omega) (by rw [nullV_rev]; exact HY.out) _ T_315.out
            go_wp2_with fail
            refine (show Calls Try.prog _ _ _ _ from hcon).mono ?_
            rintro e w9 ⟨rfl, hb9⟩
            have T_316 := Lib.hid (T_315.out.below hb9)
            have B316 := Lib.hid (below_tr B315.out hb9)
            clear T_315 B315
            clear hcon hb9
            go_wp2_with fail
            go_ret
            exact ⟨by first | rfl | simp, (below_tr HB211.out B316.out)⟩
          · obtain ⟨q, rfl⟩ : ∃ q, p = q + 1 := ⟨p - 1, by omega⟩
            obtain rfl : j3 = (q : Int) := by omega
            clear hj3
            have hq0 : 0 ≤ (q : Int) := by omega
            have hqn : (q : Int) < (n2 : Int) := by omega
            have hqz : ¬ n2 ≤ q := by omega
            obtain ⟨x, hx⟩ := get_is (l := l2) (i := q) (by rw [HN2.out]; omega)
            obtain ⟨b, o, rfl, d0, d1, d2, d3, d4⟩ := at_l (K_r211.out.below BW3.out) hx
            obtain ⟨s', W', hrun, hO', hB'⟩ := app_val BW3.out.size HOV.out (fun x hx => K_r211.out.wf x (List.mem_of_mem_drop (List.mem_reverse.mp hx))) (by rw [List.length_reverse, List.length_drop, HN2.out]; omega) x (K_r211.out.wf x (List.mem_of_getElem? hx))
            have HRUN := Lib.hid hrun
            have HO' := Lib.hid hO'
            have HB' := Lib.hid (BW3.out.trans hB')
            have HX := Lib.hid hx
            clear hrun hO' hB' hx
            go_wp2_with (at_builtin; refine append_stepW rfl _ _ 22 rfl _ _ _ _ rfl rfl HRUN.out ?_)
            go_roundg q
            case measure => omega
            case rel => exact ⟨q, _, rfl, rfl, by omega, Nat.le_refl _, Lib.hid (by rw [drop_rev HX.out]; exact HO'.out), HB'⟩
    · obtain ⟨q, rfl⟩ : ∃ q, p = q + 1 := ⟨p - 1, by omega⟩
      obtain rfl : j = (q : Int) := by omega
      clear hj
      have hq0 : 0 ≤ (q : Int) := by omega
      have hqn : (q : Int) < (n1 : Int) := by omega
      have hqz : ¬ n1 ≤ q := by omega
      obtain ⟨y, hy⟩ : ∃ y, l1[q]? = some y := ⟨l1[q]'(by rw [HN1.out]; omega), by simp⟩
      obtain ⟨b', o', rfl, hc, hb'⟩ := at_i (C_r6.out.below BW.out) hy
      obtain ⟨s', W', hrun, hO', hB'⟩ := app_int BW.out.size HOW.out (by rw [List.length_reverse, List.length_drop, HN1.out]; omega) y
      have HRUN := Lib.hid hrun
      have HO' := Lib.hid hO'
      have HB' := Lib.hid (BW.out.trans hB')
      have HY := Lib.hid hy
      clear hrun hO' hB' hy
      go_wp2_with (at_builtin; refine append_stepW rfl _ _ 28 rfl _ _ _ _ rfl rfl HRUN.out ?_)
      go_roundg q
      case measure => omega
      case rel => exact ⟨q, _, rfl, rfl, by omega, Nat.le_refl _, Lib.hid (by rw [drop_rev HY.out]; exact HO'.out), HB'⟩

set_option maxRecDepth 100000 in
set_option maxHeartbeats 8000000 in
theorem turned_5 (a0 : Option Addr) (c0 n0 : Nat) (l0 : List Val) (a1 : Option Addr) (c1 n1 : Nat) (l1 : List Int) (a2 : Option Addr) (c2 n2 : Nat) (l2 : List Val) (hn0 : l0.length = n0) (hn1 : l1.length = n1) (hn2 : l2.length = n2) (w : World) (hs0 : SlL w a0 c0 l0) (hs1 : SlI w a1 c1 l1) (hs2 : SlL w a2 c2 l2) (hz0 : longB l0 = false) (hz2 : longB l2 = false) (h60 : n1 ≤ 60) (hm : mayC l1 n0 = true) :
    Calls Try.prog 5 #[.slice a0 n0 c0, .slice a1 n1 c1, .slice a2 n2 c2] w fun e w' => e = .returned (.bool true) ∧ Below w.heap.size w w' := by
  have B1 : Hid (Below w.heap.size w w) := Lib.hid (Below.refl _ _)
  have HA0 := Lib.hid hs0
  have HA1 := Lib.hid hs1
  have HA2 := Lib.hid hs2
  have HN0 := Lib.hid hn0
  have HN1 := Lib.hid hn1
  have HN2 := Lib.hid hn2
  have HZ0 := Lib.hid hz0
  have HZ2 := Lib.hid hz2
  have HM := Lib.hid hm
  clear hs0 hs1 hs2 hn0 hn1 hn2 hz0 hz2 hm
  go_enter Try.func5, Try.ntmps5
  have h60z : ¬ 60 < (n1 : Int) := by omega
  have hb0 : n0 ≤ 60 := by rw [← HN0.out]; exact (long_not HZ0.out).1
  have hb2 : n2 ≤ 60 := by rw [← HN2.out]; exact (long_not HZ2.out).1
  have hcon := long_is a0 c0 n0 l0 false HN0.out HZ0.out _ (HA0.out.below B1.out)
  go_wp2_with fail
  refine (show Calls Try.prog _ _ _ _ from hcon).mono ?_
  rintro e w1 ⟨rfl, hb1⟩
  have B2 := Lib.hid (below_tr B1.out hb1)
  clear B1
  clear hcon hb1
  have hcon := long_is a2 c2 n2 l2 false HN2.out HZ2.out _ (HA2.out.below B2.out)
  go_wp2_with fail
  refine (show Calls Try.prog _ _ _ _ from hcon).mono ?_
  rintro e w2 ⟨rfl, hb2⟩
  have B3 := Lib.hid (below_tr B2.out hb2)
  clear B2
  clear hcon hb2
  have hcon := awake_is w2
  go_wp2_with fail
  refine (show Calls Try.prog _ _ _ _ from hcon).mono ?_
  rintro e w3 ⟨rfl, hb3⟩
  have B4 := Lib.hid (below_tr B3.out hb3)
  clear B3
  clear hcon hb3
  have hcon := of_is a0 a1 c0 c1 n0 n1 l0 l1 HN0.out HN1.out (by omega) HM.out _ (HA0.out.below B4.out) (HA1.out.below B4.out)
  go_wp2_with fail
  refine (show Calls Try.prog _ _ _ _ from hcon).mono ?_
  rintro e w4 ⟨g1, rfl, _, hO, hb4⟩
  have B5 := Lib.hid (below_tr B4.out hb4)
  clear B4
  clear hcon hb4
  have A_n4 := Lib.hid hO
  clear hO
  have R_r6 := Lib.hid (HA0.out.below B5.out)
  have C_r6 := Lib.hid (HA1.out.below B5.out)
  have K_r6 := Lib.hid (HA2.out.below B5.out)
  have A_r6 := Lib.hid (A_n4.out)
  have HB6 := B5
  clear HA0 HA1 HA2 A_n4 B5
  have B7 : Hid (Below w4.heap.size w4 w4) := Lib.hid (Below.refl _ _)
  go_wp2_with fail
  go_loopg [9, 10] n1 (fun gg s9 s10 wr => ∃ (p : Nat) (j : Int), s10 = .int .i64 j ∧ j = (p : Int) - 1 ∧ p ≤ n1 ∧ p ≤ gg ∧ Hid (wr.ownsRow w4.heap.size 3 1 s9 ((l1.drop p).reverse).length (((l1.drop p).reverse).map (Value.int .i64))) ∧ Hid (Below w4.heap.size w4 wr))
  case atStart => exact ⟨n1, _, rfl, rfl, Nat.le_refl _, Nat.le_refl _, Lib.hid (by rw [List.drop_of_length_le (Nat.le_of_eq HN1.out)]; exact own_nilI _ _), B7⟩
  case round =>
    obtain ⟨p, j, rfl, hj, hpn, hgg, HOW, BW⟩ := hrel
    by_cases hp : p = 0
    · subst hp
      have hj0 : ¬ 0 ≤ j := by omega
      have hrl : l1.reverse.length = n1 := by rw [List.length_reverse]; exact HN1.out
      have hoI := HOW.out
      rw [List.drop_zero, hrl] at hoI
      obtain ⟨ab, cb, rfl, hsb⟩ := own_ints hrl (fun x hx => C_r6.out.wf x (List.mem_reverse.mp hx)) hoI
      have hsB := Lib.hid hsb
      clear hoI hsb HOW
      have hcon := of_is a0 ab c0 cb n0 n1 l0 l1.reverse HN0.out hrl (by omega) (by rw [mayC_reverse]; exact HM.out) _ (R_r6.out.below BW.out) hsB.out
      go_wp2_with fail
      refine (show Calls Try.prog _ _ _ _ from hcon).mono ?_
      rintro e w5 ⟨g2, rfl, _, hO, hb5⟩
      have D_108 := Lib.hid (hsB.out.below hb5)
      have B108 := Lib.hid (below_tr BW.out hb5)
      clear hsB BW
      clear hcon hb5
      have E_n5 := Lib.hid hO
      clear hO
      have R_r109 := Lib.hid (R_r6.out.below B108.out)
      have C_r109 := Lib.hid (C_r6.out.below B108.out)
      have K_r109 := Lib.hid (K_r6.out.below B108.out)
      have A_r109 := Lib.hid (A_r6.out.below B108.out)
      have D_r109 := Lib.hid (D_108.out)
      have E_r109 := Lib.hid (E_n5.out)
      have HB109 := Lib.hid (below_tr HB6.out B108.out)
      clear R_r6 C_r6 K_r6 A_r6 D_108 E_n5 HB6 B108
      have B110 : Hid (Below w5.heap.size w5 w5) := Lib.hid (Below.refl _ _)
      go_wp2_with fail
      go_loopg [13] n1 (fun gg s13 wr => ∃ i : Nat, s13 = .int .i64 i ∧ i ≤ n1 ∧ n1 - i ≤ gg ∧ Hid (Below w5.heap.size w5 wr))
      case atStart => exact ⟨0, rfl, Nat.zero_le _, by omega, B110⟩
      case round =>
        obtain ⟨i, rfl, hin, hgg2, BW2⟩ := hrel
        by_cases hlt : i < n1
        · have A_211 := Lib.hid ((A_r109.out.below BW2.out))
          have E_212 := Lib.hid ((E_r109.out.below BW2.out))
          have hltz : (i : Int) < (n1 : Int) := by omega
          have hla : (ofL Val.zero l0 l1).length = n1 := by rw [length_ofL]; exact HN1.out
          have z1 : ¬ n1 ≤ i := by omega
          obtain ⟨x, hx⟩ := get_is (l := ofL Val.zero l0 l1) (i := i) (by rw [hla]; exact hlt)
          have hx2 : (ofL Val.zero l0 l1.reverse)[n1 - 1 - i]? = some x := by
            rw [ofL_reverse, List.getElem?_reverse (by rw [hla]; omega), hla, show n1 - 1 - (n1 - 1 - i) = i by omega]
            exact hx
          have hnq := neqv_is x x false (by rw [eqB_iff.mpr rfl]; rfl)
          obtain ⟨e0, e1, e2, e3, e4⟩ := A_211.out.get hx
          obtain ⟨d0, d1, d2, d3, d4⟩ := E_212.out.get hx2
          have hix : n1 - 1 - i < n1 := by omega
          have hiz : ((n1 : Int) - 1 - (i : Int)).toNat = n1 - 1 - i := by omega
          have hi1 : 0 ≤ (n1 : Int) - 1 - (i : Int) := by omega
          have hi2 : (n1 : Int) - 1 - (i : Int) < (n1 : Int) := by omega
          have hi3 : ¬ (n1 : Int) - 1 - (i : Int) < 0 := by omega
          clear hx hx2
          go_wp2_with fail
          go_quiet (fail)
          go_wp2_with fail
          go_roundg (n1 - (i + 1))
          case measure => omega
          case rel => exact ⟨i + 1, by go_num, by omega, Nat.le_refl _, Lib.hid (BW2.out.trans ((drewN_below _ _).mono BW2.out.size))⟩
        · have hltz : ¬ (i : Int) < (n1 : Int) := by omega
          have R_r211 := Lib.hid (R_r109.out.below BW2.out)
          have C_r211 := Lib.hid (C_r109.out.below BW2.out)
          have K_r211 := Lib.hid (K_r109.out.below BW2.out)
          have D_r211 := Lib.hid (D_r109.out.below BW2.out)
          have HB211 := Lib.hid (below_tr HB109.out BW2.out)
          clear R_r109 C_r109 K_r109 A_r109 D_r109 E_r109 HB109 BW2
          have B212 : Hid (Below wr.heap.size wr wr) := Lib.hid (Below.refl _ _)
          go_wp2_with fail
          go_loopg [14, 15] n2 (fun gg s14 s15 wr2 => ∃ (p : Nat) (j : Int), s15 = .int .i64 j ∧ j = (p : Int) - 1 ∧ p ≤ n2 ∧ p ≤ gg ∧ Hid (wr2.ownsRow wr.heap.size 27 4 s14 ((l2.drop p).reverse).length (flatL ((l2.drop p).reverse))) ∧ Hid (Below wr.heap.size wr wr2))
          case atStart => exact ⟨n2, _, rfl, rfl, Nat.le_refl _, Nat.le_refl _, Lib.hid (by rw [List.drop_of_length_le (Nat.le_of_eq HN2.out)]; exact own_nilV _ _), B212⟩
          case round =>
            obtain ⟨p, j3, rfl, hj3, hpn3, hgg3, HOV, BW3⟩ := hrel
            by_cases hp : p = 0
            · subst hp
              have hj30 : ¬ 0 ≤ j3 := by omega
              have hrl2 : l2.reverse.length = n2 := by rw [List.length_reverse]; exact HN2.out
              have hoV := HOV.out
              rw [List.drop_zero] at hoV
              obtain ⟨at', ct', e14, hst⟩ := own_sl (fun x hx => K_r211.out.wf x (List.mem_reverse.mp hx)) hoV
              rw [hrl2] at e14
              subst e14
              have hsT := Lib.hid hst
              clear hoV hst HOV
              obtain ⟨z, hz⟩ : ∃ z, sameV (ofL Val.zero l0 l1) l2 = z := ⟨_, rfl⟩
              have HZZ := Lib.hid hz
              have HZR : Hid (sameV (ofL Val.zero l0 l1.reverse) l2.reverse = z) := Lib.hid (by rw [ofL_reverse, ← hz]; exact sameK_reverse nullV _ _)
              clear hz
              have hcon := refers_is a0 a1 a2 c0 c1 c2 n0 n1 n2 l0 l1 l2 z HN0.out HN1.out HN2.out (by omega) (by omega) HM.out HZZ.out _ (R_r211.out.below BW3.out) (C_r211.out.below BW3.out) (K_r211.out.below BW3.out)
              go_wp2_with fail
              refine (show Calls Try.prog _ _ _ _ from hcon).mono ?_
              rintro e w6 ⟨rfl, hb6⟩
              have T_313 := Lib.hid (hsT.out.below hb6)
              have B313 := Lib.hid (below_tr BW3.out hb6)
              clear hsT BW3
              clear hcon hb6
              have hcon := refers_is a0 ab at' c0 cb ct' n0 n1 n2 l0 l1.reverse l2.reverse z HN0.out hrl hrl2 (by omega) (by omega) (by rw [mayC_reverse]; exact HM.out) HZR.out _ (R_r211.out.below B313.out) (D_r211.out.below B313.out) T_313.out
              go_wp2_with fail
              refine (show Calls Try.prog _ _ _ _ from hcon).mono ?_
              rintro e w7 ⟨rfl, hb7⟩
              have T_314 := Lib.hid (T_313.out.below hb7)
              have B314 := Lib.hid (below_tr B313.out hb7)
              clear T_313 B313
              clear hcon hb7
              obtain ⟨y, hy⟩ : ∃ y, wholeV l2 = y := ⟨_, rfl⟩
              have HY := Lib.hid hy
              clear hy
              have hcon := whole_is a2 c2 n2 l2 y HN2.out (by omega) HY.out _ (K_r211.out.below B314.out)
              go_wp2_with fail
              refine (show Calls Try.prog _ _ _ _ from hcon).mono ?_
              rintro e w8 ⟨rfl, hb8⟩
              have T_315 := Lib.hid (T_314.out.below hb8)
              have B315 := Lib.hid (below_tr B314.out hb8)
              clear T_314 B314
              clear hcon hb8
              have hcon := whole_is at' ct' n2 l2.reverse y hrl2 (by omega) (by rw [nullV_rev]; exact HY.out) _ T_315.out
              go_wp2_with fail
              refine (show Calls Try.prog _ _ _ _ from hcon).mono ?_
              rintro e w9 ⟨rfl, hb9⟩
              have T_316 := Lib.hid (T_315.out.below hb9)
              have B316 := Lib.hid (below_tr B315.out hb9)
              clear T_315 B315
              clear hcon hb9
              go_wp2_with fail
              go_ret
              exact ⟨by first | rfl | simp, (below_tr HB211.out B316.out)⟩
            · obtain ⟨q, rfl⟩ : ∃ q, p = q + 1 := ⟨p - 1, by omega⟩
              obtain rfl : j3 = (q : Int) := by omega
              clear hj3
              have hq0 : 0 ≤ (q : Int) := by omega
              have hqn : (q : Int) < (n2 : Int) := by omega
              have hqz : ¬ n2 ≤ q := by omega
              obtain ⟨x, hx⟩ := get_is (l := l2) (i := q) (by rw [HN2.out]; omega)
              obtain ⟨b, o, rfl, d0, d1, d2, d3, d4⟩ := at_l (K_r211.out.below BW3.out) hx
              obtain ⟨s', W', hrun, hO', hB'⟩ := app_val BW3.out.size HOV.out (fun x hx => K_r211.out.wf x (List.mem_of_mem_drop (List.mem_reverse.mp hx))) (by rw [List.length_reverse, List.length_drop, HN2.out]; omega) x (K_r211.out.wf x (List.mem_of_getElem? hx))
              have HRUN := Lib.hid hrun
              have HO' := Lib.hid hO'
              have HB' := Lib.hid (BW3.out.trans hB')
              have HX := Lib.hid hx
              clear hrun hO' hB' hx
              go_wp2_with (at_builtin; refine append_stepW rfl _ _ 22 rfl _ _ _ _ rfl rfl HRUN.out ?_)
              go_roundg q
              case measure => omega
              case rel => exact ⟨q, _, rfl, rfl, by omega, Nat.le_refl _, Lib.hid (by rw [drop_rev HX.out]; exact HO'.out), HB'⟩
    · obtain ⟨q, rfl⟩ : ∃ q, p = q + 1 := ⟨p - 1, by omega⟩
      obtain rfl : j = (q : Int) := by omega
      clear hj
      have hq0 : 0 ≤ (q : Int) := by omega
      have hqn : (q : Int) < (n1 : Int) := by omega
      have hqz : ¬ n1 ≤ q := by omega
      obtain ⟨y, hy⟩ : ∃ y, l1[q]? = some y := ⟨l1[q]'(by rw [HN1.out]; omega), by simp⟩
      obtain ⟨b', o', rfl, hc, hb'⟩ := at_i (C_r6.out.below BW.out) hy
      obtain ⟨s', W', hrun, hO', hB'⟩ := app_int BW.out.size HOW.out (by rw [List.length_reverse, List.length_drop, HN1.out]; omega) y
      have HRUN := Lib.hid hrun
      have HO' := Lib.hid hO'
      have HB' := Lib.hid (BW.out.trans hB')
      have HY := Lib.hid hy
      clear hrun hO' hB' hy
      go_wp2_with (at_builtin; refine append_stepW rfl _ _ 28 rfl _ _ _ _ rfl rfl HRUN.out ?_)
      go_roundg q
      case measure => omega
      case rel => exact ⟨q, _, rfl, rfl, by omega, Nat.le_refl _, Lib.hid (by rw [drop_rev HY.out]; exact HO'.out), HB'⟩

theorem turned_law (a0 : Option Addr) (c0 n0 : Nat) (l0 : List Val) (a1 : Option Addr) (c1 n1 : Nat) (l1 : List Int) (a2 : Option Addr) (c2 n2 : Nat) (l2 : List Val) (hn0 : l0.length = n0) (hn1 : l1.length = n1) (hn2 : l2.length = n2) (w : World) (hs0 : SlL w a0 c0 l0) (hs1 : SlI w a1 c1 l1) (hs2 : SlL w a2 c2 l2) :
    Calls Try.prog 5 #[.slice a0 n0 c0, .slice a1 n1 c1, .slice a2 n2 c2] w fun e w' => e = .returned (.bool true) ∧ Below w.heap.size w w' := by
  cases hz0 : longB l0
  · cases hz2 : longB l2
    · by_cases h60 : 60 < n1
      · exact turned_3 a0 c0 n0 l0 a1 c1 n1 l1 a2 c2 n2 l2 hn0 hn1 hn2 w hs0 hs1 hs2 hz0 hz2 h60
      · cases hm : mayC l1 n0
        · exact turned_4 a0 c0 n0 l0 a1 c1 n1 l1 a2 c2 n2 l2 hn0 hn1 hn2 w hs0 hs1 hs2 hz0 hz2 (by omega) hm
        · exact turned_5 a0 c0 n0 l0 a1 c1 n1 l1 a2 c2 n2 l2 hn0 hn1 hn2 w hs0 hs1 hs2 hz0 hz2 (by omega) hm
    · exact turned_2 a0 c0 n0 l0 a1 c1 n1 l1 a2 c2 n2 l2 hn0 hn1 hn2 w hs0 hs1 hs2 hz0 hz2
  · exact turned_1 a0 c0 n0 l0 a1 c1 n1 l1 a2 c2 n2 l2 hn0 hn1 hn2 w hs0 hs1 hs2 hz0

end Go.Proofs.Ytenpjfkiehcjlaa
