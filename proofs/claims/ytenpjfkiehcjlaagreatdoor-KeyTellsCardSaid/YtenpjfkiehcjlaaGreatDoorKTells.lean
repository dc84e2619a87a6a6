/-
  The law KeyTells, walked.
-/
import Derived.Test.YtenpjfkiehcjlaaGreatDoorKRef2
namespace Go.Proofs.YtenpjfkiehcjlaaGreatDoor
open Go.RowKit

theorem nilL (w : World) : SlL w none 0 [] := SlL.nil w none 0 (by decide)

set_option maxRecDepth 100000 in
set_option maxHeartbeats 8000000 in
theorem tells_1 (a0 : Option Addr) (c0 n0 : Nat) (l0 : List Val) (a1 : Option Addr) (c1 n1 : Nat) (l1 : List Int) (a2 : Option Addr) (c2 n2 : Nat) (l2 : List Val) (x3 : Int) (hn0 : l0.length = n0) (hn1 : l1.length = n1) (hn2 : l2.length = n2) (w : World) (hg : GoodT w) (hs0 : SlL w a0 c0 l0) (hs1 : SlI w a1 c1 l1) (hs2 : SlL w a2 c2 l2) (hz0 : longB l0 = true) :
    Calls Tryz.prog 3 #[.slice a0 n0 c0, .slice a1 n1 c1, .slice a2 n2 c2, .int .i64 x3] w fun e w' => e = .returned (.bool true) ∧ Below w.heap.size w w' := by
  have B1 : Hid (Below w.heap.size w w) := Lib.hid (Below.refl _ _)
  have HA0 := Lib.hid hs0
  have HA1 := Lib.hid hs1
  have HA2 := Lib.hid hs2
  have HN0 := Lib.hid hn0
  have HN1 := Lib.hid hn1
  have HN2 := Lib.hid hn2
  have HGG := Lib.hid hg
  have HZ0 := Lib.hid hz0
  clear hs0 hs1 hs2 hn0 hn1 hn2 hg hz0
  go_enter Tryz.func3, Tryz.ntmps3
  have hcon := long_is a0 c0 n0 l0 true HN0.out HZ0.out _ (HA0.out.below B1.out)
  go_wp2_with fail
  refine (show Calls Tryz.prog _ _ _ _ from hcon).mono ?_
  rintro e w1 ⟨rfl, hb1⟩
  have B2 := Lib.hid (below_tr B1.out hb1)
  clear B1
  clear hcon hb1
  have hcon := awake_is w1
  go_wp2_with fail
  refine (show Calls Tryz.prog _ _ _ _ from hcon).mono ?_
  rintro e w2 ⟨rfl, hb2⟩
  have B3 := Lib.hid (below_tr B2.out hb2)
  clear B2
  clear hcon hb2
  go_wp2_with fail
  go_ret
  exact ⟨rfl, B3.out⟩

set_option maxRecDepth 100000 in
set_option maxHeartbeats 8000000 in
theorem tells_2 (a0 : Option Addr) (c0 n0 : Nat) (l0 : List Val) (a1 : Option Addr) (c1 n1 : Nat) (l1 : List Int) (a2 : Option Addr) (c2 n2 : Nat) (l2 : List Val) (x3 : Int) (hn0 : l0.length = n0) (hn1 : l1.length = n1) (hn2 : l2.length = n2) (w : World) (hg : GoodT w) (hs0 : SlL w a0 c0 l0) (hs1 : SlI w a1 c1 l1) (hs2 : SlL w a2 c2 l2) (hz0 : longB l0 = false) (hz2 : longB l2 = true) :
    Calls Tryz.prog 3 #[.slice a0 n0 c0, .slice a1 n1 c1, .slice a2 n2 c2, .int .i64 x3] w fun e w' => e = .returned (.bool true) ∧ Below w.heap.size w w' := by
  have B1 : Hid (Below w.heap.size w w) := Lib.hid (Below.refl _ _)
  have HA0 := Lib.hid hs0
  have HA1 := Lib.hid hs1
  have HA2 := Lib.hid hs2
  have HN0 := Lib.hid hn0
  have HN1 := Lib.hid hn1
  have HN2 := Lib.hid hn2
  have HGG := Lib.hid hg
  have HZ0 := Lib.hid hz0
  have HZ2 := Lib.hid hz2
  clear hs0 hs1 hs2 hn0 hn1 hn2 hg hz0 hz2
  go_enter Tryz.func3, Tryz.ntmps3
  have hcon := long_is a0 c0 n0 l0 false HN0.out HZ0.out _ (HA0.out.below B1.out)
  go_wp2_with fail
  refine (show Calls Tryz.prog _ _ _ _ from hcon).mono ?_
  rintro e w1 ⟨rfl, hb1⟩
  have B2 := Lib.hid (below_tr B1.out hb1)
  clear B1
  clear hcon hb1
  have hcon := long_is a2 c2 n2 l2 true HN2.out HZ2.out _ (HA2.out.below B2.out)
  go_wp2_with fail
  refine (show Calls Tryz.prog _ _ _ _ from hcon).mono ?_
  rintro e w2 ⟨rfl, hb2⟩
  have B3 := Lib.hid (below_tr B2.out hb2)
  clear B2
  clear hcon hb2
  have hcon := awake_is w2
  go_wp2_with fail
  refine (show Calls Tryz.prog _ _ _ _ from hcon).mono ?_
  rintro e w3 ⟨rfl, hb3⟩
  have B4 := Lib.hid (below_tr B3.out hb3)
  clear B3
  clear hcon hb3
  go_wp2_with fail
  go_ret
  exact ⟨rfl, B4.out⟩

set_option maxRecDepth 100000 in
set_option maxHeartbeats 8000000 in
theorem tells_3 (a0 : Option Addr) (c0 n0 : Nat) (l0 : List Val) (a1 : Option Addr) (c1 n1 : Nat) (l1 : List Int) (a2 : Option Addr) (c2 n2 : Nat) (l2 : List Val) (x3 : Int) (hn0 : l0.length = n0) (hn1 : l1.length = n1) (hn2 : l2.length = n2) (w : World) (hg : GoodT w) (hs0 : SlL w a0 c0 l0) (hs1 : SlI w a1 c1 l1) (hs2 : SlL w a2 c2 l2) (hz0 : longB l0 = false) (hz2 : longB l2 = false) (h60 : 60 < n1) :
    Calls Tryz.prog 3 #[.slice a0 n0 c0, .slice a1 n1 c1, .slice a2 n2 c2, .int .i64 x3] w fun e w' => e = .returned (.bool true) ∧ Below w.heap.size w w' := by
  have B1 : Hid (Below w.heap.size w w) := Lib.hid (Below.refl _ _)
  have HA0 := Lib.hid hs0
  have HA1 := Lib.hid hs1
  have HA2 := Lib.hid hs2
  have HN0 := Lib.hid hn0
  have HN1 := Lib.hid hn1
  have HN2 := Lib.hid hn2
  have HGG := Lib.hid hg
  have HZ0 := Lib.hid hz0
  have HZ2 := Lib.hid hz2
  clear hs0 hs1 hs2 hn0 hn1 hn2 hg hz0 hz2
  have h60z : 60 < (n1 : Int) := by omega
  go_enter Tryz.func3, Tryz.ntmps3
  have hcon := long_is a0 c0 n0 l0 false HN0.out HZ0.out _ (HA0.out.below B1.out)
  go_wp2_with fail
  refine (show Calls Tryz.prog _ _ _ _ from hcon).mono ?_
  rintro e w1 ⟨rfl, hb1⟩
  have B2 := Lib.hid (below_tr B1.out hb1)
  clear B1
  clear hcon hb1
  have hcon := long_is a2 c2 n2 l2 false HN2.out HZ2.out _ (HA2.out.below B2.out)
  go_wp2_with fail
  refine (show Calls Tryz.prog _ _ _ _ from hcon).mono ?_
  rintro e w2 ⟨rfl, hb2⟩
  have B3 := Lib.hid (below_tr B2.out hb2)
  clear B2
  clear hcon hb2
  have hcon := awake_is w2
  go_wp2_with fail
  refine (show Calls Tryz.prog _ _ _ _ from hcon).mono ?_
  rintro e w3 ⟨rfl, hb3⟩
  have B4 := Lib.hid (below_tr B3.out hb3)
  clear B3
  clear hcon hb3
  go_wp2_with fail
  go_ret
  exact ⟨rfl, B4.out⟩

set_option maxRecDepth 100000 in
set_option maxHeartbeats 8000000 in
theorem tells_4 (a0 : Option Addr) (c0 n0 : Nat) (l0 : List Val) (a1 : Option Addr) (c1 n1 : Nat) (l1 : List Int) (a2 : Option Addr) (c2 n2 : Nat) (l2 : List Val) (x3 : Int) (hn0 : l0.length = n0) (hn1 : l1.length = n1) (hn2 : l2.length = n2) (w : World) (hg : GoodT w) (hs0 : SlL w a0 c0 l0) (hs1 : SlI w a1 c1 l1) (hs2 : SlL w a2 c2 l2) (hz0 : longB l0 = false) (hz2 : longB l2 = false) (h60 : n1 ≤ 60) (hm : mayC l1 n0 = false) :
    Calls Tryz.prog 3 #[.slice a0 n0 c0, .slice a1 n1 c1, .slice a2 n2 c2, .int .i64 x3] w fun e w' => e = .returned (.bool true) ∧ Below w.heap.size w w' := by
  have B1 : Hid (Below w.heap.size w w) := Lib.hid (Below.refl _ _)
  have HA0 := Lib.hid hs0
  have HA1 := Lib.hid hs1
  have HA2 := Lib.hid hs2
  have HN0 := Lib.hid hn0
  have HN1 := Lib.hid hn1
  have HN2 := Lib.hid hn2
  have HGG := Lib.hid hg
  have HZ0 := Lib.hid hz0
  have HZ2 := Lib.hid hz2
  have HM := Lib.hid hm
  clear hs0 hs1 hs2 hn0 hn1 hn2 hg hz0 hz2 hm
  have hb0 : n0 ≤ 60 := by rw [← HN0.out]; exact (long_not HZ0.out).1
  have hb2 : n2 ≤ 60 := by rw [← HN2.out]; exact (long_not HZ2.out).1
  have h60z : ¬ 60 < (n1 : Int) := by omega
  have HW0 := Lib.hid HA0.out.wf
  have HW2 := Lib.hid HA2.out.wf
  go_enter Tryz.func3, Tryz.ntmps3
  have hcon := long_is a0 c0 n0 l0 false HN0.out HZ0.out _ (HA0.out.below B1.out)
  go_wp2_with fail
  refine (show Calls Tryz.prog _ _ _ _ from hcon).mono ?_
  rintro e w1 ⟨rfl, hb1⟩
  have B2 := Lib.hid (below_tr B1.out hb1)
  clear B1
  clear hcon hb1
  have hcon := long_is a2 c2 n2 l2 false HN2.out HZ2.out _ (HA2.out.below B2.out)
  go_wp2_with fail
  refine (show Calls Tryz.prog _ _ _ _ from hcon).mono ?_
  rintro e w2 ⟨rfl, hb2⟩
  have B3 := Lib.hid (below_tr B2.out hb2)
  clear B2
  clear hcon hb2
  obtain ⟨ar, cr, W1, r1, s1, b1⟩ := one_app (HA0.out.below B3.out) (by rw [HN0.out]; omega)
  obtain ⟨ac, cc, W2, r2, s2, b2⟩ := one_appI ((HA1.out.below B3.out).below b1) (by rw [HN1.out]; omega)
  obtain ⟨av, cv, W3, r3, s3, b3⟩ := one_app ((HA2.out.below B3.out).below (below_tr b1 b2)) (by rw [HN2.out]; omega)
  rw [HN0.out] at r1
  rw [HN1.out] at r2
  rw [HN2.out] at r3
  have R1 := Lib.hid r1
  have R2 := Lib.hid r2
  have R3 := Lib.hid r3
  have RC := Lib.hid (s1.below (below_tr b2 b3))
  have CC := Lib.hid (s2.below b3)
  have VC := Lib.hid s3
  have b4 := below_tr (below_tr b1 b2) b3
  clear r1 r2 r3 s1 s2 s3 b1 b2 b3
  have B4 := Lib.hid (below_tr B3.out b4)
  clear B3
  clear b4
  have R_r5 := Lib.hid (HA0.out.below B4.out)
  have C_r5 := Lib.hid (HA1.out.below B4.out)
  have K_r5 := Lib.hid (HA2.out.below B4.out)
  have G_r5 := Lib.hid (HGG.out.below B4.out)
  have RC_r5 := Lib.hid (RC.out)
  have CC_r5 := Lib.hid (CC.out)
  have VC_r5 := Lib.hid (VC.out)
  have HB5 := B4
  clear HA0 HA1 HA2 HGG RC CC VC B4
  have B6 : Hid (Below W3.heap.size W3 W3) := Lib.hid (Below.refl _ _)
  go_wp2_with (at_builtin; first | (refine append_dst 36 rfl ?_; refine append_stepW rfl _ _ 22 rfl _ _ _ _ rfl rfl R1.out ?_) | (refine append_dst 39 rfl ?_; refine append_stepW rfl _ _ 23 rfl _ _ _ _ rfl rfl R2.out ?_) | (refine append_dst 42 rfl ?_; refine append_stepW rfl _ _ 22 rfl _ _ _ _ rfl rfl R3.out ?_))
  go_loopg [12, 13, 14, 15, 16, 17, 18, 19, 20] 2 (fun gg s12 _ _ _ _ _ _ _ _ wr => ∃ i : Nat, s12 = .int .i64 i ∧ i ≤ 2 ∧ 2 - i ≤ gg ∧ Hid (Below W3.heap.size W3 wr))
  case atStart => exact ⟨0, rfl, Nat.zero_le _, by omega, B6⟩
  case round =>
    obtain ⟨i, rfl, hi2, hgg, BW⟩ := hrel
    by_cases hlt : i < 2
    · have hltz : (i : Int) < 2 := by omega
      have hcon := of_no ar ac cr cc n0 n1 l1 HN1.out (by omega) HM.out _ (CC_r5.out.below BW.out)
      go_wp2_with fail
      refine (show Calls Tryz.prog _ _ _ _ from hcon).mono ?_
      rintro e w3 ⟨rfl, hb3⟩
      have B107 := Lib.hid (below_tr BW.out hb3)
      clear BW
      clear hcon hb3
      have hcon := rof_no a0 a1 c0 c1 n0 n1 l1 HN1.out (by omega) HM.out _ (C_r5.out.below B107.out)
      go_wp2_with fail
      refine (show Calls Tryz.prog _ _ _ _ from hcon).mono ?_
      rintro e w4 ⟨rfl, hb4⟩
      have B108 := Lib.hid (below_tr B107.out hb4)
      clear B107
      clear hcon hb4
      have hcon := set_no1 ar ac av cr cc cv n0 n1 n2 l1 HN1.out (by omega) HM.out _ (CC_r5.out.below B108.out)
      go_wp2_with fail
      refine (show Calls Tryz.prog _ _ _ _ from hcon).mono ?_
      rintro e w5 ⟨rfl, hb5⟩
      have B109 := Lib.hid (below_tr B108.out hb5)
      clear B108
      clear hcon hb5
      have hcon := rset_no1 a0 a1 a2 c0 c1 c2 n0 n1 n2 l1 HN1.out (by omega) HM.out _ (C_r5.out.below B109.out)
      go_wp2_with fail
      refine (show Calls Tryz.prog _ _ _ _ from hcon).mono ?_
      rintro e w6 ⟨rfl, hb6⟩
      have B110 := Lib.hid (below_tr B109.out hb6)
      clear B109
      clear hcon hb6
      have hcon := same4_is none none 0 0 0 0 [] [] true rfl rfl (by decide) w6 (nilL _) (nilL _)
      go_wp2_with fail
      refine (show Calls Tryz.prog _ _ _ _ from hcon).mono ?_
      rintro e w7 ⟨rfl, hb7⟩
      have B111 := Lib.hid (below_tr B110.out hb7)
      clear B110
      clear hcon hb7
      have hcon := same4_is none none 0 0 0 0 [] [] true rfl rfl (by decide) w7 (nilL _) (nilL _)
      go_wp2_with fail
      refine (show Calls Tryz.prog _ _ _ _ from hcon).mono ?_
      rintro e w8 ⟨rfl, hb8⟩
      have B112 := Lib.hid (below_tr B111.out hb8)
      clear B111
      clear hcon hb8
      have hcon := spoil_nil none 0 w8
      go_wp2_with fail
      refine (show Calls Tryz.prog _ _ _ _ from hcon).mono ?_
      rintro e w9 ⟨rfl, hb9⟩
      have B113 := Lib.hid (below_tr B112.out hb9)
      clear B112
      clear hcon hb9
      have hcon := spoil_nil none 0 w9
      go_wp2_with fail
      refine (show Calls Tryz.prog _ _ _ _ from hcon).mono ?_
      rintro e w10 ⟨rfl, hb10⟩
      have B114 := Lib.hid (below_tr B113.out hb10)
      clear B113
      clear hcon hb10
      go_wp2_with fail
      go_roundg (2 - (i + 1))
      case measure => omega
      case rel => exact ⟨i + 1, by go_num, by omega, Nat.le_refl _, B114⟩
    · have hltz : ¬ (i : Int) < 2 := by omega
      obtain ⟨zM, hzM⟩ : ∃ z, mayC l1 x3.toNat = z := ⟨_, rfl⟩
      have HZM := Lib.hid hzM
      obtain ⟨zW, hzW⟩ : ∃ z, wholeV l2 = z := ⟨_, rfl⟩
      have HZW := Lib.hid hzW
      obtain ⟨zR, hzR⟩ : ∃ z, sameV (ofL Val.zero l0 l1) l2 = z := ⟨_, rfl⟩
      have HZR := Lib.hid hzR
      obtain ⟨zS, hzS⟩ : ∃ z, sameV l0 l2 = z := ⟨_, rfl⟩
      have HZS := Lib.hid hzS
      obtain ⟨t, ht⟩ : ∃ t : ByteArray, (⟨(rowT l2).toArray⟩ : ByteArray) = t := ⟨_, rfl⟩
      have HT : Hid (rowT l2 = t.data.toList) := Lib.hid (by rw [← ht])
      clear hzM hzW hzR hzS ht
      have hcon := kmay_is ac cc n1 l1 x3 zM HN1.out (by omega) HZM.out _ (CC_r5.out.below BW.out)
      go_wp2_with fail
      refine (show Calls Tryz.prog _ _ _ _ from hcon).mono ?_
      rintro e w3 ⟨rfl, hb3⟩
      have B107 := Lib.hid (below_tr BW.out hb3)
      clear BW
      clear hcon hb3
      have hcon := rkmay_is a1 c1 n1 l1 x3 zM HN1.out (by omega) HZM.out _ (C_r5.out.below B107.out)
      go_wp2_with fail
      refine (show Calls Tryz.prog _ _ _ _ from hcon).mono ?_
      rintro e w4 ⟨rfl, hb4⟩
      have B108 := Lib.hid (below_tr B107.out hb4)
      clear B107
      clear hcon hb4
      have hcon := whole_is av cv n2 l2 zW HN2.out (by omega) HZW.out _ (VC_r5.out.below B108.out)
      go_wp2_with fail
      refine (show Calls Tryz.prog _ _ _ _ from hcon).mono ?_
      rintro e w5 ⟨rfl, hb5⟩
      have B109 := Lib.hid (below_tr B108.out hb5)
      clear B108
      clear hcon hb5
      have hcon := rwhole_is a2 c2 n2 l2 zW HN2.out (by omega) HZW.out _ (K_r5.out.below B109.out)
      go_wp2_with fail
      refine (show Calls Tryz.prog _ _ _ _ from hcon).mono ?_
      rintro e w6 ⟨rfl, hb6⟩
      have B110 := Lib.hid (below_tr B109.out hb6)
      clear B109
      clear hcon hb6
      have hcon := refers_no ar ac av cr cc cv n0 n1 n2 l1 HN1.out (by omega) HM.out _ (CC_r5.out.below B110.out)
      go_wp2_with fail
      refine (show Calls Tryz.prog _ _ _ _ from hcon).mono ?_
      rintro e w7 ⟨rfl, hb7⟩
      have B111 := Lib.hid (below_tr B110.out hb7)
      clear B110
      clear hcon hb7
      have hcon := rrefers_no a0 a1 a2 c0 c1 c2 n0 n1 n2 l1 HN1.out (by omega) HM.out _ (C_r5.out.below B111.out)
      go_wp2_with fail
      refine (show Calls Tryz.prog _ _ _ _ from hcon).mono ?_
      rintro e w8 ⟨rfl, hb8⟩
      have B112 := Lib.hid (below_tr B111.out hb8)
      clear B111
      clear hcon hb8
      have hcon := ksame_is ar av cr cv n0 n2 l0 l2 zS HN0.out HN2.out (by omega) (by omega) HZS.out _ (RC_r5.out.below B112.out) (VC_r5.out.below B112.out)
      go_wp2_with fail
      refine (show Calls Tryz.prog _ _ _ _ from hcon).mono ?_
      rintro e w9 ⟨rfl, hb9⟩
      have B113 := Lib.hid (below_tr B112.out hb9)
      clear B112
      clear hcon hb9
      have hcon := rksame_is a0 a2 c0 c2 n0 n2 l0 l2 zS HN0.out HN2.out (by omega) (by omega) HZS.out _ (R_r5.out.below B113.out) (K_r5.out.below B113.out)
      go_wp2_with fail
      refine (show Calls Tryz.prog _ _ _ _ from hcon).mono ?_
      rintro e w10 ⟨rfl, hb10⟩
      have B114 := Lib.hid (below_tr B113.out hb10)
      clear B113
      clear hcon hb10
      have hcon := ktext_is av cv n2 l2 t HN2.out hb2 HT.out _ (G_r5.out.below B114.out) (VC_r5.out.below B114.out)
      go_wp2_with fail
      refine (show Calls Tryz.prog _ _ _ _ from hcon).mono ?_
      rintro e w11 ⟨rfl, hb11⟩
      have B115 := Lib.hid (below_tr B114.out hb11)
      clear B114
      clear hcon hb11
      have hcon := rktext_is a2 c2 n2 l2 t HN2.out hb2 HT.out _ (K_r5.out.below B115.out)
      go_wp2_with fail
      refine (show Calls Tryz.prog _ _ _ _ from hcon).mono ?_
      rintro e w12 ⟨rfl, hb12⟩
      have B116 := Lib.hid (below_tr B115.out hb12)
      clear B115
      clear hcon hb12
      have R_r117 := Lib.hid (R_r5.out.below B116.out)
      have C_r117 := Lib.hid (C_r5.out.below B116.out)
      have K_r117 := Lib.hid (K_r5.out.below B116.out)
      have G_r117 := Lib.hid (G_r5.out.below B116.out)
      have RC_r117 := Lib.hid (RC_r5.out.below B116.out)
      have CC_r117 := Lib.hid (CC_r5.out.below B116.out)
      have VC_r117 := Lib.hid (VC_r5.out.below B116.out)
      have HB117 := Lib.hid (below_tr HB5.out B116.out)
      clear R_r5 C_r5 K_r5 G_r5 RC_r5 CC_r5 VC_r5 HB5 B116
      have B118 : Hid (Below w12.heap.size w12 w12) := Lib.hid (Below.refl _ _)
      go_wp2_with fail
      go_loopg [21] n1 (fun gg s21 wr => ∃ i : Nat, s21 = .int .i64 i ∧ i ≤ n1 ∧ n1 - i ≤ gg ∧ Hid (Below w12.heap.size w12 wr))
      case atStart => exact ⟨0, rfl, Nat.zero_le _, by omega, B118⟩
      case round =>
        obtain ⟨j, rfl, hjn, hgg2, BV⟩ := hrel
        by_cases hjl : j < n1
        · have hjz : (j : Int) < (n1 : Int) := by omega
          have z2 : ¬ n1 ≤ j := by omega
          obtain ⟨y, hy⟩ : ∃ y, l1[j]? = some y := ⟨l1[j]'(by rw [HN1.out]; exact hjl), by simp⟩
          obtain ⟨bq, oq, rfl, q1, q2⟩ := at_i (CC_r117.out.below BV.out) hy
          obtain ⟨bp, op, rfl, p1, p2⟩ := at_i (C_r117.out.below BV.out) hy
          clear hy
          go_wp2_with fail
          go_quiet (fail)
          go_wp2_with fail
          go_roundg (n1 - (j + 1))
          case measure => omega
          case rel => exact ⟨j + 1, by go_num, by omega, Nat.le_refl _, Lib.hid (BV.out.trans ((drewN_below _ _).mono BV.out.size))⟩
        · have hjz : ¬ (j : Int) < (n1 : Int) := by omega
          have hcon := same4_is ar a0 cr c0 n0 n0 l0 l0 true HN0.out HN0.out (by simp) _ (RC_r117.out.below BV.out) (R_r117.out.below BV.out)
          go_wp2_with fail
          refine (show Calls Tryz.prog _ _ _ _ from hcon).mono ?_
          rintro e w13 ⟨rfl, hb13⟩
          have B219 := Lib.hid (below_tr BV.out hb13)
          clear BV
          clear hcon hb13
          have hcon := same4_is av a2 cv c2 n2 n2 l2 l2 true HN2.out HN2.out (by simp) _ (VC_r117.out.below B219.out) (K_r117.out.below B219.out)
          go_wp2_with fail
          refine (show Calls Tryz.prog _ _ _ _ from hcon).mono ?_
          rintro e w14 ⟨rfl, hb14⟩
          have B220 := Lib.hid (below_tr B219.out hb14)
          clear B219
          clear hcon hb14
          have hcon := awake_is w14
          go_wp2_with fail
          refine (show Calls Tryz.prog _ _ _ _ from hcon).mono ?_
          rintro e w15 ⟨rfl, hb15⟩
          have B221 := Lib.hid (below_tr B220.out hb15)
          clear B220
          clear hcon hb15
          go_wp2_with fail
          go_ret
          exact ⟨rfl, (below_tr HB117.out B221.out)⟩

set_option maxRecDepth 100000 in
set_option maxHeartbeats 8000000 in
theorem tells_5 (a0 : Option Addr) (c0 n0 : Nat) (l0 : List Val) (a1 : Option Addr) (c1 n1 : Nat) (l1 : List Int) (a2 : Option Addr) (c2 n2 : Nat) (l2 : List Val) (x3 : Int) (hn0 : l0.length = n0) (hn1 : l1.length = n1) (hn2 : l2.length = n2) (w : World) (hg : GoodT w) (hs0 : SlL w a0 c0 l0) (hs1 : SlI w a1 c1 l1) (hs2 : SlL w a2 c2 l2) (hz0 : longB l0 = false) (hz2 : longB l2 = false) (h60 : n1 ≤ 60) (hm : mayC l1 n0 = true) (hne : n2 ≠ n1) :
    Calls Tryz.prog 3 #[.slice a0 n0 c0, .slice a1 n1 c1, .slice a2 n2 c2, .int .i64 x3] w fun e w' => e = .returned (.bool true) ∧ Below w.heap.size w w' := by
  have B1 : Hid (Below w.heap.size w w) := Lib.hid (Below.refl _ _)
  have HA0 := Lib.hid hs0
  have HA1 := Lib.hid hs1
  have HA2 := Lib.hid hs2
  have HN0 := Lib.hid hn0
  have HN1 := Lib.hid hn1
  have HN2 := Lib.hid hn2
  have HGG := Lib.hid hg
  have HZ0 := Lib.hid hz0
  have HZ2 := Lib.hid hz2
  have HM := Lib.hid hm
  clear hs0 hs1 hs2 hn0 hn1 hn2 hg hz0 hz2 hm
  have hb0 : n0 ≤ 60 := by rw [← HN0.out]; exact (long_not HZ0.out).1
  have hb2 : n2 ≤ 60 := by rw [← HN2.out]; exact (long_not HZ2.out).1
  have h60z : ¬ 60 < (n1 : Int) := by omega
  have HW0 := Lib.hid HA0.out.wf
  have HW2 := Lib.hid HA2.out.wf
  go_enter Tryz.func3, Tryz.ntmps3
  have hcon := long_is a0 c0 n0 l0 false HN0.out HZ0.out _ (HA0.out.below B1.out)
  go_wp2_with fail
  refine (show Calls Tryz.prog _ _ _ _ from hcon).mono ?_
  rintro e w1 ⟨rfl, hb1⟩
  have B2 := Lib.hid (below_tr B1.out hb1)
  clear B1
  clear hcon hb1
  have hcon := long_is a2 c2 n2 l2 false HN2.out HZ2.out _ (HA2.out.below B2.out)
  go_wp2_with fail
  refine (show Calls Tryz.prog _ _ _ _ from hcon).mono ?_
  rintro e w2 ⟨rfl, hb2⟩
  have B3 := Lib.hid (below_tr B2.out hb2)
  clear B2
  clear hcon hb2
  obtain ⟨ar, cr, W1, r1, s1, b1⟩ := one_app (HA0.out.below B3.out) (by rw [HN0.out]; omega)
  obtain ⟨ac, cc, W2, r2, s2, b2⟩ := one_appI ((HA1.out.below B3.out).below b1) (by rw [HN1.out]; omega)
  obtain ⟨av, cv, W3, r3, s3, b3⟩ := one_app ((HA2.out.below B3.out).below (below_tr b1 b2)) (by rw [HN2.out]; omega)
  rw [HN0.out] at r1
  rw [HN1.out] at r2
  rw [HN2.out] at r3
  have R1 := Lib.hid r1
  have R2 := Lib.hid r2
  have R3 := Lib.hid r3
  have RC := Lib.hid (s1.below (below_tr b2 b3))
  have CC := Lib.hid (s2.below b3)
  have VC := Lib.hid s3
  have b4 := below_tr (below_tr b1 b2) b3
  clear r1 r2 r3 s1 s2 s3 b1 b2 b3
  have B4 := Lib.hid (below_tr B3.out b4)
  clear B3
  clear b4
  have R_r5 := Lib.hid (HA0.out.below B4.out)
  have C_r5 := Lib.hid (HA1.out.below B4.out)
  have K_r5 := Lib.hid (HA2.out.below B4.out)
  have G_r5 := Lib.hid (HGG.out.below B4.out)
  have RC_r5 := Lib.hid (RC.out)
  have CC_r5 := Lib.hid (CC.out)
  have VC_r5 := Lib.hid (VC.out)
  have HB5 := B4
  clear HA0 HA1 HA2 HGG RC CC VC B4
  have B6 : Hid (Below W3.heap.size W3 W3) := Lib.hid (Below.refl _ _)
  go_wp2_with (at_builtin; first | (refine append_dst 36 rfl ?_; refine append_stepW rfl _ _ 22 rfl _ _ _ _ rfl rfl R1.out ?_) | (refine append_dst 39 rfl ?_; refine append_stepW rfl _ _ 23 rfl _ _ _ _ rfl rfl R2.out ?_) | (refine append_dst 42 rfl ?_; refine append_stepW rfl _ _ 22 rfl _ _ _ _ rfl rfl R3.out ?_))
  go_loopg [12, 13, 14, 15, 16, 17, 18, 19, 20] 2 (fun gg s12 _ _ _ _ _ _ _ _ wr => ∃ i : Nat, s12 = .int .i64 i ∧ i ≤ 2 ∧ 2 - i ≤ gg ∧ Hid (Below W3.heap.size W3 wr))
  case atStart => exact ⟨0, rfl, Nat.zero_le _, by omega, B6⟩
  case round =>
    obtain ⟨i, rfl, hi2, hgg, BW⟩ := hrel
    by_cases hlt : i < 2
    · have hltz : (i : Int) < 2 := by omega
      have hws := BW.out.size
      have hcon := of_is ar ac cr cc n0 n1 l0 l1 HN0.out HN1.out (by omega) HM.out _ (RC_r5.out.below BW.out) (CC_r5.out.below BW.out)
      go_wp2_with fail
      refine (show Calls Tryz.prog _ _ _ _ from hcon).mono ?_
      rintro e w3 ⟨ga, rfl, hga, hO, hb3⟩
      have B107 := Lib.hid (below_tr BW.out hb3)
      clear BW
      clear hcon hb3
      have A_n3 := Lib.hid hO
      clear hO
      have HGA : Hid (W3.heap.size ≤ ga) := Lib.hid (Nat.le_trans hws hga)
      clear hga
      have hcon := rof_is a0 a1 c0 c1 n0 n1 l0 l1 HN0.out HN1.out (by omega) HM.out _ (R_r5.out.below B107.out) (C_r5.out.below B107.out)
      go_wp2_with fail
      refine (show Calls Tryz.prog _ _ _ _ from hcon).mono ?_
      rintro e w4 ⟨ab, cb, rfl, hO, hb4⟩
      have A_108 := Lib.hid (A_n3.out.below hb4)
      have B108 := Lib.hid (below_tr B107.out hb4)
      clear A_n3 B107
      clear hcon hb4
      have BF_n4 := Lib.hid hO
      clear hO
      have hcon := set_no2 ar ac av cr cc cv n0 n1 n2 l1 HN1.out (by omega) HM.out hne _ (CC_r5.out.below B108.out)
      go_wp2_with fail
      refine (show Calls Tryz.prog _ _ _ _ from hcon).mono ?_
      rintro e w5 ⟨rfl, hb5⟩
      have A_109 := Lib.hid (A_108.out.below hb5)
      have BF_109 := Lib.hid (BF_n4.out.below hb5)
      have B109 := Lib.hid (below_tr B108.out hb5)
      clear A_108 BF_n4 B108
      clear hcon hb5
      have hcon := rset_no2 a0 a1 a2 c0 c1 c2 n0 n1 n2 l1 HN1.out (by omega) HM.out hne _ (C_r5.out.below B109.out)
      go_wp2_with fail
      refine (show Calls Tryz.prog _ _ _ _ from hcon).mono ?_
      rintro e w6 ⟨rfl, hb6⟩
      have A_110 := Lib.hid (A_109.out.below hb6)
      have BF_110 := Lib.hid (BF_109.out.below hb6)
      have B110 := Lib.hid (below_tr B109.out hb6)
      clear A_109 BF_109 B109
      clear hcon hb6
      have hcon := same4_is (some ⟨ga, 0, none⟩) ab n1 cb n1 n1 (ofL Val.zero l0 l1) (ofL Val.zero l0 l1) true (by rw [length_ofL]; exact HN1.out) (by rw [length_ofL]; exact HN1.out) (by simp) _ (A_110.out.slk (k := n1) (by rw [length_ofL]; exact HN1.out) (Nat.le_refl _) (by omega) (ofL_wf HW0.out)) BF_110.out
      go_wp2_with fail
      refine (show Calls Tryz.prog _ _ _ _ from hcon).mono ?_
      rintro e w7 ⟨rfl, hb7⟩
      have A_111 := Lib.hid (A_110.out.below hb7)
      have BF_111 := Lib.hid (BF_110.out.below hb7)
      have B111 := Lib.hid (below_tr B110.out hb7)
      clear A_110 BF_110 B110
      clear hcon hb7
      have hcon := same4_is none none 0 0 0 0 [] [] true rfl rfl (by decide) w7 (nilL _) (nilL _)
      go_wp2_with fail
      refine (show Calls Tryz.prog _ _ _ _ from hcon).mono ?_
      rintro e w8 ⟨rfl, hb8⟩
      have A_112 := Lib.hid (A_111.out.below hb8)
      have BF_112 := Lib.hid (BF_111.out.below hb8)
      have B112 := Lib.hid (below_tr B111.out hb8)
      clear A_111 BF_111 B111
      clear hcon hb8
      clear BF_112
      have hcon := spoil_is ga n1 n1 (ofL Val.zero l0 l1) (by rw [length_ofL]; exact HN1.out) (by omega) _ A_112.out
      go_wp2_with fail
      refine (show Calls Tryz.prog _ _ _ _ from hcon).mono ?_
      rintro e w9 ⟨rfl, hbut⟩
      have BS113 := Lib.hid (B112.out.trans (hbut.below HGA.out A_112.out.lt))
      clear hcon hbut B112 A_112
      have hcon := spoil_nil none 0 w9
      go_wp2_with fail
      refine (show Calls Tryz.prog _ _ _ _ from hcon).mono ?_
      rintro e w10 ⟨rfl, hb10⟩
      have B114 := Lib.hid (below_tr BS113.out hb10)
      clear BS113
      clear hcon hb10
      go_wp2_with fail
      go_roundg (2 - (i + 1))
      case measure => omega
      case rel => exact ⟨i + 1, by go_num, by omega, Nat.le_refl _, B114⟩
    · have hltz : ¬ (i : Int) < 2 := by omega
      obtain ⟨zM, hzM⟩ : ∃ z, mayC l1 x3.toNat = z := ⟨_, rfl⟩
      have HZM := Lib.hid hzM
      obtain ⟨zW, hzW⟩ : ∃ z, wholeV l2 = z := ⟨_, rfl⟩
      have HZW := Lib.hid hzW
      obtain ⟨zR, hzR⟩ : ∃ z, sameV (ofL Val.zero l0 l1) l2 = z := ⟨_, rfl⟩
      have HZR := Lib.hid hzR
      obtain ⟨zS, hzS⟩ : ∃ z, sameV l0 l2 = z := ⟨_, rfl⟩
      have HZS := Lib.hid hzS
      obtain ⟨t, ht⟩ : ∃ t : ByteArray, (⟨(rowT l2).toArray⟩ : ByteArray) = t := ⟨_, rfl⟩
      have HT : Hid (rowT l2 = t.data.toList) := Lib.hid (by rw [← ht])
      clear hzM hzW hzR hzS ht
      have hcon := kmay_is ac cc n1 l1 x3 zM HN1.out (by omega) HZM.out _ (CC_r5.out.below BW.out)
      go_wp2_with fail
      refine (show Calls Tryz.prog _ _ _ _ from hcon).mono ?_
      rintro e w3 ⟨rfl, hb3⟩
      have B107 := Lib.hid (below_tr BW.out hb3)
      clear BW
      clear hcon hb3
      have hcon := rkmay_is a1 c1 n1 l1 x3 zM HN1.out (by omega) HZM.out _ (C_r5.out.below B107.out)
      go_wp2_with fail
      refine (show Calls Tryz.prog _ _ _ _ from hcon).mono ?_
      rintro e w4 ⟨rfl, hb4⟩
      have B108 := Lib.hid (below_tr B107.out hb4)
      clear B107
      clear hcon hb4
      have hcon := whole_is av cv n2 l2 zW HN2.out (by omega) HZW.out _ (VC_r5.out.below B108.out)
      go_wp2_with fail
      refine (show Calls Tryz.prog _ _ _ _ from hcon).mono ?_
      rintro e w5 ⟨rfl, hb5⟩
      have B109 := Lib.hid (below_tr B108.out hb5)
      clear B108
      clear hcon hb5
      have hcon := rwhole_is a2 c2 n2 l2 zW HN2.out (by omega) HZW.out _ (K_r5.out.below B109.out)
      go_wp2_with fail
      refine (show Calls Tryz.prog _ _ _ _ from hcon).mono ?_
      rintro e w6 ⟨rfl, hb6⟩
      have B110 := Lib.hid (below_tr B109.out hb6)
      clear B109
      clear hcon hb6
      have hcon := refers_is ar ac av cr cc cv n0 n1 n2 l0 l1 l2 zR HN0.out HN1.out HN2.out (by omega) (by omega) HM.out HZR.out _ (RC_r5.out.below B110.out) (CC_r5.out.below B110.out) (VC_r5.out.below B110.out)
      go_wp2_with fail
      refine (show Calls Tryz.prog _ _ _ _ from hcon).mono ?_
      rintro e w7 ⟨rfl, hb7⟩
      have B111 := Lib.hid (below_tr B110.out hb7)
      clear B110
      clear hcon hb7
      have hcon := rrefers_is a0 a1 a2 c0 c1 c2 n0 n1 n2 l0 l1 l2 zR HN0.out HN1.out HN2.out (by omega) (by omega) HM.out HZR.out _ (R_r5.out.below B111.out) (C_r5.out.below B111.out) (K_r5.out.below B111.out)
      go_wp2_with fail
      refine (show Calls Tryz.prog _ _ _ _ from hcon).mono ?_
      rintro e w8 ⟨rfl, hb8⟩
      have B112 := Lib.hid (below_tr B111.out hb8)
      clear B111
      clear hcon hb8
      have hcon := ksame_is ar av cr cv n0 n2 l0 l2 zS HN0.out HN2.out (by omega) (by omega) HZS.out _ (RC_r5.out.below B112.out) (VC_r5.out.below B112.out)
      go_wp2_with fail
      refine (show Calls Tryz.prog _ _ _ _ from hcon).mono ?_
      rintro e w9 ⟨rfl, hb9⟩
      have B113 := Lib.hid (below_tr B112.out hb9)
      clear B112
      clear hcon hb9
      have hcon := rksame_is a0 a2 c0 c2 n0 n2 l0 l2 zS HN0.out HN2.out (by omega) (by omega) HZS.out _ (R_r5.out.below B113.out) (K_r5.out.below B113.out)
      go_wp2_with fail
      refine (show Calls Tryz.prog _ _ _ _ from hcon).mono ?_
      rintro e w10 ⟨rfl, hb10⟩
      have B114 := Lib.hid (below_tr B113.out hb10)
      clear B113
      clear hcon hb10
      have hcon := ktext_is av cv n2 l2 t HN2.out hb2 HT.out _ (G_r5.out.below B114.out) (VC_r5.out.below B114.out)
      go_wp2_with fail
      refine (show Calls Tryz.prog _ _ _ _ from hcon).mono ?_
      rintro e w11 ⟨rfl, hb11⟩
      have B115 := Lib.hid (below_tr B114.out hb11)
      clear B114
      clear hcon hb11
      have hcon := rktext_is a2 c2 n2 l2 t HN2.out hb2 HT.out _ (K_r5.out.below B115.out)
      go_wp2_with fail
      refine (show Calls Tryz.prog _ _ _ _ from hcon).mono ?_
      rintro e w12 ⟨rfl, hb12⟩
      have B116 := Lib.hid (below_tr B115.out hb12)
      clear B115
      clear hcon hb12
      have R_r117 := Lib.hid (R_r5.out.below B116.out)
      have C_r117 := Lib.hid (C_r5.out.below B116.out)
      have K_r117 := Lib.hid (K_r5.out.below B116.out)
      have G_r117 := Lib.hid (G_r5.out.below B116.out)
      have RC_r117 := Lib.hid (RC_r5.out.below B116.out)
      have CC_r117 := Lib.hid (CC_r5.out.below B116.out)
      have VC_r117 := Lib.hid (VC_r5.out.below B116.out)
      have HB117 := Lib.hid (below_tr HB5.out B116.out)
      clear R_r5 C_r5 K_r5 G_r5 RC_r5 CC_r5 VC_r5 HB5 B116
      have B118 : Hid (Below w12.heap.size w12 w12) := Lib.hid (Below.refl _ _)
      go_wp2_with fail
      go_loopg [21] n1 (fun gg s21 wr => ∃ i : Nat, s21 = .int .i64 i ∧ i ≤ n1 ∧ n1 - i ≤ gg ∧ Hid (Below w12.heap.size w12 wr))
      case atStart => exact ⟨0, rfl, Nat.zero_le _, by omega, B118⟩
      case round =>
        obtain ⟨j, rfl, hjn, hgg2, BV⟩ := hrel
        by_cases hjl : j < n1
        · have hjz : (j : Int) < (n1 : Int) := by omega
          have z2 : ¬ n1 ≤ j := by omega
          obtain ⟨y, hy⟩ : ∃ y, l1[j]? = some y := ⟨l1[j]'(by rw [HN1.out]; exact hjl), by simp⟩
          obtain ⟨bq, oq, rfl, q1, q2⟩ := at_i (CC_r117.out.below BV.out) hy
          obtain ⟨bp, op, rfl, p1, p2⟩ := at_i (C_r117.out.below BV.out) hy
          clear hy
          go_wp2_with fail
          go_quiet (fail)
          go_wp2_with fail
          go_roundg (n1 - (j + 1))
          case measure => omega
          case rel => exact ⟨j + 1, by go_num, by omega, Nat.le_refl _, Lib.hid (BV.out.trans ((drewN_below _ _).mono BV.out.size))⟩
        · have hjz : ¬ (j : Int) < (n1 : Int) := by omega
          have hcon := same4_is ar a0 cr c0 n0 n0 l0 l0 true HN0.out HN0.out (by simp) _ (RC_r117.out.below BV.out) (R_r117.out.below BV.out)
          go_wp2_with fail
          refine (show Calls Tryz.prog _ _ _ _ from hcon).mono ?_
          rintro e w13 ⟨rfl, hb13⟩
          have B219 := Lib.hid (below_tr BV.out hb13)
          clear BV
          clear hcon hb13
          have hcon := same4_is av a2 cv c2 n2 n2 l2 l2 true HN2.out HN2.out (by simp) _ (VC_r117.out.below B219.out) (K_r117.out.below B219.out)
          go_wp2_with fail
          refine (show Calls Tryz.prog _ _ _ _ from hcon).mono ?_
          rintro e w14 ⟨rfl, hb14⟩
          have B220 := Lib.hid (below_tr B219.out hb14)
          clear B219
          clear hcon hb14
          have hcon := awake_is w14
          go_wp2_with fail
          refine (show Calls Tryz.prog _ _ _ _ from hcon).mono ?_
          rintro e w15 ⟨rfl, hb15⟩
          have B221 := Lib.hid (below_tr B220.out hb15)
          clear B220
          clear hcon hb15
          go_wp2_with fail
          go_ret
          exact ⟨rfl, (below_tr HB117.out B221.out)⟩

set_option maxRecDepth 100000 in
set_option maxHeartbeats 8000000 in
theorem tells_6 (a0 : Option Addr) (c0 n0 : Nat) (l0 : List Val) (a1 : Option Addr) (c1 n1 : Nat) (l1 : List Int) (a2 : Option Addr) (c2 : Nat) (l2 : List Val) (x3 : Int) (hn0 : l0.length = n0) (hn1 : l1.length = n1) (hn2 : l2.length = n1) (w : World) (hg : GoodT w) (hs0 : SlL w a0 c0 l0) (hs1 : SlI w a1 c1 l1) (hs2 : SlL w a2 c2 l2) (hz0 : longB l0 = false) (hz2 : longB l2 = false) (h60 : n1 ≤ 60) (hm : mayC l1 n0 = true) :
    Calls Tryz.prog 3 #[.slice a0 n0 c0, .slice a1 n1 c1, .slice a2 n1 c2, .int .i64 x3] w fun e w' => e = .returned (.bool true) ∧ Below w.heap.size w w' := by
  have B1 : Hid (Below w.heap.size w w) := Lib.hid (Below.refl _ _)
  have HA0 := Lib.hid hs0
  have HA1 := Lib.hid hs1
  have HA2 := Lib.hid hs2
  have HN0 := Lib.hid hn0
  have HN1 := Lib.hid hn1
  have HN2 := Lib.hid hn2
  have HGG := Lib.hid hg
  have HZ0 := Lib.hid hz0
  have HZ2 := Lib.hid hz2
  have HM := Lib.hid hm
  clear hs0 hs1 hs2 hn0 hn1 hn2 hg hz0 hz2 hm
  have hb0 : n0 ≤ 60 := by rw [← HN0.out]; exact (long_not HZ0.out).1
  have hb2 : n1 ≤ 60 := by rw [← HN2.out]; exact (long_not HZ2.out).1
  have h60z : ¬ 60 < (n1 : Int) := by omega
  have HW0 := Lib.hid HA0.out.wf
  have HW2 := Lib.hid HA2.out.wf
  go_enter Tryz.func3, Tryz.ntmps3
  have hcon := long_is a0 c0 n0 l0 false HN0.out HZ0.out _ (HA0.out.below B1.out)
  go_wp2_with fail
  refine (show Calls Tryz.prog _ _ _ _ from hcon).mono ?_
  rintro e w1 ⟨rfl, hb1⟩
  have B2 := Lib.hid (below_tr B1.out hb1)
  clear B1
  clear hcon hb1
  have hcon := long_is a2 c2 n1 l2 false HN2.out HZ2.out _ (HA2.out.below B2.out)
  go_wp2_with fail
  refine (show Calls Tryz.prog _ _ _ _ from hcon).mono ?_
  rintro e w2 ⟨rfl, hb2⟩
  have B3 := Lib.hid (below_tr B2.out hb2)
  clear B2
  clear hcon hb2
  obtain ⟨ar, cr, W1, r1, s1, b1⟩ := one_app (HA0.out.below B3.out) (by rw [HN0.out]; omega)
  obtain ⟨ac, cc, W2, r2, s2, b2⟩ := one_appI ((HA1.out.below B3.out).below b1) (by rw [HN1.out]; omega)
  obtain ⟨av, cv, W3, r3, s3, b3⟩ := one_app ((HA2.out.below B3.out).below (below_tr b1 b2)) (by rw [HN2.out]; omega)
  rw [HN0.out] at r1
  rw [HN1.out] at r2
  rw [HN2.out] at r3
  have R1 := Lib.hid r1
  have R2 := Lib.hid r2
  have R3 := Lib.hid r3
  have RC := Lib.hid (s1.below (below_tr b2 b3))
  have CC := Lib.hid (s2.below b3)
  have VC := Lib.hid s3
  have b4 := below_tr (below_tr b1 b2) b3
  clear r1 r2 r3 s1 s2 s3 b1 b2 b3
  have B4 := Lib.hid (below_tr B3.out b4)
  clear B3
  clear b4
  have R_r5 := Lib.hid (HA0.out.below B4.out)
  have C_r5 := Lib.hid (HA1.out.below B4.out)
  have K_r5 := Lib.hid (HA2.out.below B4.out)
  have G_r5 := Lib.hid (HGG.out.below B4.out)
  have RC_r5 := Lib.hid (RC.out)
  have CC_r5 := Lib.hid (CC.out)
  have VC_r5 := Lib.hid (VC.out)
  have HB5 := B4
  clear HA0 HA1 HA2 HGG RC CC VC B4
  have B6 : Hid (Below W3.heap.size W3 W3) := Lib.hid (Below.refl _ _)
  go_wp2_with (at_builtin; first | (refine append_dst 36 rfl ?_; refine append_stepW rfl _ _ 22 rfl _ _ _ _ rfl rfl R1.out ?_) | (refine append_dst 39 rfl ?_; refine append_stepW rfl _ _ 23 rfl _ _ _ _ rfl rfl R2.out ?_) | (refine append_dst 42 rfl ?_; refine append_stepW rfl _ _ 22 rfl _ _ _ _ rfl rfl R3.out ?_))
  go_loopg [12, 13, 14, 15, 16, 17, 18, 19, 20] 2 (fun gg s12 _ _ _ _ _ _ _ _ wr => ∃ i : Nat, s12 = .int .i64 i ∧ i ≤ 2 ∧ 2 - i ≤ gg ∧ Hid (Below W3.heap.size W3 wr))
  case atStart => exact ⟨0, rfl, Nat.zero_le _, by omega, B6⟩
  case round =>
    obtain ⟨i, rfl, hi2, hgg, BW⟩ := hrel
    by_cases hlt : i < 2
    · have hltz : (i : Int) < 2 := by omega
      have hws := BW.out.size
      have hcon := of_is ar ac cr cc n0 n1 l0 l1 HN0.out HN1.out (by omega) HM.out _ (RC_r5.out.below BW.out) (CC_r5.out.below BW.out)
      go_wp2_with fail
      refine (show Calls Tryz.prog _ _ _ _ from hcon).mono ?_
      rintro e w3 ⟨ga, rfl, hga, hO, hb3⟩
      have B107 := Lib.hid (below_tr BW.out hb3)
      clear BW
      clear hcon hb3
      have A_n3 := Lib.hid hO
      clear hO
      have HGA : Hid (W3.heap.size ≤ ga) := Lib.hid (Nat.le_trans hws hga)
      clear hga
      have hcon := rof_is a0 a1 c0 c1 n0 n1 l0 l1 HN0.out HN1.out (by omega) HM.out _ (R_r5.out.below B107.out) (C_r5.out.below B107.out)
      go_wp2_with fail
      refine (show Calls Tryz.prog _ _ _ _ from hcon).mono ?_
      rintro e w4 ⟨ab, cb, rfl, hO, hb4⟩
      have A_108 := Lib.hid (A_n3.out.below hb4)
      have B108 := Lib.hid (below_tr B107.out hb4)
      clear A_n3 B107
      clear hcon hb4
      have BF_n4 := Lib.hid hO
      clear hO
      have hlA := A_108.out.lt
      have hcon := set_is ar ac av cr cc cv n0 n1 l0 l1 l2 HN0.out HN1.out HN2.out (by omega) (by omega) HM.out _ (RC_r5.out.below B108.out) (CC_r5.out.below B108.out) (VC_r5.out.below B108.out)
      go_wp2_with fail
      refine (show Calls Tryz.prog _ _ _ _ from hcon).mono ?_
      rintro e w5 ⟨gx, capx, rfl, hnx, hmx, hgx, hO, hb5⟩
      have A_109 := Lib.hid (A_108.out.below hb5)
      have BF_109 := Lib.hid (BF_n4.out.below hb5)
      have B109 := Lib.hid (below_tr B108.out hb5)
      clear A_108 BF_n4 B108
      clear hcon hb5
      have X_n5 := Lib.hid hO
      clear hO
      have hne : ga < gx := Nat.lt_of_lt_of_le hlA hgx
      clear hlA hgx
      have hcon := rset_is a0 a1 a2 c0 c1 c2 n0 n1 l0 l1 l2 HN0.out HN1.out HN2.out (by omega) (by omega) HM.out _ (R_r5.out.below B109.out) (C_r5.out.below B109.out) (K_r5.out.below B109.out)
      go_wp2_with fail
      refine (show Calls Tryz.prog _ _ _ _ from hcon).mono ?_
      rintro e w6 ⟨gy, capy, rfl, hny, hmy, _, hO, hb6⟩
      have A_110 := Lib.hid (A_109.out.below hb6)
      have BF_110 := Lib.hid (BF_109.out.below hb6)
      have X_110 := Lib.hid (X_n5.out.below hb6)
      have B110 := Lib.hid (below_tr B109.out hb6)
      clear A_109 BF_109 X_n5 B109
      clear hcon hb6
      have Y_n6 := Lib.hid hO
      clear hO
      have hcon := same4_is (some ⟨ga, 0, none⟩) ab n1 cb n1 n1 (ofL Val.zero l0 l1) (ofL Val.zero l0 l1) true (by rw [length_ofL]; exact HN1.out) (by rw [length_ofL]; exact HN1.out) (by simp) _ (A_110.out.slk (k := n1) (by rw [length_ofL]; exact HN1.out) (Nat.le_refl _) (by omega) (ofL_wf HW0.out)) BF_110.out
      go_wp2_with fail
      refine (show Calls Tryz.prog _ _ _ _ from hcon).mono ?_
      rintro e w7 ⟨rfl, hb7⟩
      have A_111 := Lib.hid (A_110.out.below hb7)
      have BF_111 := Lib.hid (BF_110.out.below hb7)
      have X_111 := Lib.hid (X_110.out.below hb7)
      have Y_111 := Lib.hid (Y_n6.out.below hb7)
      have B111 := Lib.hid (below_tr B110.out hb7)
      clear A_110 BF_110 X_110 Y_n6 B110
      clear hcon hb7
      have hcon := same4_is (some ⟨gx, 0, none⟩) (some ⟨gy, 0, none⟩) capx capy n0 n0 (setL l0 l1 l2) (setL l0 l1 l2) true (by rw [length_setL]; exact HN0.out) (by rw [length_setL]; exact HN0.out) (by simp) _ (X_111.out.sl (by rw [length_setL, HN0.out]; exact hnx) hmx (setL_wf HW0.out HW2.out)) (Y_111.out.sl (by rw [length_setL, HN0.out]; exact hny) hmy (setL_wf HW0.out HW2.out))
      go_wp2_with fail
      refine (show Calls Tryz.prog _ _ _ _ from hcon).mono ?_
      rintro e w8 ⟨rfl, hb8⟩
      have A_112 := Lib.hid (A_111.out.below hb8)
      have BF_112 := Lib.hid (BF_111.out.below hb8)
      have X_112 := Lib.hid (X_111.out.below hb8)
      have Y_112 := Lib.hid (Y_111.out.below hb8)
      have B112 := Lib.hid (below_tr B111.out hb8)
      clear A_111 BF_111 X_111 Y_111 B111
      clear hcon hb8
      clear BF_112
      clear Y_112
      have hcon := spoil_is ga n1 n1 (ofL Val.zero l0 l1) (by rw [length_ofL]; exact HN1.out) (by omega) _ A_112.out
      go_wp2_with fail
      refine (show Calls Tryz.prog _ _ _ _ from hcon).mono ?_
      rintro e w9 ⟨rfl, hbut⟩
      have BS113 := Lib.hid (B112.out.trans (hbut.below HGA.out A_112.out.lt))
      have X_s113 := Lib.hid (X_112.out.but hbut (by omega))
      clear hcon hbut B112 A_112 X_112
      have hcon := spoil_is gx n0 capx (setL l0 l1 l2) (by rw [length_setL]; exact HN0.out) (by omega) _ X_s113.out
      go_wp2_with fail
      refine (show Calls Tryz.prog _ _ _ _ from hcon).mono ?_
      rintro e w10 ⟨rfl, hbut⟩
      have BS114 := Lib.hid (BS113.out.trans (hbut.below (Nat.le_trans HGA.out (Nat.le_of_lt hne)) X_s113.out.lt))
      clear hcon hbut BS113 X_s113
      go_wp2_with fail
      go_roundg (2 - (i + 1))
      case measure => omega
      case rel => exact ⟨i + 1, by go_num, by omega, Nat.le_refl _, BS114⟩
    · have hltz : ¬ (i : Int) < 2 := by omega
      obtain ⟨zM, hzM⟩ : ∃ z, mayC l1 x3.toNat = z := ⟨_, rfl⟩
      have HZM := Lib.hid hzM
      obtain ⟨zW, hzW⟩ : ∃ z, wholeV l2 = z := ⟨_, rfl⟩
      have HZW := Lib.hid hzW
      obtain ⟨zR, hzR⟩ : ∃ z, sameV (ofL Val.zero l0 l1) l2 = z := ⟨_, rfl⟩
      have HZR := Lib.hid hzR
      obtain ⟨zS, hzS⟩ : ∃ z, sameV l0 l2 = z := ⟨_, rfl⟩
      have HZS := Lib.hid hzS
      obtain ⟨t, ht⟩ : ∃ t : ByteArray, (⟨(rowT l2).toArray⟩ : ByteArray) = t := ⟨_, rfl⟩
      have HT : Hid (rowT l2 = t.data.toList) := Lib.hid (by rw [← ht])
      clear hzM hzW hzR hzS ht
      have hcon := kmay_is ac cc n1 l1 x3 zM HN1.out (by omega) HZM.out _ (CC_r5.out.below BW.out)
      go_wp2_with fail
      refine (show Calls Tryz.prog _ _ _ _ from hcon).mono ?_
      rintro e w3 ⟨rfl, hb3⟩
      have B107 := Lib.hid (below_tr BW.out hb3)
      clear BW
      clear hcon hb3
      have hcon := rkmay_is a1 c1 n1 l1 x3 zM HN1.out (by omega) HZM.out _ (C_r5.out.below B107.out)
      go_wp2_with fail
      refine (show Calls Tryz.prog _ _ _ _ from hcon).mono ?_
      rintro e w4 ⟨rfl, hb4⟩
      have B108 := Lib.hid (below_tr B107.out hb4)
      clear B107
      clear hcon hb4
      have hcon := whole_is av cv n1 l2 zW HN2.out (by omega) HZW.out _ (VC_r5.out.below B108.out)
      go_wp2_with fail
      refine (show Calls Tryz.prog _ _ _ _ from hcon).mono ?_
      rintro e w5 ⟨rfl, hb5⟩
      have B109 := Lib.hid (below_tr B108.out hb5)
      clear B108
      clear hcon hb5
      have hcon := rwhole_is a2 c2 n1 l2 zW HN2.out (by omega) HZW.out _ (K_r5.out.below B109.out)
      go_wp2_with fail
      refine (show Calls Tryz.prog _ _ _ _ from hcon).mono ?_
      rintro e w6 ⟨rfl, hb6⟩
      have B110 := Lib.hid (below_tr B109.out hb6)
      clear B109
      clear hcon hb6
      have hcon := refers_is ar ac av cr cc cv n0 n1 n1 l0 l1 l2 zR HN0.out HN1.out HN2.out (by omega) (by omega) HM.out HZR.out _ (RC_r5.out.below B110.out) (CC_r5.out.below B110.out) (VC_r5.out.below B110.out)
      go_wp2_with fail
      refine (show Calls Tryz.prog _ _ _ _ from hcon).mono ?_
      rintro e w7 ⟨rfl, hb7⟩
      have B111 := Lib.hid (below_tr B110.out hb7)
      clear B110
      clear hcon hb7
      have hcon := rrefers_is a0 a1 a2 c0 c1 c2 n0 n1 n1 l0 l1 l2 zR HN0.out HN1.out HN2.out (by omega) (by omega) HM.out HZR.out _ (R_r5.out.below B111.out) (C_r5.out.below B111.out) (K_r5.out.below B111.out)
      go_wp2_with fail
      refine (show Calls Tryz.prog _ _ _ _ from hcon).mono ?_
      rintro e w8 ⟨rfl, hb8⟩
      have B112 := Lib.hid (below_tr B111.out hb8)
      clear B111
      clear hcon hb8
      have hcon := ksame_is ar av cr cv n0 n1 l0 l2 zS HN0.out HN2.out (by omega) (by omega) HZS.out _ (RC_r5.out.below B112.out) (VC_r5.out.below B112.out)
      go_wp2_with fail
      refine (show Calls Tryz.prog _ _ _ _ from hcon).mono ?_
      rintro e w9 ⟨rfl, hb9⟩
      have B113 := Lib.hid (below_tr B112.out hb9)
      clear B112
      clear hcon hb9
      have hcon := rksame_is a0 a2 c0 c2 n0 n1 l0 l2 zS HN0.out HN2.out (by omega) (by omega) HZS.out _ (R_r5.out.below B113.out) (K_r5.out.below B113.out)
      go_wp2_with fail
      refine (show Calls Tryz.prog _ _ _ _ from hcon).mono ?_
      rintro e w10 ⟨rfl, hb10⟩
      have B114 := Lib.hid (below_tr B113.out hb10)
      clear B113
      clear hcon hb10
      have hcon := ktext_is av cv n1 l2 t HN2.out hb2 HT.out _ (G_r5.out.below B114.out) (VC_r5.out.below B114.out)
      go_wp2_with fail
      refine (show Calls Tryz.prog _ _ _ _ from hcon).mono ?_
      rintro e w11 ⟨rfl, hb11⟩
      have B115 := Lib.hid (below_tr B114.out hb11)
      clear B114
      clear hcon hb11
      have hcon := rktext_is a2 c2 n1 l2 t HN2.out hb2 HT.out _ (K_r5.out.below B115.out)
      go_wp2_with fail
      refine (show Calls Tryz.prog _ _ _ _ from hcon).mono ?_
      rintro e w12 ⟨rfl, hb12⟩
      have B116 := Lib.hid (below_tr B115.out hb12)
      clear B115
      clear hcon hb12
      have R_r117 := Lib.hid (R_r5.out.below B116.out)
      have C_r117 := Lib.hid (C_r5.out.below B116.out)
      have K_r117 := Lib.hid (K_r5.out.below B116.out)
      have G_r117 := Lib.hid (G_r5.out.below B116.out)
      have RC_r117 := Lib.hid (RC_r5.out.below B116.out)
      have CC_r117 := Lib.hid (CC_r5.out.below B116.out)
      have VC_r117 := Lib.hid (VC_r5.out.below B116.out)
      have HB117 := Lib.hid (below_tr HB5.out B116.out)
      clear R_r5 C_r5 K_r5 G_r5 RC_r5 CC_r5 VC_r5 HB5 B116
      have B118 : Hid (Below w12.heap.size w12 w12) := Lib.hid (Below.refl _ _)
      go_wp2_with fail
      go_loopg [21] n1 (fun gg s21 wr => ∃ i : Nat, s21 = .int .i64 i ∧ i ≤ n1 ∧ n1 - i ≤ gg ∧ Hid (Below w12.heap.size w12 wr))
      case atStart => exact ⟨0, rfl, Nat.zero_le _, by omega, B118⟩
      case round =>
        obtain ⟨j, rfl, hjn, hgg2, BV⟩ := hrel
        by_cases hjl : j < n1
        · have hjz : (j : Int) < (n1 : Int) := by omega
          have z2 : ¬ n1 ≤ j := by omega
          obtain ⟨y, hy⟩ : ∃ y, l1[j]? = some y := ⟨l1[j]'(by rw [HN1.out]; exact hjl), by simp⟩
          obtain ⟨bq, oq, rfl, q1, q2⟩ := at_i (CC_r117.out.below BV.out) hy
          obtain ⟨bp, op, rfl, p1, p2⟩ := at_i (C_r117.out.below BV.out) hy
          clear hy
          go_wp2_with fail
          go_quiet (fail)
          go_wp2_with fail
          go_roundg (n1 - (j + 1))
          case measure => omega
          case rel => exact ⟨j + 1, by go_num, by omega, Nat.le_refl _, Lib.hid (BV.out.trans ((drewN_below _ _).mono BV.out.size))⟩
        · have hjz : ¬ (j : Int) < (n1 : Int) := by omega
          have hcon := same4_is ar a0 cr c0 n0 n0 l0 l0 true HN0.out HN0.out (by simp) _ (RC_r117.out.below BV.out) (R_r117.out.below BV.out)
          go_wp2_with fail
          refine (show Calls Tryz.prog _ _ _ _ from hcon).mono ?_
          rintro e w13 ⟨rfl, hb13⟩
          have B219 := Lib.hid (below_tr BV.out hb13)
          clear BV
          clear hcon hb13
          have hcon := same4_is av a2 cv c2 n1 n1 l2 l2 true HN2.out HN2.out (by simp) _ (VC_r117.out.below B219.out) (K_r117.out.below B219.out)
          go_wp2_with fail
          refine (show Calls Tryz.prog _ _ _ _ from hcon).mono ?_
          rintro e w14 ⟨rfl, hb14⟩
          have B220 := Lib.hid (below_tr B219.out hb14)
          clear B219
          clear hcon hb14
          have hcon := awake_is w14
          go_wp2_with fail
          refine (show Calls Tryz.prog _ _ _ _ from hcon).mono ?_
          rintro e w15 ⟨rfl, hb15⟩
          have B221 := Lib.hid (below_tr B220.out hb15)
          clear B220
          clear hcon hb15
          go_wp2_with fail
          go_ret
          exact ⟨rfl, (below_tr HB117.out B221.out)⟩

theorem tells_law (a0 : Option Addr) (c0 n0 : Nat) (l0 : List Val) (a1 : Option Addr) (c1 n1 : Nat) (l1 : List Int) (a2 : Option Addr) (c2 n2 : Nat) (l2 : List Val) (x3 : Int) (hn0 : l0.length = n0) (hn1 : l1.length = n1) (hn2 : l2.length = n2) (w : World) (hg : GoodT w) (hs0 : SlL w a0 c0 l0) (hs1 : SlI w a1 c1 l1) (hs2 : SlL w a2 c2 l2) :
    Calls Tryz.prog 3 #[.slice a0 n0 c0, .slice a1 n1 c1, .slice a2 n2 c2, .int .i64 x3] w fun e w' => e = .returned (.bool true) ∧ Below w.heap.size w w' := by
  cases hz0 : longB l0
  · cases hz2 : longB l2
    · by_cases h60 : 60 < n1
      · exact tells_3 a0 c0 n0 l0 a1 c1 n1 l1 a2 c2 n2 l2 x3 hn0 hn1 hn2 w hg hs0 hs1 hs2 hz0 hz2 h60
      · cases hm : mayC l1 n0
        · exact tells_4 a0 c0 n0 l0 a1 c1 n1 l1 a2 c2 n2 l2 x3 hn0 hn1 hn2 w hg hs0 hs1 hs2 hz0 hz2 (by omega) hm
        · by_cases hne : n2 = n1
          · subst hne
            exact tells_6 a0 c0 n0 l0 a1 c1 n2 l1 a2 c2 l2 x3 hn0 hn1 hn2 w hg hs0 hs1 hs2 hz0 hz2 (by omega) hm
          · exact tells_5 a0 c0 n0 l0 a1 c1 n1 l1 a2 c2 n2 l2 x3 hn0 hn1 hn2 w hg hs0 hs1 hs2 hz0 hz2 (by omega) hm hne
    · exact tells_2 a0 c0 n0 l0 a1 c1 n1 l1 a2 c2 n2 l2 x3 hn0 hn1 hn2 w hg hs0 hs1 hs2 hz0 hz2
  · exact tells_1 a0 c0 n0 l0 a1 c1 n1 l1 a2 c2 n2 l2 x3 hn0 hn1 hn2 w hg hs0 hs1 hs2 hz0

end Go.Proofs.YtenpjfkiehcjlaaGreatDoor
