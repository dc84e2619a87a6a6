/-
  The law KeySame, walked.
-/
import Derived.Test.YtenpjfkiehcjlaaDoorKTxt
namespace Go.Proofs.YtenpjfkiehcjlaaDoor
open Go.RowKit

/-- One of three lists: what a slice of slices holds at place p. -/
structure Pick (w : World) (v : Value) (l : List Val) : Prop where
  ex : ∃ a c, v = .slice a l.length c ∧ SlL w a c l

theorem all_next {l : List Val} {i : Nat} {x : Val} (hx : l[i]? = some x) (h : (l.take i).all mayV = true) (hm : mayV x = true) : (l.take (i + 1)).all mayV = true := all_snoc hx h hm

theorem lists_next {L : List (List Val)} {p : Nat} {l : List Val} (hl : L[p]? = some l) (h : ∀ m ∈ L.take p, m.all mayV = true) (hm : l.all mayV = true) : ∀ m ∈ L.take (p + 1), m.all mayV = true := by
  intro m hmm
  rw [List.take_add_one, hl] at hmm
  rcases List.mem_append.mp hmm with h1 | h1
  · exact h m h1
  · simp at h1; subst h1; exact hm

theorem same_text {a b : List Val} {p q : ByteArray} (ha : a.all mayV = true) (hb : b.all mayV = true) (wa : ∀ v ∈ a, v.wf) (wb : ∀ v ∈ b, v.wf) (hp : rowT a = p.data.toList) (hq : rowT b = q.data.toList) (w1 : wholeV a = true) (w2 : wholeV b = true) : (p.toList == q.toList) = sameV a b := by
  have hs : sameV a b = decide (a = b) := by
    show (wholeV a && (wholeV b && decide (a = b))) = _
    rw [w1, w2]; rfl
  rw [hs, Bool.eq_iff_iff, beq_iff_eq, decide_eq_true_eq, ByteArray.toList_eq, ByteArray.toList_eq, ← hp, ← hq]
  exact ⟨fun h => rowT_inj ha hb wa wb h, fun h => by rw [h]⟩

set_option maxRecDepth 100000 in
set_option maxHeartbeats 8000000 in
theorem same_1 (a0 : Option Addr) (c0 n0 : Nat) (l0 : List Val) (a1 : Option Addr) (c1 n1 : Nat) (l1 : List Val) (a2 : Option Addr) (c2 n2 : Nat) (l2 : List Val) (hn0 : l0.length = n0) (hn1 : l1.length = n1) (hn2 : l2.length = n2) (w : World) (hg : GoodT w) (hs0 : SlL w a0 c0 l0) (hs1 : SlL w a1 c1 l1) (hs2 : SlL w a2 c2 l2) (hz0 : longB l0 = true) :
    Calls Tryd.prog 3 #[.slice a0 n0 c0, .slice a1 n1 c1, .slice a2 n2 c2] w fun e w' => e = .returned (.bool true) ∧ Below w.heap.size w w' := by
  have B1 : Hid (Below w.heap.size w w) := Lib.hid (Below.refl _ _)
  have HA0 := Lib.hid hs0
  have HA1 := Lib.hid hs1
  have HA2 := Lib.hid hs2
  have HN0 := Lib.hid hn0
  have HN1 := Lib.hid hn1
  have HN2 := Lib.hid hn2
  have HGG := Lib.hid hg
  have HZ0 := Lib.hid hz0
  clear hs0 hs1 hs2 hn0 hn1 hn2 hg hz0
  go_enter Tryd.func3, Tryd.ntmps3
  have hcon := long_is a0 c0 n0 l0 true HN0.out HZ0.out _ (HA0.out.below B1.out)
  go_wp2_with fail
  refine (show Calls Tryd.prog _ _ _ _ from hcon).mono ?_
  rintro e w1 ⟨rfl, hb1⟩
  have B2 := Lib.hid (below_tr B1.out hb1)
  clear B1
  clear hcon hb1
  have hcon := awake_is w1
  go_wp2_with fail
  refine (show Calls Tryd.prog _ _ _ _ from hcon).mono ?_
  rintro e w2 ⟨rfl, hb2⟩
  have B3 := Lib.hid (below_tr B2.out hb2)
  clear B2
  clear hcon hb2
  go_wp2_with fail
  go_ret
  exact ⟨rfl, B3.out⟩

set_option maxRecDepth 100000 in
set_option maxHeartbeats 8000000 in
theorem same_2 (a0 : Option Addr) (c0 n0 : Nat) (l0 : List Val) (a1 : Option Addr) (c1 n1 : Nat) (l1 : List Val) (a2 : Option Addr) (c2 n2 : Nat) (l2 : List Val) (hn0 : l0.length = n0) (hn1 : l1.length = n1) (hn2 : l2.length = n2) (w : World) (hg : GoodT w) (hs0 : SlL w a0 c0 l0) (hs1 : SlL w a1 c1 l1) (hs2 : SlL w a2 c2 l2) (hz0 : longB l0 = false) (hz1 : longB l1 = true) :
    Calls Tryd.prog 3 #[.slice a0 n0 c0, .slice a1 n1 c1, .slice a2 n2 c2] w fun e w' => e = .returned (.bool true) ∧ Below w.heap.size w w' := by
  have B1 : Hid (Below w.heap.size w w) := Lib.hid (Below.refl _ _)
  have HA0 := Lib.hid hs0
  have HA1 := Lib.hid hs1
  have HA2 := Lib.hid hs2
  have HN0 := Lib.hid hn0
  have HN1 := Lib.hid hn1
  have HN2 := Lib.hid hn2
  have HGG := Lib.hid hg
  have HZ0 := Lib.hid hz0
  have HZ1 := Lib.hid hz1
  clear hs0 hs1 hs2 hn0 hn1 hn2 hg hz0 hz1
  go_enter Tryd.func3, Tryd.ntmps3
  have hcon := long_is a0 c0 n0 l0 false HN0.out HZ0.out _ (HA0.out.below B1.out)
  go_wp2_with fail
  refine (show Calls Tryd.prog _ _ _ _ from hcon).mono ?_
  rintro e w1 ⟨rfl, hb1⟩
  have B2 := Lib.hid (below_tr B1.out hb1)
  clear B1
  clear hcon hb1
  have hcon := long_is a1 c1 n1 l1 true HN1.out HZ1.out _ (HA1.out.below B2.out)
  go_wp2_with fail
  refine (show Calls Tryd.prog _ _ _ _ from hcon).mono ?_
  rintro e w2 ⟨rfl, hb2⟩
  have B3 := Lib.hid (below_tr B2.out hb2)
  clear B2
  clear hcon hb2
  have hcon := awake_is w2
  go_wp2_with fail
  refine (show Calls Tryd.prog _ _ _ _ from hcon).mono ?_
  rintro e w3 ⟨rfl, hb3⟩
  have B4 := Lib.hid (below_tr B3.out hb3)
  clear B3
  clear hcon hb3
  go_wp2_with fail
  go_ret
  exact ⟨rfl, B4.out⟩

set_option maxRecDepth 100000 in
set_option maxHeartbeats 8000000 in
theorem same_3 (a0 : Option Addr) (c0 n0 : Nat) (l0 : List Val) (a1 : Option Addr) (c1 n1 : Nat) (l1 : List Val) (a2 : Option Addr) (c2 n2 : Nat) (l2 : List Val) (hn0 : l0.length = n0) (hn1 : l1.length = n1) (hn2 : l2.length = n2) (w : World) (hg : GoodT w) (hs0 : SlL w a0 c0 l0) (hs1 : SlL w a1 c1 l1) (hs2 : SlL w a2 c2 l2) (hz0 : longB l0 = false) (hz1 : longB l1 = false) (hz2 : longB l2 = true) :
    Calls Tryd.prog 3 #[.slice a0 n0 c0, .slice a1 n1 c1, .slice a2 n2 c2] w fun e w' => e = .returned (.bool true) ∧ Below w.heap.size w w' := by
  have B1 : Hid (Below w.heap.size w w) := Lib.hid (Below.refl _ _)
  have HA0 := Lib.hid hs0
  have HA1 := Lib.hid hs1
  have HA2 := Lib.hid hs2
  have HN0 := Lib.hid hn0
  have HN1 := Lib.hid hn1
  have HN2 := Lib.hid hn2
  have HGG := Lib.hid hg
  have HZ0 := Lib.hid hz0
  have HZ1 := Lib.hid hz1
  have HZ2 := Lib.hid hz2
  clear hs0 hs1 hs2 hn0 hn1 hn2 hg hz0 hz1 hz2
  go_enter Tryd.func3, Tryd.ntmps3
  have hcon := long_is a0 c0 n0 l0 false HN0.out HZ0.out _ (HA0.out.below B1.out)
  go_wp2_with fail
  refine (show Calls Tryd.prog _ _ _ _ from hcon).mono ?_
  rintro e w1 ⟨rfl, hb1⟩
  have B2 := Lib.hid (below_tr B1.out hb1)
  clear B1
  clear hcon hb1
  have hcon := long_is a1 c1 n1 l1 false HN1.out HZ1.out _ (HA1.out.below B2.out)
  go_wp2_with fail
  refine (show Calls Tryd.prog _ _ _ _ from hcon).mono ?_
  rintro e w2 ⟨rfl, hb2⟩
  have B3 := Lib.hid (below_tr B2.out hb2)
  clear B2
  clear hcon hb2
  have hcon := long_is a2 c2 n2 l2 true HN2.out HZ2.out _ (HA2.out.below B3.out)
  go_wp2_with fail
  refine (show Calls Tryd.prog _ _ _ _ from hcon).mono ?_
  rintro e w3 ⟨rfl, hb3⟩
  have B4 := Lib.hid (below_tr B3.out hb3)
  clear B3
  clear hcon hb3
  have hcon := awake_is w3
  go_wp2_with fail
  refine (show Calls Tryd.prog _ _ _ _ from hcon).mono ?_
  rintro e w4 ⟨rfl, hb4⟩
  have B5 := Lib.hid (below_tr B4.out hb4)
  clear B4
  clear hcon hb4
  go_wp2_with fail
  go_ret
  exact ⟨rfl, B5.out⟩

set_option maxRecDepth 100000 in
set_option maxHeartbeats 8000000 in
theorem same_4 (a0 : Option Addr) (c0 n0 : Nat) (l0 : List Val) (a1 : Option Addr) (c1 n1 : Nat) (l1 : List Val) (a2 : Option Addr) (c2 n2 : Nat) (l2 : List Val) (hn0 : l0.length = n0) (hn1 : l1.length = n1) (hn2 : l2.length = n2) (w : World) (hg : GoodT w) (hs0 : SlL w a0 c0 l0) (hs1 : SlL w a1 c1 l1) (hs2 : SlL w a2 c2 l2) (hz0 : longB l0 = false) (hz1 : longB l1 = false) (hz2 : longB l2 = false) :
    Calls Tryd.prog 3 #[.slice a0 n0 c0, .slice a1 n1 c1, .slice a2 n2 c2] w fun e w' => e = .returned (.bool true) ∧ Below w.heap.size w w' := by
  have B1 : Hid (Below w.heap.size w w) := Lib.hid (Below.refl _ _)
  have HA0 := Lib.hid hs0
  have HA1 := Lib.hid hs1
  have HA2 := Lib.hid hs2
  have HN0 := Lib.hid hn0
  have HN1 := Lib.hid hn1
  have HN2 := Lib.hid hn2
  have HGG := Lib.hid hg
  have HZ0 := Lib.hid hz0
  have HZ1 := Lib.hid hz1
  have HZ2 := Lib.hid hz2
  clear hs0 hs1 hs2 hn0 hn1 hn2 hg hz0 hz1 hz2
  have hb0 : n0 ≤ 60 := by rw [← HN0.out]; exact (long_not HZ0.out).1
  have HW0 := Lib.hid HA0.out.wf
  have hb1 : n1 ≤ 60 := by rw [← HN1.out]; exact (long_not HZ1.out).1
  have HW1 := Lib.hid HA1.out.wf
  have hb2 : n2 ≤ 60 := by rw [← HN2.out]; exact (long_not HZ2.out).1
  have HW2 := Lib.hid HA2.out.wf
  go_enter Tryd.func3, Tryd.ntmps3
  have hcon := long_is a0 c0 n0 l0 false HN0.out HZ0.out _ (HA0.out.below B1.out)
  go_wp2_with fail
  refine (show Calls Tryd.prog _ _ _ _ from hcon).mono ?_
  rintro e w1 ⟨rfl, hb1⟩
  have B2 := Lib.hid (below_tr B1.out hb1)
  clear B1
  clear hcon hb1
  have hcon := long_is a1 c1 n1 l1 false HN1.out HZ1.out _ (HA1.out.below B2.out)
  go_wp2_with fail
  refine (show Calls Tryd.prog _ _ _ _ from hcon).mono ?_
  rintro e w2 ⟨rfl, hb2⟩
  have B3 := Lib.hid (below_tr B2.out hb2)
  clear B2
  clear hcon hb2
  have hcon := long_is a2 c2 n2 l2 false HN2.out HZ2.out _ (HA2.out.below B3.out)
  go_wp2_with fail
  refine (show Calls Tryd.prog _ _ _ _ from hcon).mono ?_
  rintro e w3 ⟨rfl, hb3⟩
  have B4 := Lib.hid (below_tr B3.out hb3)
  clear B3
  clear hcon hb3
  have hcon := awake_is w3
  go_wp2_with fail
  refine (show Calls Tryd.prog _ _ _ _ from hcon).mono ?_
  rintro e w4 ⟨rfl, hb4⟩
  have B5 := Lib.hid (below_tr B4.out hb4)
  clear B4
  clear hcon hb4
  obtain ⟨WL, hWL⟩ : ∃ WL, w4.alloc (.cells #[.slice a0 n0 c0, .slice a1 n1 c1, .slice a2 n2 c2] 22) = WL := ⟨_, rfl⟩
  obtain ⟨gl, hgl⟩ : ∃ gl, w4.heap.size = gl := ⟨_, rfl⟩
  have hbl : Below w4.heap.size w4 WL := by rw [← hWL]; exact Below.allocs _ _
  have hgw : gl < WL.heap.size := by rw [← hWL, ← hgl]; simp
  have q0 : WL.cell? ⟨gl, 0, none⟩ = some (.slice a0 n0 c0) := by rw [← hWL, ← hgl, World.cell?_alloc_at _ _ _ _ (by simp)]; rfl
  have q1 : WL.cell? ⟨gl, 1, none⟩ = some (.slice a1 n1 c1) := by rw [← hWL, ← hgl, World.cell?_alloc_at _ _ _ _ (by simp)]; rfl
  have q2 : WL.cell? ⟨gl, 2, none⟩ = some (.slice a2 n2 c2) := by rw [← hWL, ← hgl, World.cell?_alloc_at _ _ _ _ (by simp)]; rfl
  have B6 := Lib.hid (below_tr B5.out hbl)
  clear B5
  have HP : Hid (∀ (p : Nat) l, [l0, l1, l2][p]? = some l → ∃ a n c, l.length = n ∧ n ≤ 60 ∧ WL.cell? ⟨gl, p, none⟩ = some (.slice a n c) ∧ SlL WL a c l) := Lib.hid (by
    intro p l h
    match p, h with
    | 0, h => simp at h; subst h; exact ⟨a0, n0, c0, HN0.out, hb0, q0, (HA0.out.below B6.out)⟩
    | 1, h => simp at h; subst h; exact ⟨a1, n1, c1, HN1.out, hb1, q1, (HA1.out.below B6.out)⟩
    | 2, h => simp at h; subst h; exact ⟨a2, n2, c2, HN2.out, hb2, q2, (HA2.out.below B6.out)⟩
    | p + 3, h => simp at h)
  clear q0 q1 q2 hbl
  have R0_r7 := Lib.hid (HA0.out.below B6.out)
  have R1_r7 := Lib.hid (HA1.out.below B6.out)
  have R2_r7 := Lib.hid (HA2.out.below B6.out)
  have G_r7 := Lib.hid (HGG.out.below B6.out)
  have HB7 := B6
  clear HA0 HA1 HA2 HGG B6
  have B8 : Hid (Below WL.heap.size WL WL) := Lib.hid (Below.refl _ _)
  go_wp2_with fail
  try simp only [hWL, hgl]
  go_loopg [8, 9, 30] 3 (fun gg _ _ s30 wr => ∃ p : Nat, s30 = .int .i64 p ∧ p ≤ 3 ∧ 3 - p ≤ gg ∧ Hid (∀ m ∈ [l0, l1, l2].take p, m.all mayV = true) ∧ Hid (Below WL.heap.size WL wr))
  case atStart => exact ⟨0, rfl, Nat.zero_le _, by omega, Lib.hid (by simp), B8⟩
  case round =>
    obtain ⟨p, rfl, hp3, hgg, HM, BW⟩ := hrel
    by_cases hlt : p < 3
    · have hltz : (p : Int) < 3 := by omega
      have z1 : ¬ 3 ≤ p := by omega
      obtain ⟨l, hl⟩ : ∃ l, [l0, l1, l2][p]? = some l := ⟨[l0, l1, l2][p]'hlt, by simp⟩
      obtain ⟨a, n, c, hn, hb, hc, hs⟩ := HP.out p l hl
      have hcr : wr.cell? ⟨gl, p, none⟩ = some (.slice a n c) := by rw [BW.out.cell hgw]; exact hc
      have HS := Lib.hid hs
      have HN := Lib.hid hn
      have HL := Lib.hid hl
      clear hc hs hn hl
      go_wp2_with fail
      go_loopg [9] n (fun gg2 s9 wq => ∃ i : Nat, s9 = .int .i64 i ∧ i ≤ n ∧ n - i ≤ gg2 ∧ Hid ((l.take i).all mayV = true) ∧ Hid (Below WL.heap.size WL wq))
      case atStart => exact ⟨0, rfl, Nat.zero_le _, by omega, Lib.hid rfl, BW⟩
      case round =>
        obtain ⟨i, rfl, hin, hgg2, HI, BQ⟩ := hrel
        by_cases hil : i < n
        · have hiz : (i : Int) < (n : Int) := by omega
          have z2 : ¬ n ≤ i := by omega
          obtain ⟨x, hx⟩ := get_is (l := l) (i := i) (by rw [HN.out]; exact hil)
          obtain ⟨b, o, rfl, d0, d1, d2, d3, d4⟩ := at_l (HS.out.below BQ.out) hx
          have HX := Lib.hid hx
          clear hx
          cases hm : mayV x with
          | false =>
            have hcon := fun W => may_v x false hm W
            go_wp2_with fail
            refine (hcon _).mono ?_
            rintro e w9 ⟨rfl, hb9⟩
            have HB9 := Lib.hid (below_tr BQ.out hb9)
            clear hcon hb9 d0 d1 d2 d3 d4
            go_wp2_with fail
            go_ret
            exact ⟨rfl, below_tr HB7.out HB9.out⟩
          | true =>
            have hcon := fun W => may_v x true hm W
            have HMX := Lib.hid hm
            go_wp2_with fail
            refine (hcon _).mono ?_
            rintro e w9 ⟨rfl, hb9⟩
            have HB9 := Lib.hid (below_tr BQ.out hb9)
            clear hcon hb9 d0 d1 d2 d3 d4 hm
            go_wp2_with fail
            go_roundg (n - (i + 1))
            case measure => omega
            case rel => exact ⟨i + 1, by go_num, by omega, Nat.le_refl _, Lib.hid (all_next HX.out HI.out HMX.out), HB9⟩
        · have hiz : ¬ (i : Int) < (n : Int) := by omega
          have HLM : Hid (l.all mayV = true) := Lib.hid (by have := HI.out; rwa [List.take_of_length_le (by rw [HN.out]; omega)] at this)
          go_wp2_with fail
          go_roundg (3 - (p + 1))
          case measure => omega
          case rel => exact ⟨p + 1, by go_num, by omega, Nat.le_refl _, Lib.hid (lists_next HL.out HM.out HLM.out), BQ⟩
    · have hltz : ¬ (p : Int) < 3 := by omega
      have HM0 : Hid (l0.all mayV = true) := Lib.hid (HM.out l0 (by rw [List.take_of_length_le (by simp; omega)]; simp))
      have HM1 : Hid (l1.all mayV = true) := Lib.hid (HM.out l1 (by rw [List.take_of_length_le (by simp; omega)]; simp))
      obtain ⟨sab, hsab⟩ : ∃ z, sameV l0 l1 = z := ⟨_, rfl⟩
      have HSAB := Lib.hid hsab
      have HSBA : Hid (sameV l1 l0 = sab) := Lib.hid (by rw [← hsab]; exact sameK_symm nullV _ _)
      obtain ⟨wa, hwa⟩ : ∃ z, wholeV l0 = z := ⟨_, rfl⟩
      have HWA := Lib.hid hwa
      have HSAA : Hid (sameV l0 l0 = wa) := Lib.hid (by rw [← hwa]; exact sameK_self nullV _)
      obtain ⟨wb, hwb⟩ : ∃ z, wholeV l1 = z := ⟨_, rfl⟩
      have HWB := Lib.hid hwb
      have HEQ : Hid (sab = (wa && (wb && decide (l0 = l1)))) := Lib.hid (by rw [← hsab, ← hwa, ← hwb]; rfl)
      clear hsab hwa hwb HM HP
      cases wa with
      | false =>
        obtain rfl : sab = false := by rw [HEQ.out]; rfl
        have hcon := ksame_is a0 a0 c0 c0 n0 n0 l0 l0 false HN0.out HN0.out (by omega) (by omega) HSAA.out _ (R0_r7.out.below BW.out) (R0_r7.out.below BW.out)
        go_wp2_with fail
        refine (show Calls Tryd.prog _ _ _ _ from hcon).mono ?_
        rintro e w5 ⟨rfl, hb5⟩
        have B209 := Lib.hid (below_tr BW.out hb5)
        clear BW
        clear hcon hb5
        have hcon := whole_is a0 c0 n0 l0 false HN0.out (by omega) HWA.out _ (R0_r7.out.below B209.out)
        go_wp2_with fail
        refine (show Calls Tryd.prog _ _ _ _ from hcon).mono ?_
        rintro e w6 ⟨rfl, hb6⟩
        have B210 := Lib.hid (below_tr B209.out hb6)
        clear B209
        clear hcon hb6
        have hcon := ksame_is a0 a1 c0 c1 n0 n1 l0 l1 false HN0.out HN1.out (by omega) (by omega) HSAB.out _ (R0_r7.out.below B210.out) (R1_r7.out.below B210.out)
        go_wp2_with fail
        refine (show Calls Tryd.prog _ _ _ _ from hcon).mono ?_
        rintro e w7 ⟨rfl, hb7⟩
        have B211 := Lib.hid (below_tr B210.out hb7)
        clear B210
        clear hcon hb7
        have hcon := ksame_is a1 a0 c1 c0 n1 n0 l1 l0 false HN1.out HN0.out (by omega) (by omega) HSBA.out _ (R1_r7.out.below B211.out) (R0_r7.out.below B211.out)
        go_wp2_with fail
        refine (show Calls Tryd.prog _ _ _ _ from hcon).mono ?_
        rintro e w8 ⟨rfl, hb8⟩
        have B212 := Lib.hid (below_tr B211.out hb8)
        clear B211
        clear hcon hb8
        have hcon := ksame_is a0 a1 c0 c1 n0 n1 l0 l1 false HN0.out HN1.out (by omega) (by omega) HSAB.out _ (R0_r7.out.below B212.out) (R1_r7.out.below B212.out)
        go_wp2_with fail
        refine (show Calls Tryd.prog _ _ _ _ from hcon).mono ?_
        rintro e w9 ⟨rfl, hb9⟩
        have B213 := Lib.hid (below_tr B212.out hb9)
        clear B212
        clear hcon hb9
        have hcon := whole_is a0 c0 n0 l0 false HN0.out (by omega) HWA.out _ (R0_r7.out.below B213.out)
        go_wp2_with fail
        refine (show Calls Tryd.prog _ _ _ _ from hcon).mono ?_
        rintro e w10 ⟨rfl, hb10⟩
        have B214 := Lib.hid (below_tr B213.out hb10)
        clear B213
        clear hcon hb10
        have hcon := ksame_is a0 a1 c0 c1 n0 n1 l0 l1 false HN0.out HN1.out (by omega) (by omega) HSAB.out _ (R0_r7.out.below B214.out) (R1_r7.out.below B214.out)
        go_wp2_with fail
        refine (show Calls Tryd.prog _ _ _ _ from hcon).mono ?_
        rintro e w11 ⟨rfl, hb11⟩
        have B215 := Lib.hid (below_tr B214.out hb11)
        clear B214
        clear hcon hb11
        go_wp2_with fail
        go_ret
        exact ⟨rfl, (below_tr HB7.out B215.out)⟩
      | true =>
        cases wb with
        | false =>
          obtain rfl : sab = false := by rw [HEQ.out]; rfl
          have hcon := ksame_is a0 a0 c0 c0 n0 n0 l0 l0 true HN0.out HN0.out (by omega) (by omega) HSAA.out _ (R0_r7.out.below BW.out) (R0_r7.out.below BW.out)
          go_wp2_with fail
          refine (show Calls Tryd.prog _ _ _ _ from hcon).mono ?_
          rintro e w5 ⟨rfl, hb5⟩
          have B309 := Lib.hid (below_tr BW.out hb5)
          clear BW
          clear hcon hb5
          have hcon := whole_is a0 c0 n0 l0 true HN0.out (by omega) HWA.out _ (R0_r7.out.below B309.out)
          go_wp2_with fail
          refine (show Calls Tryd.prog _ _ _ _ from hcon).mono ?_
          rintro e w6 ⟨rfl, hb6⟩
          have B310 := Lib.hid (below_tr B309.out hb6)
          clear B309
          clear hcon hb6
          have hcon := ksame_is a0 a1 c0 c1 n0 n1 l0 l1 false HN0.out HN1.out (by omega) (by omega) HSAB.out _ (R0_r7.out.below B310.out) (R1_r7.out.below B310.out)
          go_wp2_with fail
          refine (show Calls Tryd.prog _ _ _ _ from hcon).mono ?_
          rintro e w7 ⟨rfl, hb7⟩
          have B311 := Lib.hid (below_tr B310.out hb7)
          clear B310
          clear hcon hb7
          have hcon := ksame_is a1 a0 c1 c0 n1 n0 l1 l0 false HN1.out HN0.out (by omega) (by omega) HSBA.out _ (R1_r7.out.below B311.out) (R0_r7.out.below B311.out)
          go_wp2_with fail
          refine (show Calls Tryd.prog _ _ _ _ from hcon).mono ?_
          rintro e w8 ⟨rfl, hb8⟩
          have B312 := Lib.hid (below_tr B311.out hb8)
          clear B311
          clear hcon hb8
          have hcon := ksame_is a0 a1 c0 c1 n0 n1 l0 l1 false HN0.out HN1.out (by omega) (by omega) HSAB.out _ (R0_r7.out.below B312.out) (R1_r7.out.below B312.out)
          go_wp2_with fail
          refine (show Calls Tryd.prog _ _ _ _ from hcon).mono ?_
          rintro e w9 ⟨rfl, hb9⟩
          have B313 := Lib.hid (below_tr B312.out hb9)
          clear B312
          clear hcon hb9
          have hcon := whole_is a0 c0 n0 l0 true HN0.out (by omega) HWA.out _ (R0_r7.out.below B313.out)
          go_wp2_with fail
          refine (show Calls Tryd.prog _ _ _ _ from hcon).mono ?_
          rintro e w10 ⟨rfl, hb10⟩
          have B314 := Lib.hid (below_tr B313.out hb10)
          clear B313
          clear hcon hb10
          have hcon := whole_is a1 c1 n1 l1 false HN1.out (by omega) HWB.out _ (R1_r7.out.below B314.out)
          go_wp2_with fail
          refine (show Calls Tryd.prog _ _ _ _ from hcon).mono ?_
          rintro e w11 ⟨rfl, hb11⟩
          have B315 := Lib.hid (below_tr B314.out hb11)
          clear B314
          clear hcon hb11
          have hcon := ksame_is a0 a1 c0 c1 n0 n1 l0 l1 false HN0.out HN1.out (by omega) (by omega) HSAB.out _ (R0_r7.out.below B315.out) (R1_r7.out.below B315.out)
          go_wp2_with fail
          refine (show Calls Tryd.prog _ _ _ _ from hcon).mono ?_
          rintro e w12 ⟨rfl, hb12⟩
          have B316 := Lib.hid (below_tr B315.out hb12)
          clear B315
          clear hcon hb12
          go_wp2_with fail
          go_ret
          exact ⟨rfl, (below_tr HB7.out B316.out)⟩
        | true =>
          cases sab with
          | false =>
            have hcon := ksame_is a0 a0 c0 c0 n0 n0 l0 l0 true HN0.out HN0.out (by omega) (by omega) HSAA.out _ (R0_r7.out.below BW.out) (R0_r7.out.below BW.out)
            go_wp2_with fail
            refine (show Calls Tryd.prog _ _ _ _ from hcon).mono ?_
            rintro e w5 ⟨rfl, hb5⟩
            have B409 := Lib.hid (below_tr BW.out hb5)
            clear BW
            clear hcon hb5
            have hcon := whole_is a0 c0 n0 l0 true HN0.out (by omega) HWA.out _ (R0_r7.out.below B409.out)
            go_wp2_with fail
            refine (show Calls Tryd.prog _ _ _ _ from hcon).mono ?_
            rintro e w6 ⟨rfl, hb6⟩
            have B410 := Lib.hid (below_tr B409.out hb6)
            clear B409
            clear hcon hb6
            have hcon := ksame_is a0 a1 c0 c1 n0 n1 l0 l1 false HN0.out HN1.out (by omega) (by omega) HSAB.out _ (R0_r7.out.below B410.out) (R1_r7.out.below B410.out)
            go_wp2_with fail
            refine (show Calls Tryd.prog _ _ _ _ from hcon).mono ?_
            rintro e w7 ⟨rfl, hb7⟩
            have B411 := Lib.hid (below_tr B410.out hb7)
            clear B410
            clear hcon hb7
            have hcon := ksame_is a1 a0 c1 c0 n1 n0 l1 l0 false HN1.out HN0.out (by omega) (by omega) HSBA.out _ (R1_r7.out.below B411.out) (R0_r7.out.below B411.out)
            go_wp2_with fail
            refine (show Calls Tryd.prog _ _ _ _ from hcon).mono ?_
            rintro e w8 ⟨rfl, hb8⟩
            have B412 := Lib.hid (below_tr B411.out hb8)
            clear B411
            clear hcon hb8
            have hcon := ksame_is a0 a1 c0 c1 n0 n1 l0 l1 false HN0.out HN1.out (by omega) (by omega) HSAB.out _ (R0_r7.out.below B412.out) (R1_r7.out.below B412.out)
            go_wp2_with fail
            refine (show Calls Tryd.prog _ _ _ _ from hcon).mono ?_
            rintro e w9 ⟨rfl, hb9⟩
            have B413 := Lib.hid (below_tr B412.out hb9)
            clear B412
            clear hcon hb9
            have hcon := whole_is a0 c0 n0 l0 true HN0.out (by omega) HWA.out _ (R0_r7.out.below B413.out)
            go_wp2_with fail
            refine (show Calls Tryd.prog _ _ _ _ from hcon).mono ?_
            rintro e w10 ⟨rfl, hb10⟩
            have B414 := Lib.hid (below_tr B413.out hb10)
            clear B413
            clear hcon hb10
            have hcon := whole_is a1 c1 n1 l1 true HN1.out (by omega) HWB.out _ (R1_r7.out.below B414.out)
            go_wp2_with fail
            refine (show Calls Tryd.prog _ _ _ _ from hcon).mono ?_
            rintro e w11 ⟨rfl, hb11⟩
            have B415 := Lib.hid (below_tr B414.out hb11)
            clear B414
            clear hcon hb11
            have hcon := ksame_is a0 a1 c0 c1 n0 n1 l0 l1 false HN0.out HN1.out (by omega) (by omega) HSAB.out _ (R0_r7.out.below B415.out) (R1_r7.out.below B415.out)
            go_wp2_with fail
            refine (show Calls Tryd.prog _ _ _ _ from hcon).mono ?_
            rintro e w12 ⟨rfl, hb12⟩
            have B416 := Lib.hid (below_tr B415.out hb12)
            clear B415
            clear hcon hb12
            obtain ⟨t0, ht0⟩ : ∃ t : ByteArray, (⟨(rowT l0).toArray⟩ : ByteArray) = t := ⟨_, rfl⟩
            obtain ⟨t1, ht1⟩ : ∃ t : ByteArray, (⟨(rowT l1).toArray⟩ : ByteArray) = t := ⟨_, rfl⟩
            have HT0 : Hid (rowT l0 = t0.data.toList) := Lib.hid (by rw [← ht0])
            have HT1 : Hid (rowT l1 = t1.data.toList) := Lib.hid (by rw [← ht1])
            have htt : (t0.toList == t1.toList) = false := by rw [same_text HM0.out HM1.out HW0.out HW1.out HT0.out HT1.out HWA.out HWB.out]; exact HSAB.out
            clear ht0 ht1
            have hcon := ktext_is a0 c0 n0 l0 t0 HN0.out hb0 HT0.out _ (G_r7.out.below B416.out) (R0_r7.out.below B416.out)
            go_wp2_with fail
            refine (show Calls Tryd.prog _ _ _ _ from hcon).mono ?_
            rintro e w13 ⟨rfl, hb13⟩
            have B417 := Lib.hid (below_tr B416.out hb13)
            clear B416
            clear hcon hb13
            have hcon := ktext_is a1 c1 n1 l1 t1 HN1.out hb1 HT1.out _ (G_r7.out.below B417.out) (R1_r7.out.below B417.out)
            go_wp2_with fail
            refine (show Calls Tryd.prog _ _ _ _ from hcon).mono ?_
            rintro e w14 ⟨rfl, hb14⟩
            have B418 := Lib.hid (below_tr B417.out hb14)
            clear B417
            clear hcon hb14
            go_wp2_with fail
            go_ret
            exact ⟨rfl, (below_tr HB7.out B418.out)⟩
          | true =>
            obtain ⟨sbc, hsbc⟩ : ∃ z, sameV l1 l2 = z := ⟨_, rfl⟩
            have HSBC := Lib.hid hsbc
            clear hsbc
            cases sbc with
            | false =>
              have hcon := ksame_is a0 a0 c0 c0 n0 n0 l0 l0 true HN0.out HN0.out (by omega) (by omega) HSAA.out _ (R0_r7.out.below BW.out) (R0_r7.out.below BW.out)
              go_wp2_with fail
              refine (show Calls Tryd.prog _ _ _ _ from hcon).mono ?_
              rintro e w5 ⟨rfl, hb5⟩
              have B509 := Lib.hid (below_tr BW.out hb5)
              clear BW
              clear hcon hb5
              have hcon := whole_is a0 c0 n0 l0 true HN0.out (by omega) HWA.out _ (R0_r7.out.below B509.out)
              go_wp2_with fail
              refine (show Calls Tryd.prog _ _ _ _ from hcon).mono ?_
              rintro e w6 ⟨rfl, hb6⟩
              have B510 := Lib.hid (below_tr B509.out hb6)
              clear B509
              clear hcon hb6
              have hcon := ksame_is a0 a1 c0 c1 n0 n1 l0 l1 true HN0.out HN1.out (by omega) (by omega) HSAB.out _ (R0_r7.out.below B510.out) (R1_r7.out.below B510.out)
              go_wp2_with fail
              refine (show Calls Tryd.prog _ _ _ _ from hcon).mono ?_
              rintro e w7 ⟨rfl, hb7⟩
              have B511 := Lib.hid (below_tr B510.out hb7)
              clear B510
              clear hcon hb7
              have hcon := ksame_is a1 a0 c1 c0 n1 n0 l1 l0 true HN1.out HN0.out (by omega) (by omega) HSBA.out _ (R1_r7.out.below B511.out) (R0_r7.out.below B511.out)
              go_wp2_with fail
              refine (show Calls Tryd.prog _ _ _ _ from hcon).mono ?_
              rintro e w8 ⟨rfl, hb8⟩
              have B512 := Lib.hid (below_tr B511.out hb8)
              clear B511
              clear hcon hb8
              have hcon := ksame_is a0 a1 c0 c1 n0 n1 l0 l1 true HN0.out HN1.out (by omega) (by omega) HSAB.out _ (R0_r7.out.below B512.out) (R1_r7.out.below B512.out)
              go_wp2_with fail
              refine (show Calls Tryd.prog _ _ _ _ from hcon).mono ?_
              rintro e w9 ⟨rfl, hb9⟩
              have B513 := Lib.hid (below_tr B512.out hb9)
              clear B512
              clear hcon hb9
              have hcon := ksame_is a1 a2 c1 c2 n1 n2 l1 l2 false HN1.out HN2.out (by omega) (by omega) HSBC.out _ (R1_r7.out.below B513.out) (R2_r7.out.below B513.out)
              go_wp2_with fail
              refine (show Calls Tryd.prog _ _ _ _ from hcon).mono ?_
              rintro e w10 ⟨rfl, hb10⟩
              have B514 := Lib.hid (below_tr B513.out hb10)
              clear B513
              clear hcon hb10
              have hcon := whole_is a0 c0 n0 l0 true HN0.out (by omega) HWA.out _ (R0_r7.out.below B514.out)
              go_wp2_with fail
              refine (show Calls Tryd.prog _ _ _ _ from hcon).mono ?_
              rintro e w11 ⟨rfl, hb11⟩
              have B515 := Lib.hid (below_tr B514.out hb11)
              clear B514
              clear hcon hb11
              have hcon := whole_is a1 c1 n1 l1 true HN1.out (by omega) HWB.out _ (R1_r7.out.below B515.out)
              go_wp2_with fail
              refine (show Calls Tryd.prog _ _ _ _ from hcon).mono ?_
              rintro e w12 ⟨rfl, hb12⟩
              have B516 := Lib.hid (below_tr B515.out hb12)
              clear B515
              clear hcon hb12
              have hcon := ksame_is a0 a1 c0 c1 n0 n1 l0 l1 true HN0.out HN1.out (by omega) (by omega) HSAB.out _ (R0_r7.out.below B516.out) (R1_r7.out.below B516.out)
              go_wp2_with fail
              refine (show Calls Tryd.prog _ _ _ _ from hcon).mono ?_
              rintro e w13 ⟨rfl, hb13⟩
              have B517 := Lib.hid (below_tr B516.out hb13)
              clear B516
              clear hcon hb13
              obtain ⟨t0, ht0⟩ : ∃ t : ByteArray, (⟨(rowT l0).toArray⟩ : ByteArray) = t := ⟨_, rfl⟩
              obtain ⟨t1, ht1⟩ : ∃ t : ByteArray, (⟨(rowT l1).toArray⟩ : ByteArray) = t := ⟨_, rfl⟩
              have HT0 : Hid (rowT l0 = t0.data.toList) := Lib.hid (by rw [← ht0])
              have HT1 : Hid (rowT l1 = t1.data.toList) := Lib.hid (by rw [← ht1])
              have htt : (t0.toList == t1.toList) = true := by rw [same_text HM0.out HM1.out HW0.out HW1.out HT0.out HT1.out HWA.out HWB.out]; exact HSAB.out
              clear ht0 ht1
              have hcon := ktext_is a0 c0 n0 l0 t0 HN0.out hb0 HT0.out _ (G_r7.out.below B517.out) (R0_r7.out.below B517.out)
              go_wp2_with fail
              refine (show Calls Tryd.prog _ _ _ _ from hcon).mono ?_
              rintro e w14 ⟨rfl, hb14⟩
              have B518 := Lib.hid (below_tr B517.out hb14)
              clear B517
              clear hcon hb14
              have hcon := ktext_is a1 c1 n1 l1 t1 HN1.out hb1 HT1.out _ (G_r7.out.below B518.out) (R1_r7.out.below B518.out)
              go_wp2_with fail
              refine (show Calls Tryd.prog _ _ _ _ from hcon).mono ?_
              rintro e w15 ⟨rfl, hb15⟩
              have B519 := Lib.hid (below_tr B518.out hb15)
              clear B518
              clear hcon hb15
              go_wp2_with fail
              go_ret
              exact ⟨rfl, (below_tr HB7.out B519.out)⟩
            | true =>
              have HSAC : Hid (sameV l0 l2 = true) := Lib.hid (sameK_trans nullV _ _ _ HSAB.out HSBC.out)
              have hcon := ksame_is a0 a0 c0 c0 n0 n0 l0 l0 true HN0.out HN0.out (by omega) (by omega) HSAA.out _ (R0_r7.out.below BW.out) (R0_r7.out.below BW.out)
              go_wp2_with fail
              refine (show Calls Tryd.prog _ _ _ _ from hcon).mono ?_
              rintro e w5 ⟨rfl, hb5⟩
              have B509 := Lib.hid (below_tr BW.out hb5)
              clear BW
              clear hcon hb5
              have hcon := whole_is a0 c0 n0 l0 true HN0.out (by omega) HWA.out _ (R0_r7.out.below B509.out)
              go_wp2_with fail
              refine (show Calls Tryd.prog _ _ _ _ from hcon).mono ?_
              rintro e w6 ⟨rfl, hb6⟩
              have B510 := Lib.hid (below_tr B509.out hb6)
              clear B509
              clear hcon hb6
              have hcon := ksame_is a0 a1 c0 c1 n0 n1 l0 l1 true HN0.out HN1.out (by omega) (by omega) HSAB.out _ (R0_r7.out.below B510.out) (R1_r7.out.below B510.out)
              go_wp2_with fail
              refine (show Calls Tryd.prog _ _ _ _ from hcon).mono ?_
              rintro e w7 ⟨rfl, hb7⟩
              have B511 := Lib.hid (below_tr B510.out hb7)
              clear B510
              clear hcon hb7
              have hcon := ksame_is a1 a0 c1 c0 n1 n0 l1 l0 true HN1.out HN0.out (by omega) (by omega) HSBA.out _ (R1_r7.out.below B511.out) (R0_r7.out.below B511.out)
              go_wp2_with fail
              refine (show Calls Tryd.prog _ _ _ _ from hcon).mono ?_
              rintro e w8 ⟨rfl, hb8⟩
              have B512 := Lib.hid (below_tr B511.out hb8)
              clear B511
              clear hcon hb8
              have hcon := ksame_is a0 a1 c0 c1 n0 n1 l0 l1 true HN0.out HN1.out (by omega) (by omega) HSAB.out _ (R0_r7.out.below B512.out) (R1_r7.out.below B512.out)
              go_wp2_with fail
              refine (show Calls Tryd.prog _ _ _ _ from hcon).mono ?_
              rintro e w9 ⟨rfl, hb9⟩
              have B513 := Lib.hid (below_tr B512.out hb9)
              clear B512
              clear hcon hb9
              have hcon := ksame_is a1 a2 c1 c2 n1 n2 l1 l2 true HN1.out HN2.out (by omega) (by omega) HSBC.out _ (R1_r7.out.below B513.out) (R2_r7.out.below B513.out)
              go_wp2_with fail
              refine (show Calls Tryd.prog _ _ _ _ from hcon).mono ?_
              rintro e w10 ⟨rfl, hb10⟩
              have B514 := Lib.hid (below_tr B513.out hb10)
              clear B513
              clear hcon hb10
              have hcon := ksame_is a0 a2 c0 c2 n0 n2 l0 l2 true HN0.out HN2.out (by omega) (by omega) HSAC.out _ (R0_r7.out.below B514.out) (R2_r7.out.below B514.out)
              go_wp2_with fail
              refine (show Calls Tryd.prog _ _ _ _ from hcon).mono ?_
              rintro e w11 ⟨rfl, hb11⟩
              have B515 := Lib.hid (below_tr B514.out hb11)
              clear B514
              clear hcon hb11
              have hcon := whole_is a0 c0 n0 l0 true HN0.out (by omega) HWA.out _ (R0_r7.out.below B515.out)
              go_wp2_with fail
              refine (show Calls Tryd.prog _ _ _ _ from hcon).mono ?_
              rintro e w12 ⟨rfl, hb12⟩
              have B516 := Lib.hid (below_tr B515.out hb12)
              clear B515
              clear hcon hb12
              have hcon := whole_is a1 c1 n1 l1 true HN1.out (by omega) HWB.out _ (R1_r7.out.below B516.out)
              go_wp2_with fail
              refine (show Calls Tryd.prog _ _ _ _ from hcon).mono ?_
              rintro e w13 ⟨rfl, hb13⟩
              have B517 := Lib.hid (below_tr B516.out hb13)
              clear B516
              clear hcon hb13
              have hcon := ksame_is a0 a1 c0 c1 n0 n1 l0 l1 true HN0.out HN1.out (by omega) (by omega) HSAB.out _ (R0_r7.out.below B517.out) (R1_r7.out.below B517.out)
              go_wp2_with fail
              refine (show Calls Tryd.prog _ _ _ _ from hcon).mono ?_
              rintro e w14 ⟨rfl, hb14⟩
              have B518 := Lib.hid (below_tr B517.out hb14)
              clear B517
              clear hcon hb14
              obtain ⟨t0, ht0⟩ : ∃ t : ByteArray, (⟨(rowT l0).toArray⟩ : ByteArray) = t := ⟨_, rfl⟩
              obtain ⟨t1, ht1⟩ : ∃ t : ByteArray, (⟨(rowT l1).toArray⟩ : ByteArray) = t := ⟨_, rfl⟩
              have HT0 : Hid (rowT l0 = t0.data.toList) := Lib.hid (by rw [← ht0])
              have HT1 : Hid (rowT l1 = t1.data.toList) := Lib.hid (by rw [← ht1])
              have htt : (t0.toList == t1.toList) = true := by rw [same_text HM0.out HM1.out HW0.out HW1.out HT0.out HT1.out HWA.out HWB.out]; exact HSAB.out
              clear ht0 ht1
              have hcon := ktext_is a0 c0 n0 l0 t0 HN0.out hb0 HT0.out _ (G_r7.out.below B518.out) (R0_r7.out.below B518.out)
              go_wp2_with fail
              refine (show Calls Tryd.prog _ _ _ _ from hcon).mono ?_
              rintro e w15 ⟨rfl, hb15⟩
              have B519 := Lib.hid (below_tr B518.out hb15)
              clear B518
              clear hcon hb15
              have hcon := ktext_is a1 c1 n1 l1 t1 HN1.out hb1 HT1.out _ (G_r7.out.below B519.out) (R1_r7.out.below B519.out)
              go_wp2_with fail
              refine (show Calls Tryd.prog _ _ _ _ from hcon).mono ?_
              rintro e w16 ⟨rfl, hb16⟩
              have B520 := Lib.hid (below_tr B519.out hb16)
              clear B519
              clear hcon hb16
              go_wp2_with fail
              go_ret
              exact ⟨rfl, (below_tr HB7.out B520.out)⟩

theorem same_law (a0 : Option Addr) (c0 n0 : Nat) (l0 : List Val) (a1 : Option Addr) (c1 n1 : Nat) (l1 : List Val) (a2 : Option Addr) (c2 n2 : Nat) (l2 : List Val) (hn0 : l0.length = n0) (hn1 : l1.length = n1) (hn2 : l2.length = n2) (w : World) (hg : GoodT w) (hs0 : SlL w a0 c0 l0) (hs1 : SlL w a1 c1 l1) (hs2 : SlL w a2 c2 l2) :
    Calls Tryd.prog 3 #[.slice a0 n0 c0, .slice a1 n1 c1, .slice a2 n2 c2] w fun e w' => e = .returned (.bool true) ∧ Below w.heap.size w w' := by
  cases hz0 : longB l0
  · cases hz1 : longB l1
    · cases hz2 : longB l2
      · exact same_4 a0 c0 n0 l0 a1 c1 n1 l1 a2 c2 n2 l2 hn0 hn1 hn2 w hg hs0 hs1 hs2 hz0 hz1 hz2
      · exact same_3 a0 c0 n0 l0 a1 c1 n1 l1 a2 c2 n2 l2 hn0 hn1 hn2 w hg hs0 hs1 hs2 hz0 hz1 hz2
    · exact same_2 a0 c0 n0 l0 a1 c1 n1 l1 a2 c2 n2 l2 hn0 hn1 hn2 w hg hs0 hs1 hs2 hz0 hz1
  · exact same_1 a0 c0 n0 l0 a1 c1 n1 l1 a2 c2 n2 l2 hn0 hn1 hn2 w hg hs0 hs1 hs2 hz0

end Go.Proofs.YtenpjfkiehcjlaaDoor
