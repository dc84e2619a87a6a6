/-
  Down, Pop of the free slots, container/heap.Pop, take (stage 11).
-/
import Derived.Test.YtbgnbaogclnpgaaHPush
namespace Go.Proofs.Ytbgnbaogclnpgaa
open Go.RowKit
set_option linter.unusedVariables false

/-- What comes of a walk downwards among the first n. -/
structure DownS (w w' : World) (h : Nat) (s m f : Value) (N n : Nat) (fr fr' : Nat → Nat) : Prop where
  frs : FrS w' h s m f N fr'
  same : Same fr fr' n
  above : ∀ k, n ≤ k → fr' k = fr k
  touch : Touch (fun k => f.ownBlock = some k) w w'

theorem DownS.below {w w1 w2 : World} {h : Nat} {s m f : Value} {N n : Nat} {fr fr' : Nat → Nat} (d : DownS w w1 h s m f N n fr fr') (hb : Below w1.heap.size w1 w2) : DownS w w2 h s m f N n fr fr' :=
  ⟨d.frs.below hb, d.same, d.above, d.touch.trans (Touch.of_below hb) (fun _ _ h => h)⟩

theorem DownS.swap {w w1 w2 : World} {h : Nat} {s m f : Value} {N n : Nat} {fr fk : Nat → Nat} (d : DownS w w1 h s m f N n fr fk) {i j : Nat} (hi : i < n) (hj : j < n) (h2 : FrS w2 h s m f N (swp fk i j)) (ht : Touch (fun k => f.ownBlock = some k) w1 w2) : DownS w w2 h s m f N n fr (swp fk i j) :=
  ⟨h2, d.same.trans (Same.swp fk hi hj), fun k hk => by unfold swp; rw [if_neg (by omega), if_neg (by omega)]; exact d.above k hk, d.touch.trans ht (fun _ _ h => h)⟩

set_option maxRecDepth 100000 in
set_option maxHeartbeats 8000000 in
theorem down_is (w : World) (h : Nat) (s m f : Value) (N n : Nat) (fr : Nat → Nat) (hn : n ≤ N) (hN : 0 < N) (hc : N ≤ 100000) (H : FrS w h s m f N fr) (hD : DownO fr n 0) :
    Calls Try.prog 69 #[frI h, .int .i64 0, .int .i64 n] w fun e w' => (∃ z, e = .returned (.bool z)) ∧ ∃ fr', DownS w w' h s m f N n fr fr' ∧ HeapO fr' n := by
  obtain ⟨fr0, hfr0⟩ : ∃ fr0, fr0 = fr := ⟨_, rfl⟩
  obtain ⟨z0, hz0⟩ : ∃ z0 : Nat, z0 = 0 := ⟨_, rfl⟩
  have H0 : Hid (DownS w w h s m f N n fr fr0) := Lib.hid (by rw [hfr0]; exact ⟨H, Same.refl _ _, fun _ _ => rfl, Touch.refl _ _⟩)
  have HU0 : Hid (DownO fr0 n z0) := Lib.hid (by rw [hfr0, hz0]; exact hD)
  have HZ0 := Lib.hid hz0
  obtain ⟨b, c, rfl, hbh, -, -, -, -, -, -, -, -⟩ := H.at (by omega)
  clear H hD hfr0 hbh
  unfold frI
  go_enter Try.func69, Try.ntmps69
  go_wp2_with fail
  go_loopg [7] n (fun gg sx wr => ∃ (k : Nat) (fk : Nat → Nat), sx = .int .i64 k ∧ k ≤ n ∧ n - k ≤ gg ∧ Hid (DownS w wr h s m (.slice (some ⟨b, 0, none⟩) N c) N n fr fk) ∧ Hid (DownO fk n k))
  case atStart => exact ⟨z0, fr0, by rw [HZ0.out]; rfl, by omega, by omega, H0, HU0⟩
  case round =>
    obtain ⟨k, fk, rfl, hkn, hgg, HK, HU⟩ := hrel
    clear H0 HU0 HZ0 hz0
    obtain ⟨b', c', e, hbh, hnc, hcm, hbl, hhl, c0, f0, hat, hfz⟩ := HK.out.frs.at hN
    cases e
    obtain ⟨j0, hj0⟩ : ∃ j0, 2 * k = j0 := ⟨_, rfl⟩
    obtain ⟨j1, hj1⟩ : ∃ j1, j0 + 1 = j1 := ⟨_, rfl⟩
    obtain ⟨j2, hj2⟩ : ∃ j2, j1 + 1 = j2 := ⟨_, rfl⟩
    by_cases hlt : j1 < n
    · have HW0 : Hid (wrap64 (2 * (k : Int)) = (j0 : Int)) := Lib.hid (by rw [show 2 * (k : Int) = (j0 : Int) by omega]; exact wrOk (by omega))
      have HW1 : Hid (wrap64 ((j0 : Int) + 1) = (j1 : Int)) := Lib.hid (by rw [show (j0 : Int) + 1 = (j1 : Int) by omega]; exact wrOk (by omega))
      have HW2 : Hid (wrap64 ((j1 : Int) + 1) = (j2 : Int)) := Lib.hid (by rw [show (j1 : Int) + 1 = (j2 : Int) by omega]; exact wrOk (by omega))
      have HG1 : Hid (¬ (n : Int) ≤ (j1 : Int)) := Lib.hid (by omega)
      have HG2 : Hid (¬ (j1 : Int) < 0) := Lib.hid (by omega)
      have HJ := Lib.hid (And.intro hj0 (And.intro hj1 hj2))
      have HLT := Lib.hid hlt
      have HAT := Lib.hid hat
      have HGG := Lib.hid hgg
      have HC := Lib.hid (And.intro hn (And.intro hc hN))
      have hkN : k < N := by omega
      have hj1N : j1 < N := by omega
      clear hat hgg hcm hnc hbl hhl f0 hlt hn hc hN hbh hkn hj0 hj1 hj2 hkN hj1N
      have c0 := HK.out.frs.lit.cell (o := 1) rfl
      have hm1 := m_less wr h (.slice (some ⟨b, 0, none⟩) N c) c0 ⟨_, _, _, rfl⟩
      by_cases hlt2 : j2 < n
      · have HG3 : Hid ((j2 : Int) < (n : Int)) := Lib.hid (by omega)
        obtain ⟨z, hz⟩ : ∃ z, decide (fk j2 < fk j1) = z := ⟨_, rfl⟩
        have hcon := less_is wr b c N fk j2 j1 (by have := HC.out.1; omega) (by have := HC.out.1; have := HLT.out; omega) HC.out.2.1 HAT.out z hz
        have HZ := Lib.hid hz
        have HL2 := Lib.hid hlt2
        clear hz hlt2
        have hw0 := HW0.out
        have hw1 := HW1.out
        have hg1 := HG1.out
        have hg2 := HG2.out
        have hw2 := HW2.out
        have hg3 := HG3.out
        go_wp2_with fail
        refine hcon.mono ?_
        rintro e w1 ⟨rfl, hb1⟩
        have HK1 := Lib.hid (HK.out.below hb1)
        clear hb1 hcon hm1 c0 HK HAT hw0 hw1 hg1 hg2 hw2 hg3
        cases z with
        | false =>
          have HM : Hid (j1 < n ∧ (j1 - 1) / 2 = k ∧ 0 < j1 ∧ ∀ i, 0 < i → i < n → (i - 1) / 2 = k → fk j1 ≤ fk i) := Lib.hid ⟨HLT.out, by have := HJ.out; omega, by have := HJ.out; omega, fun i i0 iN ik => by
            have := HJ.out
            have hi : i = j1 ∨ i = j2 := by omega
            rcases hi with rfl | rfl
            · exact Nat.le_refl _
            · have := of_decide_eq_false HZ.out; omega⟩
          obtain ⟨y, hy⟩ : ∃ y, decide (fk j1 < fk k) = y := ⟨_, rfl⟩
          have HY := Lib.hid hy
          have hcon : Calls Try.prog 91 #[.slice (some ⟨b, 0, none⟩) N c, .int .i64 j1, .int .i64 k] w1 fun e w' => e = .returned (.bool y) ∧ Below w1.heap.size w1 w' := by
            obtain ⟨b', c', e, -, -, -, -, -, -, -, hat, -⟩ := HK1.out.frs.at HC.out.2.2
            cases e
            exact less_is w1 b c N fk j1 k (by have := HC.out.1; have := HM.out.1; omega) (by have := HC.out.1; have := HM.out; omega) HC.out.2.1 hat y hy
          have c0 := HK1.out.frs.lit.cell (o := 1) rfl
          have hm1 := m_less w1 h (.slice (some ⟨b, 0, none⟩) N c) c0 ⟨_, _, _, rfl⟩
          clear hy
          go_wp2_with fail
          refine hcon.mono ?_
          rintro e v1 ⟨rfl, hb1⟩
          have HV1 := Lib.hid (HK1.out.below hb1)
          clear hb1 hcon hm1 c0 HK1
          cases y with
          | false =>
            have HEND := Lib.hid (HU.out.done (fun i i0 iN ii => Nat.le_trans (by have := of_decide_eq_false HY.out; omega) (HM.out.2.2.2 i i0 iN ii)))
            go_wp2_with fail
            go_ret
            exact ⟨⟨_, rfl⟩, fk, HV1.out, HEND.out⟩
          | true =>
            have HUN := Lib.hid (HU.out.step HM.out.1 HM.out.2.1 HM.out.2.2.1 HM.out.2.2.2 (of_decide_eq_true HY.out))
            have c0 := HV1.out.frs.lit.cell (o := 1) rfl
            have hm2 := m_swap v1 h (.slice (some ⟨b, 0, none⟩) N c) c0 ⟨_, _, _, rfl⟩
            have hcon := swap_is v1 h s m (.slice (some ⟨b, 0, none⟩) N c) N fk k j1 (by have := HC.out.1; have := HM.out; omega) (by have := HC.out.1; have := HM.out.1; omega) HC.out.2.1 HV1.out.frs
            clear c0
            go_wp2_with fail
            refine hcon.mono ?_
            rintro e v2 ⟨rfl, hk2, ht2⟩
            have HV2 := Lib.hid (HV1.out.swap (i := k) (j := j1) (by have := HM.out; omega) HM.out.1 hk2 ht2)
            clear hk2 ht2 hcon hm2
            go_wp2_with fail
            have hjk : k + 1 ≤ j1 := by have := HM.out; omega
            go_roundg (n - j1)
            case measure => have := HGG.out; have := HM.out.1; omega
            case rel => exact ⟨j1, _, rfl, Nat.le_of_lt HM.out.1, Nat.le_refl _, HV2, HUN⟩
        | true =>
          have HM : Hid (j2 < n ∧ (j2 - 1) / 2 = k ∧ 0 < j2 ∧ ∀ i, 0 < i → i < n → (i - 1) / 2 = k → fk j2 ≤ fk i) := Lib.hid ⟨HL2.out, by have := HJ.out; omega, by have := HJ.out; omega, fun i i0 iN ik => by
            have := HJ.out
            have hi : i = j1 ∨ i = j2 := by omega
            rcases hi with rfl | rfl
            · have := of_decide_eq_true HZ.out; omega
            · exact Nat.le_refl _⟩
          obtain ⟨y, hy⟩ : ∃ y, decide (fk j2 < fk k) = y := ⟨_, rfl⟩
          have HY := Lib.hid hy
          have hcon : Calls Try.prog 91 #[.slice (some ⟨b, 0, none⟩) N c, .int .i64 j2, .int .i64 k] w1 fun e w' => e = .returned (.bool y) ∧ Below w1.heap.size w1 w' := by
            obtain ⟨b', c', e, -, -, -, -, -, -, -, hat, -⟩ := HK1.out.frs.at HC.out.2.2
            cases e
            exact less_is w1 b c N fk j2 k (by have := HC.out.1; have := HM.out.1; omega) (by have := HC.out.1; have := HM.out; omega) HC.out.2.1 hat y hy
          have c0 := HK1.out.frs.lit.cell (o := 1) rfl
          have hm1 := m_less w1 h (.slice (some ⟨b, 0, none⟩) N c) c0 ⟨_, _, _, rfl⟩
          clear hy
          go_wp2_with fail
          refine hcon.mono ?_
          rintro e v1 ⟨rfl, hb1⟩
          have HV1 := Lib.hid (HK1.out.below hb1)
          clear hb1 hcon hm1 c0 HK1
          cases y with
          | false =>
            have HEND := Lib.hid (HU.out.done (fun i i0 iN ii => Nat.le_trans (by have := of_decide_eq_false HY.out; omega) (HM.out.2.2.2 i i0 iN ii)))
            go_wp2_with fail
            go_ret
            exact ⟨⟨_, rfl⟩, fk, HV1.out, HEND.out⟩
          | true =>
            have HUN := Lib.hid (HU.out.step HM.out.1 HM.out.2.1 HM.out.2.2.1 HM.out.2.2.2 (of_decide_eq_true HY.out))
            have c0 := HV1.out.frs.lit.cell (o := 1) rfl
            have hm2 := m_swap v1 h (.slice (some ⟨b, 0, none⟩) N c) c0 ⟨_, _, _, rfl⟩
            have hcon := swap_is v1 h s m (.slice (some ⟨b, 0, none⟩) N c) N fk k j2 (by have := HC.out.1; have := HM.out; omega) (by have := HC.out.1; have := HM.out.1; omega) HC.out.2.1 HV1.out.frs
            clear c0
            go_wp2_with fail
            refine hcon.mono ?_
            rintro e v2 ⟨rfl, hk2, ht2⟩
            have HV2 := Lib.hid (HV1.out.swap (i := k) (j := j2) (by have := HM.out; omega) HM.out.1 hk2 ht2)
            clear hk2 ht2 hcon hm2
            go_wp2_with fail
            have hjk : k + 1 ≤ j2 := by have := HM.out; omega
            go_roundg (n - j2)
            case measure => have := HGG.out; have := HM.out.1; omega
            case rel => exact ⟨j2, _, rfl, Nat.le_of_lt HM.out.1, Nat.le_refl _, HV2, HUN⟩
      · have HG3 : Hid (¬ (j2 : Int) < (n : Int)) := Lib.hid (by omega)
        have HL2 := Lib.hid hlt2
        have HM : Hid (j1 < n ∧ (j1 - 1) / 2 = k ∧ 0 < j1 ∧ ∀ i, 0 < i → i < n → (i - 1) / 2 = k → fk j1 ≤ fk i) := Lib.hid ⟨HLT.out, by have := HJ.out; omega, by have := HJ.out; omega, fun i i0 iN ik => by
            have := HJ.out
            have := HL2.out
            have hi : i = j1 := by omega
            rw [hi]
            exact Nat.le_refl _⟩
        clear hlt2 hm1 c0
        have hw0 := HW0.out
        have hw1 := HW1.out
        have hg1 := HG1.out
        have hg2 := HG2.out
        have hw2 := HW2.out
        have hg3 := HG3.out
        clear HAT
        obtain ⟨y, hy⟩ : ∃ y, decide (fk j1 < fk k) = y := ⟨_, rfl⟩
        have HY := Lib.hid hy
        have hcon : Calls Try.prog 91 #[.slice (some ⟨b, 0, none⟩) N c, .int .i64 j1, .int .i64 k] wr fun e w' => e = .returned (.bool y) ∧ Below wr.heap.size wr w' := by
          obtain ⟨b', c', e, -, -, -, -, -, -, -, hat, -⟩ := HK.out.frs.at HC.out.2.2
          cases e
          exact less_is wr b c N fk j1 k (by have := HC.out.1; have := HM.out.1; omega) (by have := HC.out.1; have := HM.out; omega) HC.out.2.1 hat y hy
        have c0 := HK.out.frs.lit.cell (o := 1) rfl
        have hm1 := m_less wr h (.slice (some ⟨b, 0, none⟩) N c) c0 ⟨_, _, _, rfl⟩
        clear hy
        go_wp2_with fail
        refine hcon.mono ?_
        rintro e v1 ⟨rfl, hb1⟩
        have HV1 := Lib.hid (HK.out.below hb1)
        clear hb1 hcon hm1 c0 HK hw0 hw1 hg1 hg2 hw2 hg3
        cases y with
        | false =>
          have HEND := Lib.hid (HU.out.done (fun i i0 iN ii => Nat.le_trans (by have := of_decide_eq_false HY.out; omega) (HM.out.2.2.2 i i0 iN ii)))
          go_wp2_with fail
          go_ret
          exact ⟨⟨_, rfl⟩, fk, HV1.out, HEND.out⟩
        | true =>
          have HUN := Lib.hid (HU.out.step HM.out.1 HM.out.2.1 HM.out.2.2.1 HM.out.2.2.2 (of_decide_eq_true HY.out))
          have c0 := HV1.out.frs.lit.cell (o := 1) rfl
          have hm2 := m_swap v1 h (.slice (some ⟨b, 0, none⟩) N c) c0 ⟨_, _, _, rfl⟩
          have hcon := swap_is v1 h s m (.slice (some ⟨b, 0, none⟩) N c) N fk k j1 (by have := HC.out.1; have := HM.out; omega) (by have := HC.out.1; have := HM.out.1; omega) HC.out.2.1 HV1.out.frs
          clear c0
          go_wp2_with fail
          refine hcon.mono ?_
          rintro e v2 ⟨rfl, hk2, ht2⟩
          have HV2 := Lib.hid (HV1.out.swap (i := k) (j := j1) (by have := HM.out; omega) HM.out.1 hk2 ht2)
          clear hk2 ht2 hcon hm2
          go_wp2_with fail
          have hjk : k + 1 ≤ j1 := by have := HM.out; omega
          go_roundg (n - j1)
          case measure => have := HGG.out; have := HM.out.1; omega
          case rel => exact ⟨j1, _, rfl, Nat.le_of_lt HM.out.1, Nat.le_refl _, HV2, HUN⟩
    · have HEND := Lib.hid (HU.out.done (fun i i0 iN ii => by omega))
      have HW0 : Hid (wrap64 (2 * (k : Int)) = (j0 : Int)) := Lib.hid (by rw [show 2 * (k : Int) = (j0 : Int) by omega]; exact wrOk (by omega))
      have HW1 : Hid (wrap64 ((j0 : Int) + 1) = (j1 : Int)) := Lib.hid (by rw [show (j0 : Int) + 1 = (j1 : Int) by omega]; exact wrOk (by omega))
      have HG1 : Hid ((n : Int) ≤ (j1 : Int)) := Lib.hid (by omega)
      clear hat hgg hcm hnc hbl hhl f0 hlt hn hc hN hbh hkn hj0 hj1 hj2 c0
      have hw0 := HW0.out
      have hw1 := HW1.out
      have hg1 := HG1.out
      go_wp2_with fail
      go_ret
      exact ⟨⟨_, rfl⟩, fk, HK.out, HEND.out⟩
end Go.Proofs.Ytbgnbaogclnpgaa
