/-
  The law ValueFits as a walk over this translation: it answers true, and of what was there nothing has turned.
-/
import Derived.Test.YtpnnkgjgkcgagaaDoorVWorks
import Derived.Test.YtpnnkgjgkcgagaaDoorVFit
namespace Go.Proofs.YtpnnkgjgkcgagaaDoor
open Go.RowKit

set_option maxHeartbeats 1000000 in
theorem lawFits_big (k n hi : Int) (t : ByteArray) (hz : t.size ≤ 140737488351232) (hl : 5000 < t.size) (w : World) (hg : Good w) :
    Calls Tryd.prog 8 #[.agg #[.int .u8 k, .int .i64 n, .int .i64 hi, .string t]] w fun e w' => e = .returned (.bool true) ∧ Below w.heap.size w w' := by
  have B0 := Boxed.new w k n hi t 26
  have hb0 := Below.allocs w (.cells #[.int .u8 k, .int .i64 n, .int .i64 hi, .string t] 26)
  have hg0 := hg.below hb0
  go_enter Tryd.func8, Tryd.ntmps8
  go_wp2_with fail
  refine (works_true _ hg0).mono ?_
  rintro e w1 ⟨rfl, hb1⟩
  have hw1 := below_tr hb0 hb1
  have hg1 := hg0.below hb1
  obtain ⟨c0, c1, c2, c3, c4⟩ := B0.below hb1
  go_wp2_with fail
  refine (works_true _ hg1).mono ?_
  rintro e w2 ⟨rfl, hb2⟩
  have hw2 := below_tr hw1 hb2
  go_wp2_with fail
  go_ret
  exact ⟨rfl, hw2⟩

set_option maxRecDepth 100000 in
set_option maxHeartbeats 4000000 in
theorem lawFits_small (k n hi : Int) (t : ByteArray) (hk0 : 0 ≤ k) (hk1 : k ≤ 255) (hl : t.size ≤ 5000) (w : World) (hg : Good w) :
    Calls Tryd.prog 8 #[.agg #[.int .u8 k, .int .i64 n, .int .i64 hi, .string t]] w fun e w' => e = .returned (.bool true) ∧ Below w.heap.size w w' := by
  have B0 := Boxed.new w k n hi t 26
  have hb0 := Below.allocs w (.cells #[.int .u8 k, .int .i64 n, .int .i64 hi, .string t] 26)
  have hg0 := hg.below hb0
  go_enter Tryd.func8, Tryd.ntmps8
  go_wp2_with fail
  refine (works_true _ hg0).mono ?_
  rintro e w1 ⟨rfl, hb1⟩
  have hw1 := below_tr hb0 hb1
  have B1 := B0.below hb1
  have B1' := B1
  obtain ⟨c0, c1, c2, c3, c4⟩ := B1'
  have hd : decide (5000 < (t.size : Int)) = false := by simp; omega
  go_wp2_with fail
  clear hg0 hb0 B0 hb1 hg hl hd c0 c1 c2 c3 c4
  go_loopw [3] (fun i wr => ∃ j : Nat, j ≤ 256 ∧ i = .int .i64 j ∧ Below w1.heap.size w1 wr) (fun i _ => 256 - (intOf i).toNat)
  case atStart => exact ⟨0, by omega, rfl, Below.refl _ _⟩
  case round =>
    obtain ⟨j, hj, rfl, hb⟩ := hrel
    have Br := B1.below hb
    have Br' := Br
    obtain ⟨c0, c1, c2, c3, c4⟩ := Br'
    by_cases hlt : j < 256
    · have hj0 : (0 : Int) ≤ (j : Int) := by omega
      have hj1 : (j : Int) < 256 := by omega
      cases hm : mayB k n hi t.data.toList
      · -- not valid
        have HF := Lib.hid (show fitsB k n hi t.data.toList (j : Int) = false from by simp [fitsB, hm])
        have HM := Lib.hid hm
        clear hm
        go_wp2_with fail
        refine (may_is k n hi t _ false HM.out).mono ?_
        rintro e w2 ⟨rfl, hb2⟩
        have hw2 := below_tr hb hb2
        have B2 := Br.below hb2
        have B2' := B2
        clear c0 c1 c2 c3 c4
        obtain ⟨c0, c1, c2, c3, c4⟩ := B2'
        go_wp2_with fail
        refine (fits_is k n hi t _ false HF.out _).mono ?_
        rintro e w3 ⟨rfl, hb3⟩
        have hw3 := below_tr hw2 hb3
        go_wp2_with fail
        go_roundw
        case rel => exact ⟨j + 1, by omega, by go_num, hw3⟩
        case measure => simp [intOf]; omega
      · by_cases l1 : j < 1
        · have e1 : decide ((1 : Int) ≤ (j : Int)) = false := by simp; omega
          have HF := Lib.hid (show fitsB k n hi t.data.toList (j : Int) = false from by simp [fitsB]; omega)
          have HM := Lib.hid hm
          clear hm
          go_wp2_with fail
          refine (may_is k n hi t _ true HM.out).mono ?_
          rintro e w2 ⟨rfl, hb2⟩
          have hw2 := below_tr hb hb2
          have B2 := Br.below hb2
          have B2' := B2
          clear c0 c1 c2 c3 c4
          obtain ⟨c0, c1, c2, c3, c4⟩ := B2'
          go_wp2_with fail
          refine (fits_is k n hi t _ false HF.out _).mono ?_
          rintro e w3 ⟨rfl, hb3⟩
          have hw3 := below_tr hw2 hb3
          go_wp2_with fail
          go_roundw
          case rel => exact ⟨j + 1, by omega, by go_num, hw3⟩
          case measure => simp [intOf]; omega
        · by_cases l4 : 4 < j
          · have e1 : decide ((1 : Int) ≤ (j : Int)) = true := by simp; omega
            have e4 : decide ((j : Int) ≤ 4) = false := by simp; omega
            have HF := Lib.hid (show fitsB k n hi t.data.toList (j : Int) = false from by simp [fitsB]; omega)
            have HM := Lib.hid hm
            clear hm
            go_wp2_with fail
            refine (may_is k n hi t _ true HM.out).mono ?_
            rintro e w2 ⟨rfl, hb2⟩
            have hw2 := below_tr hb hb2
            have B2 := Br.below hb2
            have B2' := B2
            clear c0 c1 c2 c3 c4
            obtain ⟨c0, c1, c2, c3, c4⟩ := B2'
            go_wp2_with fail
            refine (fits_is k n hi t _ false HF.out _).mono ?_
            rintro e w3 ⟨rfl, hb3⟩
            have hw3 := below_tr hw2 hb3
            go_wp2_with fail
            go_roundw
            case rel => exact ⟨j + 1, by omega, by go_num, hw3⟩
            case measure => simp [intOf]; omega
          · have m1 : (1 : Int) ≤ (j : Int) := by omega
            have m4 : (j : Int) ≤ 4 := by omega
            by_cases h0 : k = 0
            · have e0 : (k == 0) = true := by simpa using h0
              have HF := Lib.hid (show fitsB k n hi t.data.toList (j : Int) = true from by unfold fitsB; rw [hm, decide_eq_true (⟨m1, m4⟩ : (1 : Int) ≤ (j : Int) ∧ (j : Int) ≤ 4), decide_eq_true h0]; rfl)
              have HM := Lib.hid hm
              clear hm h0
              go_wp2_with fail
              refine (may_is k n hi t _ true HM.out).mono ?_
              rintro e w2 ⟨rfl, hb2⟩
              have hw2 := below_tr hb hb2
              have B2 := Br.below hb2
              have B2' := B2
              clear c0 c1 c2 c3 c4
              obtain ⟨c0, c1, c2, c3, c4⟩ := B2'
              go_wp2_with fail
              refine (fits_is k n hi t _ true HF.out _).mono ?_
              rintro e w3 ⟨rfl, hb3⟩
              have hw3 := below_tr hw2 hb3
              go_wp2_with fail
              go_roundw
              case rel => exact ⟨j + 1, by omega, by go_num, hw3⟩
              case measure => simp [intOf]; omega
            · have e0 : (k == 0) = false := by simpa using h0
              by_cases h1 : k = (j : Int)
              · have e1 : (k == (j : Int)) = true := by simpa using h1
                have HF := Lib.hid (show fitsB k n hi t.data.toList (j : Int) = true from by unfold fitsB; rw [hm, decide_eq_true (⟨m1, m4⟩ : (1 : Int) ≤ (j : Int) ∧ (j : Int) ≤ 4), decide_eq_true h1]; simp)
                have HM := Lib.hid hm
                clear hm h0 h1
                go_wp2_with fail
                refine (may_is k n hi t _ true HM.out).mono ?_
                rintro e w2 ⟨rfl, hb2⟩
                have hw2 := below_tr hb hb2
                have B2 := Br.below hb2
                have B2' := B2
                clear c0 c1 c2 c3 c4
                obtain ⟨c0, c1, c2, c3, c4⟩ := B2'
                go_wp2_with fail
                refine (fits_is k n hi t _ true HF.out _).mono ?_
                rintro e w3 ⟨rfl, hb3⟩
                have hw3 := below_tr hw2 hb3
                go_wp2_with fail
                go_roundw
                case rel => exact ⟨j + 1, by omega, by go_num, hw3⟩
                case measure => simp [intOf]; omega
              · have e1 : (k == (j : Int)) = false := by simpa using h1
                have HF := Lib.hid (show fitsB k n hi t.data.toList (j : Int) = false from by unfold fitsB; rw [hm, decide_eq_true (⟨m1, m4⟩ : (1 : Int) ≤ (j : Int) ∧ (j : Int) ≤ 4), decide_eq_false h0, decide_eq_false h1]; rfl)
                have HM := Lib.hid hm
                clear hm h0 h1
                go_wp2_with fail
                refine (may_is k n hi t _ true HM.out).mono ?_
                rintro e w2 ⟨rfl, hb2⟩
                have hw2 := below_tr hb hb2
                have B2 := Br.below hb2
                have B2' := B2
                clear c0 c1 c2 c3 c4
                obtain ⟨c0, c1, c2, c3, c4⟩ := B2'
                go_wp2_with fail
                refine (fits_is k n hi t _ false HF.out _).mono ?_
                rintro e w3 ⟨rfl, hb3⟩
                have hw3 := below_tr hw2 hb3
                go_wp2_with fail
                go_roundw
                case rel => exact ⟨j + 1, by omega, by go_num, hw3⟩
                case measure => simp [intOf]; omega
    · go_wp2_with fail
      go_ret
      exact ⟨rfl, below_tr hw1 hb⟩

theorem lawFits_any (k n hi : Int) (t : ByteArray) (hk0 : 0 ≤ k) (hk1 : k ≤ 255) (hz : t.size ≤ 140737488351232) (w : World) (hg : Good w) :
    Calls Tryd.prog 8 #[.agg #[.int .u8 k, .int .i64 n, .int .i64 hi, .string t]] w fun e w' => e = .returned (.bool true) ∧ Below w.heap.size w w' := by
  by_cases hl : t.size ≤ 5000
  · exact lawFits_small k n hi t hk0 hk1 hl w hg
  · exact lawFits_big k n hi t hz (by omega) w hg

end Go.Proofs.YtpnnkgjgkcgagaaDoor
