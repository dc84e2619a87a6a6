/-
  What the laws' own helper works answers, as a walk over this translation.
-/
import Derived.Test.YtpnnkgjgkcgagaaDoorVRound
import Derived.Test.YtpnnkgjgkcgagaaDoorVSays
namespace Go.Proofs.YtpnnkgjgkcgagaaDoor
open Go.RowKit

theorem says_is (k n hi : Int) (t s : ByteArray) (b1 : -9223372036854775808 ≤ n ∧ n ≤ 9223372036854775807) (b2 : -9223372036854775808 ≤ hi ∧ hi ≤ 9223372036854775807) (hs : s.size ≤ 100000)
    (hm : mayB k n hi t.data.toList = true) (ht : textL k n hi t.data.toList = s.data.toList) (w : World) (hg : Good w) :
    Calls Tryd.prog 12 #[.agg #[.int .u8 k, .int .i64 n, .int .i64 hi, .string t], .string s] w fun e w' => e = .returned (.bool true) ∧ Below w.heap.size w w' :=
  says_true k n hi t s b1 b2 hs hm ht (by rw [← ht]; exact parse_textL k n hi _ b1 b2 hm) w hg

set_option maxHeartbeats 1000000 in
theorem none_is (s : ByteArray) (hs : s.size ≤ 100000) (hp : (parseR s.data.toList).ok = false) (w : World) (hg : Good w) :
    Calls Tryd.prog 13 #[.string s] w fun e w' => e = .returned (.bool true) ∧ Below w.heap.size w w' := by
  have HP := Lib.hid (parseR_no _ hp)
  clear hp
  go_enter Tryd.func13, Tryd.ntmps13
  go_wp2_with fail
  refine (parse_any s hs _ hg).mono ?_
  rintro e w1 ⟨rfl, hb1⟩
  rw [HP.out]
  unfold paV
  rw [if_neg (by simp)]
  have hw1 := below_tr hb1 (Below.allocs w1 (.cells #[.int .u8 0, .int .i64 0, .int .i64 0, .string ⟨#[]⟩] 26))
  go_wp2_with fail
  go_ret
  exact ⟨rfl, hw1⟩

theorem f1 : textL 1 (-5) 0 [] = [45, 53] := by decide +kernel
theorem f2 : textL 2 1 0 [] = [121, 101, 115] := by decide +kernel
theorem f3 : textL 3 0 0 [105, 116, 39, 115] = [39, 105, 116, 39, 39, 115, 39] := by decide +kernel
theorem f4 : textL 4 1 4 [] = [91, 49, 44, 52, 41] := by decide +kernel
theorem f5 : (parseR [48, 53]).ok = false := by decide +kernel
theorem f6 : (parseR [45, 48]).ok = false := by decide +kernel
theorem f7 : (parseR [91, 52, 44, 52, 41]).ok = false := by decide +kernel
theorem f8 : (parseR [39, 97]).ok = false := by decide +kernel

theorem f9 : cmpV 0 0 0 ⟨#[]⟩ 1 0 0 ⟨#[]⟩ = -1 := by decide +kernel

set_option maxHeartbeats 1000000 in
/-- The examples are as they are told: works answers true. -/
theorem works_true (w : World) (hg : Good w) :
    Calls Tryd.prog 11 #[] w fun e w' => e = .returned (.bool true) ∧ Below w.heap.size w w' := by
  go_enter Tryd.func11, Tryd.ntmps11
  go_wp2_with fail
  refine (says_is 1 (-5) 0 ⟨#[]⟩ ⟨#[45, 53]⟩ (by omega) (by omega) (by decide) (by decide +kernel) f1 _ hg).mono ?_
  rintro e w1 ⟨rfl, hb1⟩
  have hg1 := hg.below hb1
  have hw1 := hb1
  go_wp2_with fail
  refine (says_is 2 1 0 ⟨#[]⟩ ⟨#[121, 101, 115]⟩ (by omega) (by omega) (by decide) (by decide +kernel) f2 _ hg1).mono ?_
  rintro e w2 ⟨rfl, hb2⟩
  have hg2 := hg1.below hb2
  have hw2 := below_tr hw1 hb2
  go_wp2_with fail
  refine (says_is 3 0 0 ⟨#[105, 116, 39, 115]⟩ ⟨#[39, 105, 116, 39, 39, 115, 39]⟩ (by omega) (by omega) (by decide) (by decide +kernel) f3 _ hg2).mono ?_
  rintro e w3 ⟨rfl, hb3⟩
  have hg3 := hg2.below hb3
  have hw3 := below_tr hw2 hb3
  go_wp2_with fail
  refine (says_is 4 1 4 ⟨#[]⟩ ⟨#[91, 49, 44, 52, 41]⟩ (by omega) (by omega) (by decide) (by decide +kernel) f4 _ hg3).mono ?_
  rintro e w4 ⟨rfl, hb4⟩
  have hg4 := hg3.below hb4
  have hw4 := below_tr hw3 hb4
  go_wp2_with fail
  refine (none_is ⟨#[48, 53]⟩ (by decide) f5 _ hg4).mono ?_
  rintro e w5 ⟨rfl, hb5⟩
  have hg5 := hg4.below hb5
  have hw5 := below_tr hw4 hb5
  go_wp2_with fail
  refine (none_is ⟨#[45, 48]⟩ (by decide) f6 _ hg5).mono ?_
  rintro e w6 ⟨rfl, hb6⟩
  have hg6 := hg5.below hb6
  have hw6 := below_tr hw5 hb6
  go_wp2_with fail
  refine (none_is ⟨#[91, 52, 44, 52, 41]⟩ (by decide) f7 _ hg6).mono ?_
  rintro e w7 ⟨rfl, hb7⟩
  have hg7 := hg6.below hb7
  have hw7 := below_tr hw6 hb7
  go_wp2_with fail
  refine (none_is ⟨#[39, 97]⟩ (by decide) f8 _ hg7).mono ?_
  rintro e w8 ⟨rfl, hb8⟩
  have hg8 := hg7.below hb8
  have hw8 := below_tr hw7 hb8
  go_wp2_with fail
  refine (compare_any 0 0 0 ⟨#[]⟩ 1 0 0 ⟨#[]⟩ _).mono ?_
  rintro e w9 ⟨rfl, hb9⟩
  rw [f9]
  have hw9 := below_tr hw8 hb9
  go_wp2_with fail
  go_ret
  exact ⟨rfl, hw9⟩

end Go.Proofs.YtpnnkgjgkcgagaaDoor
