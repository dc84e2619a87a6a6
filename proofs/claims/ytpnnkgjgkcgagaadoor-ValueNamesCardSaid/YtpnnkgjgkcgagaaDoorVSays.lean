/-
  What the laws' own helpers says, none and works answer, as walks over this translation.
-/
import Derived.Test.YtpnnkgjgkcgagaaDoorVParse2
namespace Go.Proofs.YtpnnkgjgkcgagaaDoor
open Go.RowKit

set_option maxHeartbeats 1000000 in
theorem says_true (k n hi : Int) (t s : ByteArray) (b1 : -9223372036854775808 ≤ n ∧ n ≤ 9223372036854775807) (b2 : -9223372036854775808 ≤ hi ∧ hi ≤ 9223372036854775807) (hs : s.size ≤ 100000)
    (hm : mayB k n hi t.data.toList = true) (ht : textL k n hi t.data.toList = s.data.toList) (hp : parseR s.data.toList = ⟨k, n, hi, t.data.toList, true⟩) (w : World) (hg : Good w) :
    Calls Tryd.prog 12 #[.agg #[.int .u8 k, .int .i64 n, .int .i64 hi, .string t], .string s] w fun e w' => e = .returned (.bool true) ∧ Below w.heap.size w w' := by
  have HM := Lib.hid hm
  have HT := Lib.hid ht
  have HP := Lib.hid hp
  clear hm ht hp
  have B0 := Boxed.new w k n hi t 26
  have hb0 := Below.allocs w (.cells #[.int .u8 k, .int .i64 n, .int .i64 hi, .string t] 26)
  have hg0 := hg.below hb0
  go_enter Tryd.func12, Tryd.ntmps12
  go_wp2_with fail
  refine (parse_any s hs _ hg0).mono ?_
  rintro e w1 ⟨rfl, hb1⟩
  rw [HP.out]
  unfold paV
  rw [if_pos rfl]
  have hw1 := below_tr hb0 hb1
  have B1 := B0.below hb1
  have hg1 := hg0.below hb1
  have C1 := Boxed.new w1 k n hi t 26
  have hb2 := Below.allocs w1 (.cells #[.int .u8 k, .int .i64 n, .int .i64 hi, .string t] 26)
  have hw2 := below_tr hw1 hb2
  have hg2 := hg1.below hb2
  have B2 := B1.below hb2
  have B1' := B1
  obtain ⟨a0, a1, a2, a3, a4⟩ := B1'
  go_wp2_with fail
  refine (may_is k n hi t _ true HM.out).mono ?_
  rintro e w3 ⟨rfl, hb3⟩
  have hw3 := below_tr hw2 hb3
  have hg3 := hg2.below hb3
  have B3 := B2.below hb3
  have C3 := C1.below hb3
  have B3' := B3
  obtain ⟨c0, c1, c2, c3, c4⟩ := B3'
  go_wp2_with fail
  refine (text_any k n hi b1.1 b1.2 b2.1 b2.2 t _ hg3.toGoodT).mono ?_
  rintro e w4 ⟨rfl, hb4⟩
  rw [HT.out]
  have hw4 := below_tr hw3 hb4
  obtain ⟨d0, d1, d2, d3, d4⟩ := B3.below hb4
  obtain ⟨e0, e1, e2, e3, e4⟩ := C3.below hb4
  go_wp2_with fail
  go_ret
  exact ⟨rfl, hw4⟩
end Go.Proofs.YtpnnkgjgkcgagaaDoor
