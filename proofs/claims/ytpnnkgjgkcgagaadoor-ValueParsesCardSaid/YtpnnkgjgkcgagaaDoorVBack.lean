/-
  The law ValueBack as a walk over this translation: it answers true, and of what was there nothing has turned.
-/
import Derived.Test.YtpnnkgjgkcgagaaDoorVWorks
namespace Go.Proofs.YtpnnkgjgkcgagaaDoor
open Go.RowKit

theorem ba_eta (t : ByteArray) : (⟨t.data.toList.toArray⟩ : ByteArray) = t := by cases t; simp

theorem text_is (k n hi : Int) (b1 : -9223372036854775808 ≤ n ∧ n ≤ 9223372036854775807) (b2 : -9223372036854775808 ≤ hi ∧ hi ≤ 9223372036854775807) (t tx : ByteArray) (h : textL k n hi t.data.toList = tx.data.toList) (w : World) (hg : GoodT w) :
    Calls Tryd.prog 15 #[.agg #[.int .u8 k, .int .i64 n, .int .i64 hi, .string t]] w fun e w' => e = .returned (.string tx) ∧ Below w.heap.size w w' :=
  (text_any k n hi b1.1 b1.2 b2.1 b2.2 t w hg).mono fun _ _ hq => by rw [h, ba_eta] at hq; exact hq

theorem parse_is (s : ByteArray) (h2 : s.size ≤ 100000) (k n hi : Int) (t : ByteArray) (h : parseR s.data.toList = ⟨k, n, hi, t.data.toList, true⟩) (w : World) (hg : Good w) :
    Calls Tryd.prog 22 #[.string s] w fun e w' => e = .returned (.tuple #[.agg #[.int .u8 k, .int .i64 n, .int .i64 hi, .string t], .int .i64 0]) ∧ Below w.heap.size w w' :=
  (parse_any s h2 w hg).mono fun _ _ hq => by
    rw [h] at hq
    have e : paV ⟨k, n, hi, t.data.toList, true⟩ = .tuple #[.agg #[.int .u8 k, .int .i64 n, .int .i64 hi, .string t], .int .i64 0] := by unfold paV; rw [if_pos rfl, ba_eta]
    rw [e] at hq
    exact hq

theorem parse_none (s : ByteArray) (h2 : s.size ≤ 100000) (h : (parseR s.data.toList).ok = false) (w : World) (hg : Good w) :
    Calls Tryd.prog 22 #[.string s] w fun e w' => e = .returned (.tuple #[.agg #[.int .u8 0, .int .i64 0, .int .i64 0, .string ⟨#[]⟩], .int .i64 4]) ∧ Below w.heap.size w w' :=
  (parse_any s h2 w hg).mono fun _ _ hq => by rw [parseR_no _ h] at hq; exact hq

theorem parseR_bounds (l : List UInt8) : (-9223372036854775808 ≤ (parseR l).n ∧ (parseR l).n ≤ 9223372036854775807) ∧ (-9223372036854775808 ≤ (parseR l).hi ∧ (parseR l).hi ≤ 9223372036854775807) := by
  unfold parseR
  split
  · exact readR_bounds l
  · simp

theorem textL_length (k n hi : Int) (b1 : -9223372036854775808 ≤ n ∧ n ≤ 9223372036854775807) (b2 : -9223372036854775808 ≤ hi ∧ hi ≤ 9223372036854775807) (t : List UInt8) (hm : mayB k n hi t = true) : (textL k n hi t).length ≤ 1000 := by
  have hn := Lib.itoa_length_le n b1.1 b1.2
  have hh := Lib.itoa_length_le hi b2.1 b2.2
  have hd := dbl_length t
  have hm' := mayB_iff.1 hm
  unfold textL
  rw [if_neg (by rw [hm]; simp)]
  rcases hm' with h | h | h | h | h
  · obtain ⟨rfl, _⟩ := h; simp
  · obtain ⟨rfl, _⟩ := h; simp; omega
  · obtain ⟨rfl, h4, _⟩ := h
    rcases h4 with rfl | rfl <;> simp
  · obtain ⟨rfl, _, _, h5⟩ := h; simp; omega
  · obtain ⟨rfl, _⟩ := h; simp; omega

set_option maxHeartbeats 4000000 in
theorem back_big1 (k n hi : Int) (t s : ByteArray) (hz : t.size ≤ 140737488351232) (hl : 5000 < t.size) (w : World) (hg : Good w) :
    Calls Tryd.prog 6 #[.agg #[.int .u8 k, .int .i64 n, .int .i64 hi, .string t], .string s] w fun e w' => e = .returned (.bool true) ∧ Below w.heap.size w w' := by
  have B0 := Boxed.new w k n hi t 26
  have hb0 := Below.allocs w (.cells #[.int .u8 k, .int .i64 n, .int .i64 hi, .string t] 26)
  have hg0 := hg.below hb0
  go_enter Tryd.func6, Tryd.ntmps6
  go_wp2_with fail
  refine (works_true _ hg0).mono ?_
  rintro e w1 ⟨rfl, hb1⟩
  have hw1 := below_tr hb0 hb1
  have hg1 := hg0.below hb1
  have B1 := B0.below hb1
  have B1' := B1
  obtain ⟨c0, c1, c2, c3, c4⟩ := B1'
  go_wp2_with fail
  refine (works_true w1 hg1).mono ?_
  rintro e wz ⟨rfl, hbz⟩
  have hwz := below_tr hw1 hbz
  go_wp2_with fail
  go_ret
  exact ⟨rfl, hwz⟩

set_option maxHeartbeats 4000000 in
theorem back_big2 (k n hi : Int) (t s : ByteArray) (hl : t.size ≤ 5000) (hzs : s.size ≤ 140737488351232) (hls : 5000 < s.size) (w : World) (hg : Good w) :
    Calls Tryd.prog 6 #[.agg #[.int .u8 k, .int .i64 n, .int .i64 hi, .string t], .string s] w fun e w' => e = .returned (.bool true) ∧ Below w.heap.size w w' := by
  have hd1 : decide (5000 < (t.size : Int)) = false := by simp; omega
  have B0 := Boxed.new w k n hi t 26
  have hb0 := Below.allocs w (.cells #[.int .u8 k, .int .i64 n, .int .i64 hi, .string t] 26)
  have hg0 := hg.below hb0
  go_enter Tryd.func6, Tryd.ntmps6
  go_wp2_with fail
  refine (works_true _ hg0).mono ?_
  rintro e w1 ⟨rfl, hb1⟩
  have hw1 := below_tr hb0 hb1
  have hg1 := hg0.below hb1
  have B1 := B0.below hb1
  have B1' := B1
  obtain ⟨c0, c1, c2, c3, c4⟩ := B1'
  go_wp2_with fail
  refine (works_true w1 hg1).mono ?_
  rintro e wz ⟨rfl, hbz⟩
  have hwz := below_tr hw1 hbz
  go_wp2_with fail
  go_ret
  exact ⟨rfl, hwz⟩

set_option maxHeartbeats 4000000 in
theorem back_fn (k n hi : Int) (t s : ByteArray) (b1 : -9223372036854775808 ≤ n ∧ n ≤ 9223372036854775807) (b2 : -9223372036854775808 ≤ hi ∧ hi ≤ 9223372036854775807) (hl : t.size ≤ 5000) (hls : s.size ≤ 5000) (hm : mayB k n hi t.data.toList = false) (hp : (parseR s.data.toList).ok = false) (w : World) (hg : Good w) :
    Calls Tryd.prog 6 #[.agg #[.int .u8 k, .int .i64 n, .int .i64 hi, .string t], .string s] w fun e w' => e = .returned (.bool true) ∧ Below w.heap.size w w' := by
  have hd1 : decide (5000 < (t.size : Int)) = false := by simp; omega
  have hd2 : decide (5000 < (s.size : Int)) = false := by simp; omega
  have HT := Lib.hid (show textL k n hi t.data.toList = (⟨#[]⟩ : ByteArray).data.toList by simp [textL, hm])
  have HM := Lib.hid hm
  clear hm
  have HP := Lib.hid hp
  clear hp
  have B0 := Boxed.new w k n hi t 26
  have hb0 := Below.allocs w (.cells #[.int .u8 k, .int .i64 n, .int .i64 hi, .string t] 26)
  have hg0 := hg.below hb0
  go_enter Tryd.func6, Tryd.ntmps6
  go_wp2_with fail
  refine (works_true _ hg0).mono ?_
  rintro e w1 ⟨rfl, hb1⟩
  have hw1 := below_tr hb0 hb1
  have hg1 := hg0.below hb1
  have B1 := B0.below hb1
  have B1' := B1
  obtain ⟨c0, c1, c2, c3, c4⟩ := B1'
  go_wp2_with fail
  refine (text_is k n hi b1 b2 t ⟨#[]⟩ HT.out _ hg1.toGoodT).mono ?_
  rintro e w2 ⟨rfl, hb2⟩
  have hw2 := below_tr hw1 hb2
  have hg2 := hg1.below hb2
  have B2 := B1.below hb2
  clear c0 c1 c2 c3 c4
  have B2' := B2
  obtain ⟨c0, c1, c2, c3, c4⟩ := B2'
  go_wp2_with fail
  refine (may_is k n hi t _ false HM.out).mono ?_
  rintro e w3 ⟨rfl, hb3⟩
  have hw3 := below_tr hw2 hb3
  have hg3 := hg2.below hb3
  have B3 := B2.below hb3
  clear c0 c1 c2 c3 c4
  have B3' := B3
  obtain ⟨c0, c1, c2, c3, c4⟩ := B3'
  go_wp2_with fail
  refine (may_is k n hi t _ false HM.out).mono ?_
  rintro e w4 ⟨rfl, hb4⟩
  have hw4 := below_tr hw3 hb4
  have hg4 := hg3.below hb4
  have B4 := B3.below hb4
  clear c0 c1 c2 c3 c4
  have B4' := B4
  obtain ⟨c0, c1, c2, c3, c4⟩ := B4'
  go_wp2_with fail
  refine (parse_none s (by omega) HP.out _ hg4).mono ?_
  rintro e w5 ⟨rfl, hb5⟩
  have hw5 := below_tr hw4 hb5
  go_wp2_with fail
  go_ret
  exact ⟨rfl, below_tr hw5 (Below.allocs _ _)⟩

set_option maxHeartbeats 4000000 in
theorem back_fo (k n hi : Int) (t s : ByteArray) (b1 : -9223372036854775808 ≤ n ∧ n ≤ 9223372036854775807) (b2 : -9223372036854775808 ≤ hi ∧ hi ≤ 9223372036854775807) (hl : t.size ≤ 5000) (hls : s.size ≤ 5000) (hm : mayB k n hi t.data.toList = false) (k2 n2 hi2 : Int) (t2 : ByteArray) (hp : parseR s.data.toList = ⟨k2, n2, hi2, t2.data.toList, true⟩) (w : World) (hg : Good w) :
    Calls Tryd.prog 6 #[.agg #[.int .u8 k, .int .i64 n, .int .i64 hi, .string t], .string s] w fun e w' => e = .returned (.bool true) ∧ Below w.heap.size w w' := by
  have hd1 : decide (5000 < (t.size : Int)) = false := by simp; omega
  have hd2 : decide (5000 < (s.size : Int)) = false := by simp; omega
  have HT := Lib.hid (show textL k n hi t.data.toList = (⟨#[]⟩ : ByteArray).data.toList by simp [textL, hm])
  have HM := Lib.hid hm
  clear hm
  have hb34 := parseR_bounds s.data.toList
  have hok := parseR_ok s.data.toList (by rw [hp])
  rw [hp] at hb34 hok
  have b3 : -9223372036854775808 ≤ n2 ∧ n2 ≤ 9223372036854775807 := hb34.1
  have b4 : -9223372036854775808 ≤ hi2 ∧ hi2 ≤ 9223372036854775807 := hb34.2
  have HM2 := Lib.hid (show mayB k2 n2 hi2 t2.data.toList = true from hok.1)
  have HT2 := Lib.hid (show textL k2 n2 hi2 t2.data.toList = s.data.toList from hok.2)
  have HP := Lib.hid hp
  clear hp hb34 hok
  have B0 := Boxed.new w k n hi t 26
  have hb0 := Below.allocs w (.cells #[.int .u8 k, .int .i64 n, .int .i64 hi, .string t] 26)
  have hg0 := hg.below hb0
  go_enter Tryd.func6, Tryd.ntmps6
  go_wp2_with fail
  refine (works_true _ hg0).mono ?_
  rintro e w1 ⟨rfl, hb1⟩
  have hw1 := below_tr hb0 hb1
  have hg1 := hg0.below hb1
  have B1 := B0.below hb1
  have B1' := B1
  obtain ⟨c0, c1, c2, c3, c4⟩ := B1'
  go_wp2_with fail
  refine (text_is k n hi b1 b2 t ⟨#[]⟩ HT.out _ hg1.toGoodT).mono ?_
  rintro e w2 ⟨rfl, hb2⟩
  have hw2 := below_tr hw1 hb2
  have hg2 := hg1.below hb2
  have B2 := B1.below hb2
  clear c0 c1 c2 c3 c4
  have B2' := B2
  obtain ⟨c0, c1, c2, c3, c4⟩ := B2'
  go_wp2_with fail
  refine (may_is k n hi t _ false HM.out).mono ?_
  rintro e w3 ⟨rfl, hb3⟩
  have hw3 := below_tr hw2 hb3
  have hg3 := hg2.below hb3
  have B3 := B2.below hb3
  clear c0 c1 c2 c3 c4
  have B3' := B3
  obtain ⟨c0, c1, c2, c3, c4⟩ := B3'
  go_wp2_with fail
  refine (may_is k n hi t _ false HM.out).mono ?_
  rintro e w4 ⟨rfl, hb4⟩
  have hw4 := below_tr hw3 hb4
  have hg4 := hg3.below hb4
  have B4 := B3.below hb4
  clear c0 c1 c2 c3 c4
  have B4' := B4
  obtain ⟨c0, c1, c2, c3, c4⟩ := B4'
  go_wp2_with fail
  refine (parse_is s (by omega) k2 n2 hi2 t2 HP.out _ hg4).mono ?_
  rintro e w5 ⟨rfl, hb5⟩
  have hw5 := below_tr hw4 hb5
  have hg5 := hg4.below hb5
  have hba := Below.allocs w5 (.cells #[.int .u8 k2, .int .i64 n2, .int .i64 hi2, .string t2] 26)
  have hwa := below_tr hw5 hba
  have hga := hg5.below hba
  have D0 := Boxed.new w5 k2 n2 hi2 t2 26
  go_wp2_with fail
  refine (may_is k2 n2 hi2 t2 _ true HM2.out).mono ?_
  rintro e wm ⟨rfl, hbm⟩
  have hwm := below_tr hwa hbm
  have hgm := hga.below hbm
  obtain ⟨x0, x1, x2, x3, x4⟩ := D0.below hbm
  go_wp2_with fail
  refine (text_is k2 n2 hi2 b3 b4 t2 s HT2.out _ hgm.toGoodT).mono ?_
  rintro e wt ⟨rfl, hbt⟩
  have hwt := below_tr hwm hbt
  go_wp2_with fail
  go_ret
  exact ⟨rfl, hwt⟩

set_option maxHeartbeats 4000000 in
theorem back_tn (k n hi : Int) (t s : ByteArray) (b1 : -9223372036854775808 ≤ n ∧ n ≤ 9223372036854775807) (b2 : -9223372036854775808 ≤ hi ∧ hi ≤ 9223372036854775807) (hl : t.size ≤ 5000) (hls : s.size ≤ 5000) (hm : mayB k n hi t.data.toList = true) (hp : (parseR s.data.toList).ok = false) (w : World) (hg : Good w) :
    Calls Tryd.prog 6 #[.agg #[.int .u8 k, .int .i64 n, .int .i64 hi, .string t], .string s] w fun e w' => e = .returned (.bool true) ∧ Below w.heap.size w w' := by
  have hd1 : decide (5000 < (t.size : Int)) = false := by simp; omega
  have hd2 : decide (5000 < (s.size : Int)) = false := by simp; omega
  obtain ⟨tx, htx⟩ : ∃ tx : ByteArray, textL k n hi t.data.toList = tx.data.toList := ⟨⟨(textL k n hi t.data.toList).toArray⟩, rfl⟩
  have hne : (tx.toList == []) = false := by
    have := textL_ne k n hi t.data.toList hm
    rw [htx] at this
    rw [ByteArray.toList_eq]
    simpa using this
  have hlen : tx.size ≤ 1000 := by
    have := textL_length k n hi b1 b2 t.data.toList hm
    rw [htx] at this
    simpa using this
  have hpt : parseR tx.data.toList = ⟨k, n, hi, t.data.toList, true⟩ := by
    have := parse_textL k n hi t.data.toList b1 b2 hm
    rwa [htx] at this
  have HT := Lib.hid htx
  have HM := Lib.hid hm
  have HQ := Lib.hid hpt
  clear hm htx hpt
  have HP := Lib.hid hp
  clear hp
  have B0 := Boxed.new w k n hi t 26
  have hb0 := Below.allocs w (.cells #[.int .u8 k, .int .i64 n, .int .i64 hi, .string t] 26)
  have hg0 := hg.below hb0
  go_enter Tryd.func6, Tryd.ntmps6
  go_wp2_with fail
  refine (works_true _ hg0).mono ?_
  rintro e w1 ⟨rfl, hb1⟩
  have hw1 := below_tr hb0 hb1
  have hg1 := hg0.below hb1
  have B1 := B0.below hb1
  have B1' := B1
  obtain ⟨c0, c1, c2, c3, c4⟩ := B1'
  go_wp2_with fail
  refine (text_is k n hi b1 b2 t tx HT.out _ hg1.toGoodT).mono ?_
  rintro e w2 ⟨rfl, hb2⟩
  have hw2 := below_tr hw1 hb2
  have hg2 := hg1.below hb2
  have B2 := B1.below hb2
  clear c0 c1 c2 c3 c4
  have B2' := B2
  obtain ⟨c0, c1, c2, c3, c4⟩ := B2'
  go_wp2_with fail
  refine (may_is k n hi t _ true HM.out).mono ?_
  rintro e w3 ⟨rfl, hb3⟩
  have hw3 := below_tr hw2 hb3
  have hg3 := hg2.below hb3
  have B3 := B2.below hb3
  clear c0 c1 c2 c3 c4
  have B3' := B3
  obtain ⟨c0, c1, c2, c3, c4⟩ := B3'
  go_wp2_with fail
  refine (may_is k n hi t _ true HM.out).mono ?_
  rintro e w4 ⟨rfl, hb4⟩
  have hw4 := below_tr hw3 hb4
  have hg4 := hg3.below hb4
  have B4 := B3.below hb4
  clear c0 c1 c2 c3 c4
  have B4' := B4
  obtain ⟨c0, c1, c2, c3, c4⟩ := B4'
  go_wp2_with fail
  refine (parse_is tx (by omega) k n hi t HQ.out _ hg4).mono ?_
  rintro e w5 ⟨rfl, hb5⟩
  have hw5 := below_tr hw4 hb5
  have hg5 := hg4.below hb5
  have B5 := B4.below hb5
  have hb6 := Below.allocs w5 (.cells #[.int .u8 k, .int .i64 n, .int .i64 hi, .string t] 26)
  have hw6 := below_tr hw5 hb6
  have hg6 := hg5.below hb6
  clear c0 c1 c2 c3 c4
  have B5' := B5
  obtain ⟨c0, c1, c2, c3, c4⟩ := B5'
  go_wp2_with fail
  refine (parse_none s (by omega) HP.out _ hg6).mono ?_
  rintro e w7 ⟨rfl, hb7⟩
  have hw7 := below_tr hw6 hb7
  go_wp2_with fail
  go_ret
  exact ⟨rfl, below_tr hw7 (Below.allocs _ _)⟩

set_option maxHeartbeats 4000000 in
theorem back_to (k n hi : Int) (t s : ByteArray) (b1 : -9223372036854775808 ≤ n ∧ n ≤ 9223372036854775807) (b2 : -9223372036854775808 ≤ hi ∧ hi ≤ 9223372036854775807) (hl : t.size ≤ 5000) (hls : s.size ≤ 5000) (hm : mayB k n hi t.data.toList = true) (k2 n2 hi2 : Int) (t2 : ByteArray) (hp : parseR s.data.toList = ⟨k2, n2, hi2, t2.data.toList, true⟩) (w : World) (hg : Good w) :
    Calls Tryd.prog 6 #[.agg #[.int .u8 k, .int .i64 n, .int .i64 hi, .string t], .string s] w fun e w' => e = .returned (.bool true) ∧ Below w.heap.size w w' := by
  have hd1 : decide (5000 < (t.size : Int)) = false := by simp; omega
  have hd2 : decide (5000 < (s.size : Int)) = false := by simp; omega
  obtain ⟨tx, htx⟩ : ∃ tx : ByteArray, textL k n hi t.data.toList = tx.data.toList := ⟨⟨(textL k n hi t.data.toList).toArray⟩, rfl⟩
  have hne : (tx.toList == []) = false := by
    have := textL_ne k n hi t.data.toList hm
    rw [htx] at this
    rw [ByteArray.toList_eq]
    simpa using this
  have hlen : tx.size ≤ 1000 := by
    have := textL_length k n hi b1 b2 t.data.toList hm
    rw [htx] at this
    simpa using this
  have hpt : parseR tx.data.toList = ⟨k, n, hi, t.data.toList, true⟩ := by
    have := parse_textL k n hi t.data.toList b1 b2 hm
    rwa [htx] at this
  have HT := Lib.hid htx
  have HM := Lib.hid hm
  have HQ := Lib.hid hpt
  clear hm htx hpt
  have hb34 := parseR_bounds s.data.toList
  have hok := parseR_ok s.data.toList (by rw [hp])
  rw [hp] at hb34 hok
  have b3 : -9223372036854775808 ≤ n2 ∧ n2 ≤ 9223372036854775807 := hb34.1
  have b4 : -9223372036854775808 ≤ hi2 ∧ hi2 ≤ 9223372036854775807 := hb34.2
  have HM2 := Lib.hid (show mayB k2 n2 hi2 t2.data.toList = true from hok.1)
  have HT2 := Lib.hid (show textL k2 n2 hi2 t2.data.toList = s.data.toList from hok.2)
  have HP := Lib.hid hp
  clear hp hb34 hok
  have B0 := Boxed.new w k n hi t 26
  have hb0 := Below.allocs w (.cells #[.int .u8 k, .int .i64 n, .int .i64 hi, .string t] 26)
  have hg0 := hg.below hb0
  go_enter Tryd.func6, Tryd.ntmps6
  go_wp2_with fail
  refine (works_true _ hg0).mono ?_
  rintro e w1 ⟨rfl, hb1⟩
  have hw1 := below_tr hb0 hb1
  have hg1 := hg0.below hb1
  have B1 := B0.below hb1
  have B1' := B1
  obtain ⟨c0, c1, c2, c3, c4⟩ := B1'
  go_wp2_with fail
  refine (text_is k n hi b1 b2 t tx HT.out _ hg1.toGoodT).mono ?_
  rintro e w2 ⟨rfl, hb2⟩
  have hw2 := below_tr hw1 hb2
  have hg2 := hg1.below hb2
  have B2 := B1.below hb2
  clear c0 c1 c2 c3 c4
  have B2' := B2
  obtain ⟨c0, c1, c2, c3, c4⟩ := B2'
  go_wp2_with fail
  refine (may_is k n hi t _ true HM.out).mono ?_
  rintro e w3 ⟨rfl, hb3⟩
  have hw3 := below_tr hw2 hb3
  have hg3 := hg2.below hb3
  have B3 := B2.below hb3
  clear c0 c1 c2 c3 c4
  have B3' := B3
  obtain ⟨c0, c1, c2, c3, c4⟩ := B3'
  go_wp2_with fail
  refine (may_is k n hi t _ true HM.out).mono ?_
  rintro e w4 ⟨rfl, hb4⟩
  have hw4 := below_tr hw3 hb4
  have hg4 := hg3.below hb4
  have B4 := B3.below hb4
  clear c0 c1 c2 c3 c4
  have B4' := B4
  obtain ⟨c0, c1, c2, c3, c4⟩ := B4'
  go_wp2_with fail
  refine (parse_is tx (by omega) k n hi t HQ.out _ hg4).mono ?_
  rintro e w5 ⟨rfl, hb5⟩
  have hw5 := below_tr hw4 hb5
  have hg5 := hg4.below hb5
  have B5 := B4.below hb5
  have hb6 := Below.allocs w5 (.cells #[.int .u8 k, .int .i64 n, .int .i64 hi, .string t] 26)
  have hw6 := below_tr hw5 hb6
  have hg6 := hg5.below hb6
  clear c0 c1 c2 c3 c4
  have B5' := B5
  obtain ⟨c0, c1, c2, c3, c4⟩ := B5'
  go_wp2_with fail
  refine (parse_is s (by omega) k2 n2 hi2 t2 HP.out _ hg6).mono ?_
  rintro e w7 ⟨rfl, hb7⟩
  have hw7 := below_tr hw6 hb7
  have hg7 := hg6.below hb7
  have hba := Below.allocs w7 (.cells #[.int .u8 k2, .int .i64 n2, .int .i64 hi2, .string t2] 26)
  have hwa := below_tr hw7 hba
  have hga := hg7.below hba
  have D0 := Boxed.new w7 k2 n2 hi2 t2 26
  go_wp2_with fail
  refine (may_is k2 n2 hi2 t2 _ true HM2.out).mono ?_
  rintro e wm ⟨rfl, hbm⟩
  have hwm := below_tr hwa hbm
  have hgm := hga.below hbm
  obtain ⟨x0, x1, x2, x3, x4⟩ := D0.below hbm
  go_wp2_with fail
  refine (text_is k2 n2 hi2 b3 b4 t2 s HT2.out _ hgm.toGoodT).mono ?_
  rintro e wt ⟨rfl, hbt⟩
  have hwt := below_tr hwm hbt
  go_wp2_with fail
  go_ret
  exact ⟨rfl, hwt⟩


theorem back_any (k n hi : Int) (t s : ByteArray) (b1 : -9223372036854775808 ≤ n ∧ n ≤ 9223372036854775807) (b2 : -9223372036854775808 ≤ hi ∧ hi ≤ 9223372036854775807) (hz : t.size ≤ 140737488351232) (hzs : s.size ≤ 140737488351232) (w : World) (hg : Good w) :
    Calls Tryd.prog 6 #[.agg #[.int .u8 k, .int .i64 n, .int .i64 hi, .string t], .string s] w fun e w' => e = .returned (.bool true) ∧ Below w.heap.size w w' := by
  by_cases hl : t.size ≤ 5000
  · by_cases hls : s.size ≤ 5000
    · cases hpo : (parseR s.data.toList).ok
      · cases hm : mayB k n hi t.data.toList
        · exact back_fn k n hi t s b1 b2 hl hls hm hpo w hg
        · exact back_tn k n hi t s b1 b2 hl hls hm hpo w hg
      · obtain ⟨k2, n2, hi2, t2, hp⟩ : ∃ k2 n2 hi2, ∃ t2 : ByteArray, parseR s.data.toList = ⟨k2, n2, hi2, t2.data.toList, true⟩ := by
          cases hr : parseR s.data.toList with
          | mk k2 n2 hi2 t2 ok =>
            rw [hr] at hpo
            have e : ok = true := hpo
            exact ⟨k2, n2, hi2, ⟨t2.toArray⟩, by rw [e]⟩
        cases hm : mayB k n hi t.data.toList
        · exact back_fo k n hi t s b1 b2 hl hls hm k2 n2 hi2 t2 hp w hg
        · exact back_to k n hi t s b1 b2 hl hls hm k2 n2 hi2 t2 hp w hg
    · exact back_big2 k n hi t s hl hzs (by omega) w hg
  · exact back_big1 k n hi t s hz (by omega) w hg

end Go.Proofs.YtpnnkgjgkcgagaaDoor
