/-
  What value.Text answers, as walks over this translation.
-/
import Derived.Test.YtenpjfkiehcjlaaGreatDoorVMay
import Derived.Test.YtenpjfkiehcjlaaGreatDoorVBase
import Derived.Test.YtenpjfkiehcjlaaGreatDoorReg
namespace Go.Proofs.YtenpjfkiehcjlaaGreatDoor
open Go.RowKit

theorem may_is (k n hi : Int) (t : ByteArray) (w : World) (b : Bool) (h : mayB k n hi t.data.toList = b) :
    Calls Tryz.prog 57 #[.agg #[.int .u8 k, .int .i64 n, .int .i64 hi, .string t]] w fun e w' => e = .returned (.bool b) ∧ Below w.heap.size w w' :=
  (may_any k n hi t w).mono fun _ _ hq => by rw [h] at hq; exact hq

set_option maxHeartbeats 400000 in
theorem text_bad (k n hi : Int) (t : ByteArray) (w : World) (hm : mayB k n hi t.data.toList = false) :
    Calls Tryz.prog 41 #[.agg #[.int .u8 k, .int .i64 n, .int .i64 hi, .string t]] w fun e w' => e = .returned (.string ⟨(textL k n hi t.data.toList).toArray⟩) ∧ Below w.heap.size w w' := by
  have HM := Lib.hid hm
  clear hm
  go_enter Tryz.func41, Tryz.ntmps41
  go_wp2_with fail
  refine (may_is k n hi t _ false HM.out).mono ?_
  rintro e w1 ⟨rfl, hb1⟩
  go_wp2_with fail
  go_ret
  exact ⟨by simp [textL, HM.out], below_tr (Below.allocs _ _) hb1⟩

set_option maxHeartbeats 400000 in
theorem text_0 (n hi : Int) (t : ByteArray) (w : World) (hm : mayB 0 n hi t.data.toList = true) :
    Calls Tryz.prog 41 #[.agg #[.int .u8 0, .int .i64 n, .int .i64 hi, .string t]] w fun e w' => e = .returned (.string ⟨(textL 0 n hi t.data.toList).toArray⟩) ∧ Below w.heap.size w w' := by
  have HM := Lib.hid hm
  clear hm
  go_enter Tryz.func41, Tryz.ntmps41
  go_wp2_with fail
  refine (may_is 0 n hi t _ true HM.out).mono ?_
  rintro e w1 ⟨rfl, hb1⟩
  obtain ⟨c0, c1, c2, c3, c4⟩ := (Boxed.new w 0 n hi t 37).below hb1
  go_wp2_with fail
  go_ret
  exact ⟨by simp [textL, HM.out], below_tr (Below.allocs _ _) hb1⟩

set_option maxHeartbeats 400000 in
theorem text_1 (n hi : Int) (h0 : -9223372036854775808 ≤ n) (h1 : n ≤ 9223372036854775807) (t : ByteArray) (w : World) (hg : GoodT w) (hm : mayB 1 n hi t.data.toList = true) :
    Calls Tryz.prog 41 #[.agg #[.int .u8 1, .int .i64 n, .int .i64 hi, .string t]] w fun e w' => e = .returned (.string ⟨(textL 1 n hi t.data.toList).toArray⟩) ∧ Below w.heap.size w w' := by
  have HM := Lib.hid hm
  clear hm
  go_enter Tryz.func41, Tryz.ntmps41
  go_wp2_with fail
  refine (may_is 1 n hi t _ true HM.out).mono ?_
  rintro e w1 ⟨rfl, hb1⟩
  obtain ⟨c0, c1, c2, c3, c4⟩ := (Boxed.new w 1 n hi t 37).below hb1
  go_wp2_with fail
  refine (decimal_any n h0 h1 _ ((hg.below (Below.allocs _ _)).below hb1)).mono ?_
  rintro e w2 ⟨rfl, hb2⟩
  go_wp2_with fail
  go_ret
  exact ⟨by simp [textL, HM.out], below_tr (below_tr (Below.allocs _ _) hb1) hb2⟩

set_option maxHeartbeats 400000 in
theorem text_2 (n hi : Int) (t : ByteArray) (w : World) (hm : mayB 2 n hi t.data.toList = true) :
    Calls Tryz.prog 41 #[.agg #[.int .u8 2, .int .i64 n, .int .i64 hi, .string t]] w fun e w' => e = .returned (.string ⟨(textL 2 n hi t.data.toList).toArray⟩) ∧ Below w.heap.size w w' := by
  have HM := Lib.hid hm
  clear hm
  go_enter Tryz.func41, Tryz.ntmps41
  go_wp2_with fail
  refine (may_is 2 n hi t _ true HM.out).mono ?_
  rintro e w1 ⟨rfl, hb1⟩
  obtain ⟨c0, c1, c2, c3, c4⟩ := (Boxed.new w 2 n hi t 37).below hb1
  go_wp2_with fail
  refine (truth_any n _).mono ?_
  rintro e w2 ⟨rfl, hb2⟩
  go_wp2_with fail
  go_ret
  exact ⟨by simp [textL, truthL, HM.out], below_tr (below_tr (Below.allocs _ _) hb1) hb2⟩

theorem quotes_any (t : ByteArray) (hlen : t.size ≤ 256) (w : World) (hg : GoodT w) :
    Calls Tryz.prog 60 #[.string t, .string ⟨#[39]⟩, .string ⟨#[39, 39]⟩] w fun e w' => e = .returned (.string ⟨(dbl t.data.toList).toArray⟩) ∧ Below w.heap.size w w' := by
  have e1 : (⟨#[39]⟩ : ByteArray).size = 1 := rfl
  have e2 : (⟨#[39, 39]⟩ : ByteArray).size = 2 := rfl
  refine (Tryz.strings_ReplaceAll_shaped t ⟨#[39]⟩ ⟨#[39, 39]⟩ _ hg.shaped (by omega) (by decide) ?_).mono ?_
  · have := Lib.countB_mul_le ⟨#[39]⟩ (by decide) t.size t (Nat.le_refl _)
    rw [e1] at this
    rw [e2]
    omega
  · rintro e w2 ⟨rfl, hb2⟩
    have := replaceAll_dbl t.data.toList
    exact ⟨by rw [← this], hb2⟩

set_option maxHeartbeats 400000 in
theorem text_3 (n hi : Int) (t : ByteArray) (w : World) (hg : GoodT w) (hm : mayB 3 n hi t.data.toList = true) :
    Calls Tryz.prog 41 #[.agg #[.int .u8 3, .int .i64 n, .int .i64 hi, .string t]] w fun e w' => e = .returned (.string ⟨(textL 3 n hi t.data.toList).toArray⟩) ∧ Below w.heap.size w w' := by
  have hlen : t.size ≤ 256 := by
    have := mayB_iff.1 hm
    unfold mayP at this
    have e : t.data.toList.length = t.size := by simp
    omega
  have HM := Lib.hid hm
  clear hm
  go_enter Tryz.func41, Tryz.ntmps41
  go_wp2_with fail
  refine (may_is 3 n hi t _ true HM.out).mono ?_
  rintro e w1 ⟨rfl, hb1⟩
  obtain ⟨c0, c1, c2, c3, c4⟩ := (Boxed.new w 3 n hi t 37).below hb1
  go_wp2_with fail
  refine (quotes_any t hlen _ ((hg.below (Below.allocs _ _)).below hb1)).mono ?_
  rintro e w2 ⟨rfl, hb2⟩
  have hd := dbl_length t.data.toList
  have hl : t.data.toList.length = t.size := by simp
  have hd2 : (dbl t.data.toList).length ≤ 512 := by omega
  clear hd hl
  go_wp2_with fail
  go_ret
  refine ⟨?_, below_tr (below_tr (Below.allocs _ _) hb1) hb2⟩
  have e1 : textL 3 n hi t.data.toList = 39 :: (dbl t.data.toList ++ [39]) := by simp [textL, HM.out]
  rw [e1]
  refine congrArg (fun b => Ending.returned (.string b)) ?_
  have e2 := ba_app [39] (dbl t.data.toList)
  have e3 := ba_app ([39] ++ dbl t.data.toList) [39]
  rw [← e2] at e3
  exact e3

set_option maxHeartbeats 1000000 in
theorem text_4 (n hi : Int) (h0 : -9223372036854775808 ≤ n) (h1 : n ≤ 9223372036854775807) (h2 : -9223372036854775808 ≤ hi) (h3 : hi ≤ 9223372036854775807) (t : ByteArray) (w : World) (hg : GoodT w) (hm : mayB 4 n hi t.data.toList = true) :
    Calls Tryz.prog 41 #[.agg #[.int .u8 4, .int .i64 n, .int .i64 hi, .string t]] w fun e w' => e = .returned (.string ⟨(textL 4 n hi t.data.toList).toArray⟩) ∧ Below w.heap.size w w' := by
  have HM := Lib.hid hm
  clear hm
  have hn1 := Lib.itoa_length_le n h0 h1
  have hn2 := Lib.itoa_length_le hi h2 h3
  go_enter Tryz.func41, Tryz.ntmps41
  go_wp2_with fail
  refine (may_is 4 n hi t _ true HM.out).mono ?_
  rintro e w1 ⟨rfl, hb1⟩
  have hb := below_tr (Below.allocs _ _) hb1
  have hg1 := (hg.below (Below.allocs _ _)).below hb1
  have B := (Boxed.new w 4 n hi t 37).below hb1
  have B2 := B
  obtain ⟨c0, c1, c2, c3, c4⟩ := B2
  go_wp2_with fail
  refine wp_region_text (fun w' => Below w1.heap.size w1 w') (by kernel_rfl) (by kernel_rfl) (by kernel_rfl) (fun _ d _ _ _ h => by cases d <;> exact h) (Below.refl _ _).drew ?_
  refine seqS_value ?_ (by rfl) (fun w' hw' => ?_) ?_
  rotate_left
  · go_simp
    first | with_reducible rfl | rw [if_neg (by omega)]
  simp only [Act.put, List.setIfInBounds_toArray, List.set_cons_zero, List.set_cons_succ]
  refine seqS_value ?_ (by rfl) (fun w' hw' => ?_) ?_
  rotate_left
  · obtain ⟨d0, d1, d2, d3, d4⟩ := B.below hw'
    go_simp
    with_reducible rfl
  simp only [Act.put, List.setIfInBounds_toArray, List.set_cons_zero, List.set_cons_succ]
  refine seqS_call 58 #[.int .i64 n] (.string ⟨(Lib.itoa n).toArray⟩) (by rfl) (fun w' hw' => ?_) (fun w' hw' => (decimal_any n h0 h1 w' (hg1.below hw')).mono fun _ _ hq => ⟨hq.1, below_tr hw' hq.2⟩) ?_
  · go_simp
  simp only [Act.put, List.setIfInBounds_toArray, List.set_cons_zero, List.set_cons_succ]
  refine seqS_value ?_ (by rfl) (fun w' hw' => ?_) ?_
  rotate_left
  · go_simp
    first | with_reducible rfl | rw [if_neg (by omega)]
  simp only [Act.put, List.setIfInBounds_toArray, List.set_cons_zero, List.set_cons_succ]
  refine seqS_value ?_ (by rfl) (fun w' hw' => ?_) ?_
  rotate_left
  · go_simp
    first | with_reducible rfl | rw [if_neg (by omega)]
  simp only [Act.put, List.setIfInBounds_toArray, List.set_cons_zero, List.set_cons_succ]
  refine seqS_value ?_ (by rfl) (fun w' hw' => ?_) ?_
  rotate_left
  · go_simp
    first | with_reducible rfl | rw [if_neg (by omega)]
  simp only [Act.put, List.setIfInBounds_toArray, List.set_cons_zero, List.set_cons_succ]
  refine seqS_value ?_ (by rfl) (fun w' hw' => ?_) ?_
  rotate_left
  · obtain ⟨d0, d1, d2, d3, d4⟩ := B.below hw'
    go_simp
    with_reducible rfl
  simp only [Act.put, List.setIfInBounds_toArray, List.set_cons_zero, List.set_cons_succ]
  refine seqS_call 58 #[.int .i64 hi] (.string ⟨(Lib.itoa hi).toArray⟩) (by rfl) (fun w' hw' => ?_) (fun w' hw' => (decimal_any hi h2 h3 w' (hg1.below hw')).mono fun _ _ hq => ⟨hq.1, below_tr hw' hq.2⟩) ?_
  · go_simp
  simp only [Act.put, List.setIfInBounds_toArray, List.set_cons_zero, List.set_cons_succ]
  refine seqS_value ?_ (by rfl) (fun w' hw' => ?_) ?_
  rotate_left
  · go_simp
    first | with_reducible rfl | rw [if_neg (by omega)]
  simp only [Act.put, List.setIfInBounds_toArray, List.set_cons_zero, List.set_cons_succ]
  refine seqS_value ?_ (by rfl) (fun w' hw' => ?_) ?_
  rotate_left
  · go_simp
    first | with_reducible rfl | rw [if_neg (by omega)]
  simp only [Act.put, List.setIfInBounds_toArray, List.set_cons_zero, List.set_cons_succ]
  refine seqS_value ?_ (by rfl) (fun w' hw' => ?_) ?_
  rotate_left
  · go_simp
    first | with_reducible rfl | rw [if_neg (by omega)]
  simp only [Act.put, List.setIfInBounds_toArray, List.set_cons_zero, List.set_cons_succ]
  refine seqS_nil fun w2 hw2 => ?_
  go_wp2_with fail
  go_ret
  refine ⟨?_, below_tr hb hw2⟩
  have e1 : textL 4 n hi t.data.toList = 91 :: (Lib.itoa n ++ 44 :: (Lib.itoa hi ++ [41])) := by simp [textL, HM.out]
  rw [e1]
  refine congrArg (fun b => Ending.returned (.string b)) ?_
  have e2 := ba_app [91] (Lib.itoa n)
  have e3 := ba_app ([91] ++ Lib.itoa n) [44]
  have e4 := ba_app ([91] ++ Lib.itoa n ++ [44]) (Lib.itoa hi)
  have e5 := ba_app ([91] ++ Lib.itoa n ++ [44] ++ Lib.itoa hi) [41]
  rw [← e4, ← e3, ← e2] at e5
  refine e5.trans ?_
  simp

theorem text_any (k n hi : Int) (h0 : -9223372036854775808 ≤ n) (h1 : n ≤ 9223372036854775807) (h2 : -9223372036854775808 ≤ hi) (h3 : hi ≤ 9223372036854775807) (t : ByteArray) (w : World) (hg : GoodT w) :
    Calls Tryz.prog 41 #[.agg #[.int .u8 k, .int .i64 n, .int .i64 hi, .string t]] w fun e w' => e = .returned (.string ⟨(textL k n hi t.data.toList).toArray⟩) ∧ Below w.heap.size w w' := by
  cases hm : mayB k n hi t.data.toList
  · exact text_bad k n hi t w hm
  · rcases mayB_iff.1 hm with h | h | h | h | h
    · obtain ⟨rfl, _⟩ := h; exact text_0 n hi t w hm
    · obtain ⟨rfl, _⟩ := h; exact text_1 n hi h0 h1 t w hg hm
    · obtain ⟨rfl, _⟩ := h; exact text_2 n hi t w hm
    · obtain ⟨rfl, _⟩ := h; exact text_3 n hi t w hg hm
    · obtain ⟨rfl, _⟩ := h; exact text_4 n hi h0 h1 h2 h3 t w hg hm

end Go.Proofs.YtenpjfkiehcjlaaGreatDoor
