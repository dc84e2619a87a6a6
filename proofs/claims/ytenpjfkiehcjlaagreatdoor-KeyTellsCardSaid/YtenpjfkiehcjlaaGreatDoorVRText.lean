/-
  What the document's own covenantref01.Text answers, as walks over this translation.
-/
import Derived.Test.YtenpjfkiehcjlaaGreatDoorVDig
import Derived.Test.YtenpjfkiehcjlaaGreatDoorVText
namespace Go.Proofs.YtenpjfkiehcjlaaGreatDoor
open Go.RowKit

theorem dbl_app : ∀ a b : List UInt8, dbl (a ++ b) = dbl a ++ dbl b
  | [], b => rfl
  | c :: a, b => by
    by_cases h : c = 39 <;> simp [dbl, h, dbl_app a b]

theorem dbl_next (t : ByteArray) (i : Nat) (h : i < t.size) : dbl (t.data.toList.take (i + 1)) = dbl (t.data.toList.take i) ++ (if t[i] = 39 then [39, 39] else [t[i]]) := by
  have hl : i < t.data.toList.length := by simpa using h
  have hg : t.data.toList[i] = t[i] := rfl
  rw [List.take_succ_eq_append_getElem hl, dbl_app, hg]
  by_cases h39 : t[i] = 39 <;> simp [dbl, h39]

theorem extract_one (t : ByteArray) (i : Nat) (h : i < t.size) : t.extract i (i + 1) = ⟨#[t[i]]⟩ := by
  apply Go.WideShapes.bytes_inj
  have hl : i < t.data.toList.length := by simpa using h
  have hg : t.data.toList[i] = t[i] := rfl
  rw [ByteArray.data_extract, Array.toList_extract, List.extract_eq_take_drop, List.drop_eq_getElem_cons hl, hg]
  simp

/-- What of a text is written behind i bytes of it. -/
def halfT (t : ByteArray) (i : Nat) : ByteArray := ⟨(39 :: dbl (t.data.toList.take i)).toArray⟩

theorem halfT_zero (t : ByteArray) : halfT t 0 = ⟨#[39]⟩ := by simp [halfT, dbl]
theorem halfT_size (t : ByteArray) (i : Nat) (h : t.size ≤ 256) : (halfT t i).size ≤ 513 := by
  have := dbl_length (t.data.toList.take i)
  have hl : (t.data.toList.take i).length ≤ t.size := by rw [List.length_take]; simp; omega
  have e : (halfT t i).size = (dbl (t.data.toList.take i)).length + 1 := by simp [halfT, ByteArray.size]
  omega
theorem halfT_quote (t : ByteArray) (i : Nat) (h : i < t.size) (h39 : t[i] = 39) : halfT t i ++ t.extract i (i + 1) ++ ⟨#[39]⟩ = halfT t (i + 1) := by
  rw [extract_one t i h]
  unfold halfT
  rw [dbl_next t i h, if_pos h39, h39]
  have e1 := ba_app (39 :: dbl (t.data.toList.take i)) [39]
  have e2 := ba_app (39 :: dbl (t.data.toList.take i) ++ [39]) [39]
  rw [← e1] at e2
  refine e2.trans ?_
  simp
theorem halfT_plain (t : ByteArray) (i : Nat) (h : i < t.size) (h39 : t[i] ≠ 39) : halfT t i ++ t.extract i (i + 1) = halfT t (i + 1) := by
  rw [extract_one t i h]
  unfold halfT
  rw [dbl_next t i h, if_neg h39]
  have e1 := ba_app (39 :: dbl (t.data.toList.take i)) [t[i]]
  refine e1.trans ?_
  simp

set_option maxRecDepth 100000 in
set_option maxHeartbeats 400000 in
theorem rtext_bad (k : Int) (n hi : Int) (t : ByteArray) (w : World) (hm : mayB k n hi t.data.toList = false) :
    Calls Tryz.prog 44 #[.agg #[.int .u8 k, .int .i64 n, .int .i64 hi, .string t]] w fun e w' => e = .returned (.string ⟨(textL k n hi t.data.toList).toArray⟩) ∧ Below w.heap.size w w' := by
  have HM := Lib.hid hm
  clear hm
  go_enter Tryz.func44, Tryz.ntmps44
  go_wp2_with fail
  refine (rmay_is k n hi t _ false HM.out).mono ?_
  rintro e w1 ⟨rfl, hb1⟩
  go_wp2_with fail
  go_ret
  exact ⟨by simp [textL, HM.out], below_tr (Below.allocs _ _) hb1⟩

set_option maxRecDepth 100000 in
set_option maxHeartbeats 400000 in
theorem rtext_0 (n hi : Int) (t : ByteArray) (w : World) (hm : mayB 0 n hi t.data.toList = true) :
    Calls Tryz.prog 44 #[.agg #[.int .u8 0, .int .i64 n, .int .i64 hi, .string t]] w fun e w' => e = .returned (.string ⟨(textL 0 n hi t.data.toList).toArray⟩) ∧ Below w.heap.size w w' := by
  have HM := Lib.hid hm
  clear hm
  go_enter Tryz.func44, Tryz.ntmps44
  go_wp2_with fail
  refine (rmay_is 0 n hi t _ true HM.out).mono ?_
  rintro e w1 ⟨rfl, hb1⟩
  have B := (Boxed.new w 0 n hi t 37).below hb1
  have B2 := B
  obtain ⟨c0, c1, c2, c3, c4⟩ := B2
  have hb := below_tr (Below.allocs _ _) hb1
  go_wp2_with fail
  go_ret
  exact ⟨by simp [textL, HM.out], hb⟩

set_option maxRecDepth 100000 in
set_option maxHeartbeats 400000 in
theorem rtext_1 (n hi : Int) (h0 : -9223372036854775808 ≤ n) (h1 : n ≤ 9223372036854775807) (t : ByteArray) (w : World) (hm : mayB 1 n hi t.data.toList = true) :
    Calls Tryz.prog 44 #[.agg #[.int .u8 1, .int .i64 n, .int .i64 hi, .string t]] w fun e w' => e = .returned (.string ⟨(textL 1 n hi t.data.toList).toArray⟩) ∧ Below w.heap.size w w' := by
  have HM := Lib.hid hm
  clear hm
  go_enter Tryz.func44, Tryz.ntmps44
  go_wp2_with fail
  refine (rmay_is 1 n hi t _ true HM.out).mono ?_
  rintro e w1 ⟨rfl, hb1⟩
  have B := (Boxed.new w 1 n hi t 37).below hb1
  have B2 := B
  obtain ⟨c0, c1, c2, c3, c4⟩ := B2
  have hb := below_tr (Below.allocs _ _) hb1
  go_wp2_with fail
  refine (digits_any n h0 h1 _).mono ?_
  rintro e w2 ⟨rfl, hb2⟩
  go_wp2_with fail
  go_ret
  exact ⟨by simp [textL, HM.out], below_tr hb hb2⟩

set_option maxRecDepth 100000 in
set_option maxHeartbeats 400000 in
theorem rtext_2 (n hi : Int) (t : ByteArray) (w : World) (hm : mayB 2 n hi t.data.toList = true) :
    Calls Tryz.prog 44 #[.agg #[.int .u8 2, .int .i64 n, .int .i64 hi, .string t]] w fun e w' => e = .returned (.string ⟨(textL 2 n hi t.data.toList).toArray⟩) ∧ Below w.heap.size w w' := by
  have HM := Lib.hid hm
  clear hm
  go_enter Tryz.func44, Tryz.ntmps44
  go_wp2_with fail
  refine (rmay_is 2 n hi t _ true HM.out).mono ?_
  rintro e w1 ⟨rfl, hb1⟩
  have B := (Boxed.new w 2 n hi t 37).below hb1
  have B2 := B
  obtain ⟨c0, c1, c2, c3, c4⟩ := B2
  have hb := below_tr (Below.allocs _ _) hb1
  by_cases h : n = 1
  · subst h
    go_wp2_with fail
    go_ret
    exact ⟨by simp [textL, HM.out], hb⟩
  · have hd : (n == 1) = false := by simpa using h
    go_wp2_with fail
    go_ret
    exact ⟨by simp [textL, HM.out, h], hb⟩

set_option maxRecDepth 100000 in
set_option maxHeartbeats 2000000 in
theorem rtext_3 (n hi : Int) (t : ByteArray) (w : World) (hm : mayB 3 n hi t.data.toList = true) :
    Calls Tryz.prog 44 #[.agg #[.int .u8 3, .int .i64 n, .int .i64 hi, .string t]] w fun e w' => e = .returned (.string ⟨(textL 3 n hi t.data.toList).toArray⟩) ∧ Below w.heap.size w w' := by
  have HM := Lib.hid hm
  clear hm
  go_enter Tryz.func44, Tryz.ntmps44
  go_wp2_with fail
  refine (rmay_is 3 n hi t _ true HM.out).mono ?_
  rintro e w1 ⟨rfl, hb1⟩
  have hlen : t.size ≤ 256 := by
    have := mayB_iff.1 HM.out
    unfold mayP at this
    have e : t.data.toList.length = t.size := by simp
    omega
  have B := (Boxed.new w 3 n hi t 37).below hb1
  have B2 := B
  obtain ⟨c0, c1, c2, c3, c4⟩ := B2
  have hb := below_tr (Below.allocs _ _) hb1
  go_wp2_with fail
  go_loopw [3, 4] (fun o c wr => ∃ i : Nat, i ≤ t.size ∧ o = .string (halfT t i) ∧ c = .int .i64 i ∧ Below w1.heap.size w1 wr) (fun _ c _ => t.size - (intOf c).toNat)
  case atStart => exact ⟨0, by omega, by rw [halfT_zero], rfl, Below.refl _ _⟩
  case round =>
    obtain ⟨i, hi1, rfl, rfl, hbr⟩ := hrel
    have hwr := below_tr hb hbr
    obtain ⟨d0, d1, d2, d3, d4⟩ := B.below hbr
    have hs := halfT_size t i hlen
    by_cases g1 : i < t.size
    · have i0 : (0 : Int) ≤ (i : Int) := by omega
      have i1 : (i : Int) < (t.size : Int) := by omega
      have hx : (t.extract i (i + 1)).size = 1 := by simp; omega
      by_cases p : t[i] = 39
      · have p' : ((t[i].toNat : Int) == 39) = true := by rw [p]; rfl
        have HP := Lib.hid p
        clear p
        go_wp2_with fail
        go_roundw
        case rel => exact ⟨i + 1, by omega, by rw [← halfT_quote t i g1 HP.out], by go_num, hbr⟩
        case measure => simp [intOf]; omega
      · have p' : ((t[i].toNat : Int) == 39) = false := by
          rw [beq_eq_false_iff_ne]
          intro h
          apply p
          apply UInt8.toNat_inj.1
          show t[i].toNat = 39
          omega
        have HP := Lib.hid p
        clear p
        go_wp2_with fail
        go_roundw
        case rel => exact ⟨i + 1, by omega, by rw [← halfT_plain t i g1 HP.out], by go_num, hbr⟩
        case measure => simp [intOf]; omega
    · have e : ¬ (i : Int) < (t.size : Int) := by omega
      go_wp2_with fail
      go_ret
      refine ⟨?_, hwr⟩
      obtain rfl : i = t.size := by omega
      have e1 : textL 3 n hi t.data.toList = 39 :: (dbl t.data.toList ++ [39]) := by simp [textL, HM.out]
      rw [e1]
      refine congrArg (fun b => Ending.returned (.string b)) ?_
      have e3 := ba_app (39 :: dbl (t.data.toList.take t.size)) [39]
      refine Eq.trans e3 ?_
      rw [List.take_of_length_le (by simp)]
      rfl

set_option maxRecDepth 100000 in
set_option maxHeartbeats 2000000 in
theorem rtext_4 (n hi : Int) (h0 : -9223372036854775808 ≤ n) (h1 : n ≤ 9223372036854775807) (h2 : -9223372036854775808 ≤ hi) (h3 : hi ≤ 9223372036854775807) (t : ByteArray) (w : World) (hm : mayB 4 n hi t.data.toList = true) :
    Calls Tryz.prog 44 #[.agg #[.int .u8 4, .int .i64 n, .int .i64 hi, .string t]] w fun e w' => e = .returned (.string ⟨(textL 4 n hi t.data.toList).toArray⟩) ∧ Below w.heap.size w w' := by
  have HM := Lib.hid hm
  clear hm
  go_enter Tryz.func44, Tryz.ntmps44
  go_wp2_with fail
  refine (rmay_is 4 n hi t _ true HM.out).mono ?_
  rintro e w1 ⟨rfl, hb1⟩
  have B := (Boxed.new w 4 n hi t 37).below hb1
  have B2 := B
  obtain ⟨c0, c1, c2, c3, c4⟩ := B2
  have hb := below_tr (Below.allocs _ _) hb1
  have hn1 := Lib.itoa_length_le n h0 h1
  have hn2 := Lib.itoa_length_le hi h2 h3
  go_wp2_with fail
  apply wp_region_plan (fun w w' => Below w.heap.size w w') [.it _, .it _, .it _, .it _, .it _, .it _, .it _, .it _, .it _, .it _, .it _] (by kernel_rfl) (by kernel_rfl) (fun w => Below.refl _ _) (fun _ _ _ => below_tr)
  refine seqP_value (fun w => Below.refl _ _) ?_ (by rfl) (fun w' hw' hctx => ?_) ?_
  rotate_left
  · go_simp
    first | with_reducible rfl | rw [if_neg (by omega)]
  simp only [Act.put, List.setIfInBounds_toArray, List.set_cons_zero, List.set_cons_succ]
  refine seqP_value (fun w => Below.refl _ _) ?_ (by rfl) (fun w' hw' hctx => ?_) ?_
  rotate_left
  · obtain ⟨d0, d1, d2, d3, d4⟩ := B.below (below_tr (Below.refl _ _).drew hw')
    go_simp
    first | with_reducible rfl | rw [if_neg (by omega)]
  simp only [Act.put, List.setIfInBounds_toArray, List.set_cons_zero, List.set_cons_succ]
  refine seqP_call 64 #[.int .i64 n] (.string ⟨(Lib.itoa n).toArray⟩) (by rfl) (fun w' hw' hctx => ?_) (fun w' hw' hctx => digits_any n h0 h1 w') ?_
  · go_simp
  simp only [Act.put, List.setIfInBounds_toArray, List.set_cons_zero, List.set_cons_succ]
  refine seqP_value (fun w => Below.refl _ _) ?_ (by rfl) (fun w' hw' hctx => ?_) ?_
  rotate_left
  · go_simp
    first | with_reducible rfl | rw [if_neg (by omega)]
  simp only [Act.put, List.setIfInBounds_toArray, List.set_cons_zero, List.set_cons_succ]
  refine seqP_value (fun w => Below.refl _ _) ?_ (by rfl) (fun w' hw' hctx => ?_) ?_
  rotate_left
  · go_simp
    first | with_reducible rfl | rw [if_neg (by omega)]
  simp only [Act.put, List.setIfInBounds_toArray, List.set_cons_zero, List.set_cons_succ]
  refine seqP_value (fun w => Below.refl _ _) ?_ (by rfl) (fun w' hw' hctx => ?_) ?_
  rotate_left
  · go_simp
    first | with_reducible rfl | rw [if_neg (by omega)]
  simp only [Act.put, List.setIfInBounds_toArray, List.set_cons_zero, List.set_cons_succ]
  refine seqP_value (fun w => Below.refl _ _) ?_ (by rfl) (fun w' hw' hctx => ?_) ?_
  rotate_left
  · obtain ⟨d0, d1, d2, d3, d4⟩ := B.below (below_tr (Below.refl _ _).drew hw')
    go_simp
    first | with_reducible rfl | rw [if_neg (by omega)]
  simp only [Act.put, List.setIfInBounds_toArray, List.set_cons_zero, List.set_cons_succ]
  refine seqP_call 64 #[.int .i64 hi] (.string ⟨(Lib.itoa hi).toArray⟩) (by rfl) (fun w' hw' hctx => ?_) (fun w' hw' hctx => digits_any hi h2 h3 w') ?_
  · go_simp
  simp only [Act.put, List.setIfInBounds_toArray, List.set_cons_zero, List.set_cons_succ]
  refine seqP_value (fun w => Below.refl _ _) ?_ (by rfl) (fun w' hw' hctx => ?_) ?_
  rotate_left
  · go_simp
    first | with_reducible rfl | rw [if_neg (by omega)]
  simp only [Act.put, List.setIfInBounds_toArray, List.set_cons_zero, List.set_cons_succ]
  refine seqP_value (fun w => Below.refl _ _) ?_ (by rfl) (fun w' hw' hctx => ?_) ?_
  rotate_left
  · go_simp
    first | with_reducible rfl | rw [if_neg (by omega)]
  simp only [Act.put, List.setIfInBounds_toArray, List.set_cons_zero, List.set_cons_succ]
  refine seqP_value (fun w => Below.refl _ _) ?_ (by rfl) (fun w' hw' hctx => ?_) ?_
  rotate_left
  · go_simp
    first | with_reducible rfl | rw [if_neg (by omega)]
  simp only [Act.put, List.setIfInBounds_toArray, List.set_cons_zero, List.set_cons_succ]
  refine seqP_nil fun w' hw' _ => ?_
  go_wp2_with fail
  go_ret
  refine ⟨?_, below_tr hb (below_tr (Below.refl _ _).drew hw')⟩
  have e1 : textL 4 n hi t.data.toList = 91 :: (Lib.itoa n ++ 44 :: (Lib.itoa hi ++ [41])) := by simp [textL, HM.out]
  rw [e1]
  refine congrArg (fun b => Ending.returned (.string b)) ?_
  have e2 := ba_app [91] (Lib.itoa n)
  have e3 := ba_app ([91] ++ Lib.itoa n) [44]
  have e4 := ba_app ([91] ++ Lib.itoa n ++ [44]) (Lib.itoa hi)
  have e5 := ba_app ([91] ++ Lib.itoa n ++ [44] ++ Lib.itoa hi) [41]
  rw [← e4, ← e3, ← e2] at e5
  refine e5.trans ?_
  simp

theorem rtext_any (k n hi : Int) (h0 : -9223372036854775808 ≤ n) (h1 : n ≤ 9223372036854775807) (h2 : -9223372036854775808 ≤ hi) (h3 : hi ≤ 9223372036854775807) (t : ByteArray) (w : World) :
    Calls Tryz.prog 44 #[.agg #[.int .u8 k, .int .i64 n, .int .i64 hi, .string t]] w fun e w' => e = .returned (.string ⟨(textL k n hi t.data.toList).toArray⟩) ∧ Below w.heap.size w w' := by
  cases hm : mayB k n hi t.data.toList
  · exact rtext_bad k n hi t w hm
  · have hl : t.data.toList.length = t.size := by simp
    rcases mayB_iff.1 hm with h | h | h | h | h
    · obtain ⟨rfl, _⟩ := h; exact rtext_0 n hi t w hm
    · obtain ⟨rfl, _⟩ := h; exact rtext_1 n hi h0 h1 t w hm
    · obtain ⟨rfl, _⟩ := h; exact rtext_2 n hi t w hm
    · obtain ⟨rfl, _⟩ := h; exact rtext_3 n hi t w hm
    · obtain ⟨rfl, _⟩ := h; exact rtext_4 n hi h0 h1 h2 h3 t w hm

end Go.Proofs.YtenpjfkiehcjlaaGreatDoor
