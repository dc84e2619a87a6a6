/-
  The law KeyNames, walked.
-/
import Derived.Test.YtenpjfkiehcjlaaKAwake
namespace Go.Proofs.Ytenpjfkiehcjlaa
open Go.RowKit

theorem noI (w : World) : SlI w none 0 [] := SlI.nil w none 0 (by decide)
theorem noL (w : World) : SlL w none 0 [] := SlL.nil w none 0 (by decide)

set_option maxRecDepth 100000 in
set_option maxHeartbeats 4000000 in
theorem names_law (w : World) : Calls Try.prog 3 #[] w fun e w' => e = .returned (.bool true) ∧ Below w.heap.size w w' := by
  go_enter Try.func3, Try.ntmps3
  have B0 : Hid (Below w.heap.size w w) := Lib.hid (Below.refl _ _)
  have hcon := of_no none none 0 0 0 0 [] rfl (by decide) (by decide) w (noI w)
  go_wp2_with fail
  refine (show Calls Try.prog _ _ _ _ from hcon).mono ?_
  rintro e w1 ⟨rfl, hb1⟩
  have B1 := Lib.hid (below_tr B0.out hb1)
  clear B0
  clear hcon hb1
  have n2 := newLg w1 (w1.heap.size) (by rfl) [Val.zero] (allwf (by decide)) (by simp)
  have n2b := Below.allocs w1 (.cells (flatL [Val.zero]).toArray 27)
  have B3 := Lib.hid (below_tr B1.out n2b)
  clear B1
  have P_3 := Lib.hid n2
  clear n2 n2b
  have n4 := newIg (w1.alloc (.cells (flatL [Val.zero]).toArray 27)) (w1.heap.size + 1) (by simp) [1] (alli64 (by decide)) (by simp)
  have n4b := Below.allocs (w1.alloc (.cells (flatL [Val.zero]).toArray 27)) (.cells (([1] : List Int).map (Value.int .i64)).toArray 3)
  have P_5 := Lib.hid (P_3.out.below n4b)
  have B5 := Lib.hid (below_tr B3.out n4b)
  clear P_3 B3
  have I_5 := Lib.hid n4
  clear n4 n4b
  have hcon := of_no (some ⟨w1.heap.size, 0, none⟩) _ 1 _ 1 1 [1] rfl (by decide) (by decide) _ I_5.out
  go_wp2_with fail
  refine (show Calls Try.prog _ _ _ _ from hcon).mono ?_
  rintro e w2 ⟨rfl, hb2⟩
  have P_6 := Lib.hid (P_5.out.below hb2)
  have I_6 := Lib.hid (I_5.out.below hb2)
  have B6 := Lib.hid (below_tr B5.out hb2)
  clear P_5 I_5 B5
  clear hcon hb2
  clear P_6
  clear I_6
  have n7 := newLg w2 (w2.heap.size) (by rfl) [Val.zero] (allwf (by decide)) (by simp)
  have n7b := Below.allocs w2 (.cells (flatL [Val.zero]).toArray 27)
  have B8 := Lib.hid (below_tr B6.out n7b)
  clear B6
  have P_8 := Lib.hid n7
  clear n7 n7b
  have n9 := newIg (w2.alloc (.cells (flatL [Val.zero]).toArray 27)) (w2.heap.size + 1) (by simp) [-1] (alli64 (by decide)) (by simp)
  have n9b := Below.allocs (w2.alloc (.cells (flatL [Val.zero]).toArray 27)) (.cells (([-1] : List Int).map (Value.int .i64)).toArray 3)
  have P_10 := Lib.hid (P_8.out.below n9b)
  have B10 := Lib.hid (below_tr B8.out n9b)
  clear P_8 B8
  have I_10 := Lib.hid n9
  clear n9 n9b
  have hcon := of_no (some ⟨w2.heap.size, 0, none⟩) _ 1 _ 1 1 [-1] rfl (by decide) (by decide) _ I_10.out
  go_wp2_with fail
  refine (show Calls Try.prog _ _ _ _ from hcon).mono ?_
  rintro e w3 ⟨rfl, hb3⟩
  have P_11 := Lib.hid (P_10.out.below hb3)
  have I_11 := Lib.hid (I_10.out.below hb3)
  have B11 := Lib.hid (below_tr B10.out hb3)
  clear P_10 I_10 B10
  clear hcon hb3
  clear P_11
  clear I_11
  have n12 := newLg w3 (w3.heap.size) (by rfl) [Val.zero] (allwf (by decide)) (by simp)
  have n12b := Below.allocs w3 (.cells (flatL [Val.zero]).toArray 27)
  have B13 := Lib.hid (below_tr B11.out n12b)
  clear B11
  have P_13 := Lib.hid n12
  clear n12 n12b
  have n14 := newIg (w3.alloc (.cells (flatL [Val.zero]).toArray 27)) (w3.heap.size + 1) (by simp) [0] (alli64 (by decide)) (by simp)
  have n14b := Below.allocs (w3.alloc (.cells (flatL [Val.zero]).toArray 27)) (.cells (([0] : List Int).map (Value.int .i64)).toArray 3)
  have P_15 := Lib.hid (P_13.out.below n14b)
  have B15 := Lib.hid (below_tr B13.out n14b)
  clear P_13 B13
  have I_15 := Lib.hid n14
  clear n14 n14b
  have hcon := set_no2 (some ⟨w3.heap.size, 0, none⟩) _ none 1 _ 0 1 1 0 [0] rfl (by decide) (by decide) (by decide) _ I_15.out
  go_wp2_with fail
  refine (show Calls Try.prog _ _ _ _ from hcon).mono ?_
  rintro e w4 ⟨rfl, hb4⟩
  have P_16 := Lib.hid (P_15.out.below hb4)
  have I_16 := Lib.hid (I_15.out.below hb4)
  have B16 := Lib.hid (below_tr B15.out hb4)
  clear P_15 I_15 B15
  clear hcon hb4
  clear P_16
  clear I_16
  have hcon := may_is none 0 0 [] 5 false rfl (by decide) (by decide) _ (noI w4)
  go_wp2_with fail
  refine (show Calls Try.prog _ _ _ _ from hcon).mono ?_
  rintro e w5 ⟨rfl, hb5⟩
  have B17 := Lib.hid (below_tr B16.out hb5)
  clear B16
  clear hcon hb5
  have hcon := whole_is none 0 0 [] false rfl (by decide) (by decide) _ (noL w5)
  go_wp2_with fail
  refine (show Calls Try.prog _ _ _ _ from hcon).mono ?_
  rintro e w6 ⟨rfl, hb6⟩
  have B18 := Lib.hid (below_tr B17.out hb6)
  clear B17
  clear hcon hb6
  have hcon := ksame_is none none 0 0 0 0 [] [] false rfl rfl (by decide) (by decide) (by decide +kernel) _ (noL w6) (noL w6)
  go_wp2_with fail
  refine (show Calls Try.prog _ _ _ _ from hcon).mono ?_
  rintro e w7 ⟨rfl, hb7⟩
  have B19 := Lib.hid (below_tr B18.out hb7)
  clear B18
  clear hcon hb7
  have hcon := refers_no none none none 0 0 0 0 0 0 [] rfl (by decide) (by decide) _ (noI w7)
  go_wp2_with fail
  refine (show Calls Try.prog _ _ _ _ from hcon).mono ?_
  rintro e w8 ⟨rfl, hb8⟩
  have B20 := Lib.hid (below_tr B19.out hb8)
  clear B19
  clear hcon hb8
  have hcon := awake_is w8
  go_wp2_with fail
  refine (show Calls Try.prog _ _ _ _ from hcon).mono ?_
  rintro e w9 ⟨rfl, hb9⟩
  have B21 := Lib.hid (below_tr B20.out hb9)
  clear B20
  clear hcon hb9
  go_wp2_with fail
  go_ret
  exact ⟨rfl, B21.out⟩

end Go.Proofs.Ytenpjfkiehcjlaa
