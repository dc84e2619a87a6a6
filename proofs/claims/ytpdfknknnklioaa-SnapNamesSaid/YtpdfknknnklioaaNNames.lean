/-
  The law SnapNames, walked.
-/
import Derived.Test.YtpdfknknnklioaaNAwake
namespace Go.Proofs.Ytpdfknknnklioaa
open Go.RowKit
set_option linter.unusedVariables false

def tn0 : Tb := Tb.new

set_option maxRecDepth 100000 in
set_option maxHeartbeats 4000000 in
theorem names_law (w : World) : Calls Try.prog 4 #[] w fun e w' => e = .returned (.bool true) ∧ Below w.heap.size w w' := by
  have HB0 : Hid (Below w.heap.size w w) := Lib.hid (Below.refl _ _)
  go_enter Try.func4, Try.ntmps4
  have hcon := now_nil w 3
  go_wp2_with fail
  refine (show Calls Try.prog _ _ _ _ from hcon).mono ?_
  rintro e w1 ⟨rfl, hb1⟩
  have HB1 := Lib.hid (below_tr HB0.out hb1)
  clear hb1 HB0
  clear hcon
  obtain ⟨hv1, hb1⟩ := View.make w1 0 3 (F := (fun k => k < 0)) (fun _ h => absurd h (Nat.not_lt_zero _))
  obtain ⟨ga, hga⟩ : ∃ g, w1.heap.size = g := ⟨_, rfl⟩
  obtain ⟨V1, hV1⟩ : ∃ V, w1.alloc (.cells #[.int .i64 0, .int .i64 3] 33) = V := ⟨_, rfl⟩
  rw [hV1] at hb1 hv1
  rw [hga] at hv1
  have HB1v := Lib.hid (below_tr HB1.out hb1)
  clear HB1
  have VWa_1 := Lib.hid hv1
  have HVE1 := Lib.hid hV1
  have HGE1 := Lib.hid hga
  clear hv1 hb1 hV1 hga
  go_upto_region 2 with (fail)
  rw [HGE1.out, HVE1.out]
  clear HGE1 HVE1
  have q00 := VWa_1.out.lit.cell (o := 0) rfl
  have q01 := VWa_1.out.lit.cell (o := 1) rfl
  have q0l := VWa_1.out.lit.lt
  have hcon := one_new (w0 := w) HB1v.out
  go_wp2_with fail
  refine (show Calls Try.prog _ _ _ _ from hcon).mono ?_
  rintro e w2 ⟨t, F0, rfl, h2, hF2, hb2⟩
  have VWa_2 := Lib.hid (VWa_1.out.below hb2)
  have H2 := Lib.hid h2
  clear h2 HB1v
  clear hcon VWa_1 q00 q01 q0l
  change Hid (One w w2 t tn0 F0) at H2
  have q00 := VWa_2.out.lit.cell (o := 0) rfl
  have q01 := VWa_2.out.lit.cell (o := 1) rfl
  have q0l := VWa_2.out.lit.lt
  have hcon := one_now H2.out (by decide +kernel) 0 0 (by decide +kernel)
  go_wp2_with fail
  refine (show Calls Try.prog _ _ _ _ from hcon).mono ?_
  rintro e w3 ⟨rfl, hb3⟩
  have VWa_3 := Lib.hid (VWa_2.out.below hb3)
  have H3 := Lib.hid (H2.out.below hb3)
  clear hb3 H2
  clear hcon VWa_2 q00 q01 q0l
  obtain ⟨hv3, hb3⟩ := View.make w3 0 0 (F := F0) H3.out.is.lt
  obtain ⟨gb, hgb⟩ : ∃ g, w3.heap.size = g := ⟨_, rfl⟩
  obtain ⟨V3, hV3⟩ : ∃ V, w3.alloc (.cells #[.int .i64 0, .int .i64 0] 33) = V := ⟨_, rfl⟩
  rw [hV3] at hb3 hv3
  rw [hgb] at hv3
  have VWa_v3 := Lib.hid (VWa_3.out.below hb3)
  clear VWa_3
  have HV3 := Lib.hid (H3.out.below hb3)
  clear H3
  have VWb_3 := Lib.hid hv3
  have HVE3 := Lib.hid hV3
  have HGE3 := Lib.hid hgb
  clear hv3 hb3 hV3 hgb
  go_upto_region 4 with (fail)
  rw [HGE3.out, HVE3.out]
  clear HGE3 HVE3
  have q00 := VWa_v3.out.lit.cell (o := 0) rfl
  have q01 := VWa_v3.out.lit.cell (o := 1) rfl
  have q0l := VWa_v3.out.lit.lt
  have q10 := VWb_3.out.lit.cell (o := 0) rfl
  have q11 := VWb_3.out.lit.cell (o := 1) rfl
  have q1l := VWb_3.out.lit.lt
  have hcon := own_nil V3 0 3 3 (by unfold I64; omega)
  go_wp2_with fail
  refine (show Calls Try.prog _ _ _ _ from hcon).mono ?_
  rintro e w4 ⟨rfl, hb4⟩
  have VWa_4 := Lib.hid (VWa_v3.out.below hb4)
  have VWb_4 := Lib.hid (VWb_3.out.below hb4)
  have H4 := Lib.hid (HV3.out.below hb4)
  clear hb4 HV3
  clear hcon VWa_v3 VWb_3 q00 q01 q0l q10 q11 q1l
  have q00 := VWa_4.out.lit.cell (o := 0) rfl
  have q01 := VWa_4.out.lit.cell (o := 1) rfl
  have q0l := VWa_4.out.lit.lt
  have q10 := VWb_4.out.lit.cell (o := 0) rfl
  have q11 := VWb_4.out.lit.cell (o := 1) rfl
  have q1l := VWb_4.out.lit.lt
  have hcon := sees_nil w4 0 3 3 (by unfold I64; omega)
  go_wp2_with fail
  refine (show Calls Try.prog _ _ _ _ from hcon).mono ?_
  rintro e w5 ⟨rfl, hb5⟩
  have VWa_5 := Lib.hid (VWa_4.out.below hb5)
  have VWb_5 := Lib.hid (VWb_4.out.below hb5)
  have H5 := Lib.hid (H4.out.below hb5)
  clear hb5 H4
  clear hcon VWa_4 VWb_4 q00 q01 q0l q10 q11 q1l
  have q00 := VWa_5.out.lit.cell (o := 0) rfl
  have q01 := VWa_5.out.lit.cell (o := 1) rfl
  have q0l := VWa_5.out.lit.lt
  have q10 := VWb_5.out.lit.cell (o := 0) rfl
  have q11 := VWb_5.out.lit.cell (o := 1) rfl
  have q1l := VWb_5.out.lit.lt
  have hcon := later_nil w5 0 3 3 (by unfold I64; omega)
  go_wp2_with fail
  refine (show Calls Try.prog _ _ _ _ from hcon).mono ?_
  rintro e w6 ⟨rfl, hb6⟩
  have VWa_6 := Lib.hid (VWa_5.out.below hb6)
  have VWb_6 := Lib.hid (VWb_5.out.below hb6)
  have H6 := Lib.hid (H5.out.below hb6)
  clear hb6 H5
  clear hcon VWa_5 VWb_5 q00 q01 q0l q10 q11 q1l
  have q00 := VWa_6.out.lit.cell (o := 0) rfl
  have q01 := VWa_6.out.lit.cell (o := 1) rfl
  have q0l := VWa_6.out.lit.lt
  have q10 := VWb_6.out.lit.cell (o := 0) rfl
  have q11 := VWb_6.out.lit.cell (o := 1) rfl
  have q1l := VWb_6.out.lit.lt
  have hcon := one_own H6.out (by decide +kernel) 0 0 0 false (by unfold I64; omega) (by decide +kernel)
  go_wp2_with fail
  refine (show Calls Try.prog _ _ _ _ from hcon).mono ?_
  rintro e w7 ⟨rfl, hb7⟩
  have VWa_7 := Lib.hid (VWa_6.out.below hb7)
  have VWb_7 := Lib.hid (VWb_6.out.below hb7)
  have H7 := Lib.hid (H6.out.below hb7)
  clear hb7 H6
  clear hcon VWa_6 VWb_6 q00 q01 q0l q10 q11 q1l
  have q00 := VWa_7.out.lit.cell (o := 0) rfl
  have q01 := VWa_7.out.lit.cell (o := 1) rfl
  have q0l := VWa_7.out.lit.lt
  have q10 := VWb_7.out.lit.cell (o := 0) rfl
  have q11 := VWb_7.out.lit.cell (o := 1) rfl
  have q1l := VWb_7.out.lit.lt
  have hcon := one_sees H7.out (by decide +kernel) 0 0 1 false (by unfold I64; omega) (by decide +kernel)
  go_wp2_with fail
  refine (show Calls Try.prog _ _ _ _ from hcon).mono ?_
  rintro e w8 ⟨rfl, hb8⟩
  have VWa_8 := Lib.hid (VWa_7.out.below hb8)
  have VWb_8 := Lib.hid (VWb_7.out.below hb8)
  have H8 := Lib.hid (H7.out.below hb8)
  clear hb8 H7
  clear hcon VWa_7 VWb_7 q00 q01 q0l q10 q11 q1l
  have q00 := VWa_8.out.lit.cell (o := 0) rfl
  have q01 := VWa_8.out.lit.cell (o := 1) rfl
  have q0l := VWa_8.out.lit.lt
  have q10 := VWb_8.out.lit.cell (o := 0) rfl
  have q11 := VWb_8.out.lit.cell (o := 1) rfl
  have q1l := VWb_8.out.lit.lt
  have hcon := one_later H8.out (by decide +kernel) 0 0 (-1) false (by unfold I64; omega) (by decide +kernel)
  go_wp2_with fail
  refine (show Calls Try.prog _ _ _ _ from hcon).mono ?_
  rintro e w9 ⟨rfl, hb9⟩
  have VWa_9 := Lib.hid (VWa_8.out.below hb9)
  have VWb_9 := Lib.hid (VWb_8.out.below hb9)
  have H9 := Lib.hid (H8.out.below hb9)
  clear hb9 H8
  clear hcon VWa_8 VWb_8 q00 q01 q0l q10 q11 q1l
  have q00 := VWa_9.out.lit.cell (o := 0) rfl
  have q01 := VWa_9.out.lit.cell (o := 1) rfl
  have q0l := VWa_9.out.lit.lt
  have q10 := VWb_9.out.lit.cell (o := 0) rfl
  have q11 := VWb_9.out.lit.cell (o := 1) rfl
  have q1l := VWb_9.out.lit.lt
  have hcon := awake_is w9 
  go_wp2_with fail
  refine (show Calls Try.prog _ _ _ _ from hcon).mono ?_
  rintro e w10 ⟨rfl, hb10⟩
  have VWa_10 := Lib.hid (VWa_9.out.below hb10)
  have VWb_10 := Lib.hid (VWb_9.out.below hb10)
  have H10 := Lib.hid (H9.out.below hb10)
  clear hb10 H9
  clear hcon VWa_9 VWb_9 q00 q01 q0l q10 q11 q1l
  go_wp2_with fail
  go_ret
  exact ⟨rfl, H10.out.bel⟩

end Go.Proofs.Ytpdfknknnklioaa
