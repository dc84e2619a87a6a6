/-
  awake: the example of stage 10, walked.
-/
import Derived.Test.YtpdfknknnklioaaNLaw
namespace Go.Proofs.Ytpdfknknnklioaa
open Go.RowKit
set_option linter.unusedVariables false

def ta0 : Tb := Tb.new
def ta1 : Tb := ta0.begT 0
def ta2 : Tb := ta1.begT 1
def ta3 : Tb := ta2.begT 0
def ta4 : Tb := ta3.comT 1

set_option maxRecDepth 100000 in
set_option maxHeartbeats 4000000 in
theorem awake_is (w : World) : Calls Try.prog 8 #[] w fun e w' => e = .returned (.bool true) ∧ Below w.heap.size w w' := by
  have HB0 : Hid (Below w.heap.size w w) := Lib.hid (Below.refl _ _)
  go_enter Try.func8, Try.ntmps8
  have hcon := one_new (w0 := w) HB0.out
  go_wp2_with fail
  refine (show Calls Try.prog _ _ _ _ from hcon).mono ?_
  rintro e w1 ⟨t, F0, rfl, h1, hF1, hb1⟩
  have H1 := Lib.hid h1
  clear h1 HB0
  clear hcon
  change Hid (One w w1 t ta0 F0) at H1
  have hcon := one_begin (T' := ta1) H1.out (by decide +kernel) 0 1 0 (by unfold I64; omega) (by decide +kernel) (by decide +kernel) rfl
  go_wp2_with fail
  refine (show Calls Try.prog _ _ _ _ from hcon).mono ?_
  rintro e w2 ⟨F2, rfl, h2, ht2, hF2⟩
  have H2 := Lib.hid h2
  clear h2 ht2 hF2 H1
  clear hcon
  have hcon := one_begin (T' := ta2) H2.out (by decide +kernel) 1 2 0 (by unfold I64; omega) (by decide +kernel) (by decide +kernel) rfl
  go_wp2_with fail
  refine (show Calls Try.prog _ _ _ _ from hcon).mono ?_
  rintro e w3 ⟨F3, rfl, h3, ht3, hF3⟩
  have H3 := Lib.hid h3
  clear h3 ht3 hF3 H2
  clear hcon
  have hcon := one_begin (T' := ta3) H3.out (by decide +kernel) 0 3 0 (by unfold I64; omega) (by decide +kernel) (by decide +kernel) rfl
  go_wp2_with fail
  refine (show Calls Try.prog _ _ _ _ from hcon).mono ?_
  rintro e w4 ⟨F4, rfl, h4, ht4, hF4⟩
  have H4 := Lib.hid h4
  clear h4 ht4 hF4 H3
  clear hcon
  have hcon := one_now H4.out (by decide +kernel) 3 0 (by decide +kernel)
  go_wp2_with fail
  refine (show Calls Try.prog _ _ _ _ from hcon).mono ?_
  rintro e w5 ⟨rfl, hb5⟩
  have H5 := Lib.hid (H4.out.below hb5)
  clear hb5 H4
  clear hcon
  obtain ⟨hv5, hb5⟩ := View.make w5 0 3 (F := F4) H5.out.is.lt
  obtain ⟨ga, hga⟩ : ∃ g, w5.heap.size = g := ⟨_, rfl⟩
  obtain ⟨V5, hV5⟩ : ∃ V, w5.alloc (.cells #[.int .i64 0, .int .i64 3] 33) = V := ⟨_, rfl⟩
  rw [hV5] at hb5 hv5
  rw [hga] at hv5
  have HV5 := Lib.hid (H5.out.below hb5)
  clear H5
  have VWa_5 := Lib.hid hv5
  have HVE5 := Lib.hid hV5
  have HGE5 := Lib.hid hga
  clear hv5 hb5 hV5 hga
  go_upto_region 6 with (fail)
  rw [HGE5.out, HVE5.out]
  clear HGE5 HVE5
  have q00 := VWa_5.out.lit.cell (o := 0) rfl
  have q01 := VWa_5.out.lit.cell (o := 1) rfl
  have q0l := VWa_5.out.lit.lt
  have hcon := one_sees HV5.out (by decide +kernel) 0 3 3 true (by unfold I64; omega) (by decide +kernel)
  go_wp2_with fail
  refine (show Calls Try.prog _ _ _ _ from hcon).mono ?_
  rintro e w6 ⟨rfl, hb6⟩
  have VWa_6 := Lib.hid (VWa_5.out.below hb6)
  have H6 := Lib.hid (HV5.out.below hb6)
  clear hb6 HV5
  clear hcon VWa_5 q00 q01 q0l
  have q00 := VWa_6.out.lit.cell (o := 0) rfl
  have q01 := VWa_6.out.lit.cell (o := 1) rfl
  have q0l := VWa_6.out.lit.lt
  have hcon := one_sees H6.out (by decide +kernel) 0 3 2 false (by unfold I64; omega) (by decide +kernel)
  go_wp2_with fail
  refine (show Calls Try.prog _ _ _ _ from hcon).mono ?_
  rintro e w7 ⟨rfl, hb7⟩
  have VWa_7 := Lib.hid (VWa_6.out.below hb7)
  have H7 := Lib.hid (H6.out.below hb7)
  clear hb7 H6
  clear hcon VWa_6 q00 q01 q0l
  have q00 := VWa_7.out.lit.cell (o := 0) rfl
  have q01 := VWa_7.out.lit.cell (o := 1) rfl
  have q0l := VWa_7.out.lit.lt
  have hcon := one_later H7.out (by decide +kernel) 0 3 2 false (by unfold I64; omega) (by decide +kernel)
  go_wp2_with fail
  refine (show Calls Try.prog _ _ _ _ from hcon).mono ?_
  rintro e w8 ⟨rfl, hb8⟩
  have VWa_8 := Lib.hid (VWa_7.out.below hb8)
  have H8 := Lib.hid (H7.out.below hb8)
  clear hb8 H7
  clear hcon VWa_7 q00 q01 q0l
  have q00 := VWa_8.out.lit.cell (o := 0) rfl
  have q01 := VWa_8.out.lit.cell (o := 1) rfl
  have q0l := VWa_8.out.lit.lt
  have hcon := one_commit (T' := ta4) H8.out (by decide +kernel) (by decide +kernel) 1 0 (by unfold I64; omega) (by decide +kernel) rfl
  go_wp2_with fail
  refine (show Calls Try.prog _ _ _ _ from hcon).mono ?_
  rintro e w9 ⟨F9, rfl, h9, ht9, hF9⟩
  have VWa_9 := Lib.hid (VWa_8.out.next ht9 hF9)
  have H9 := Lib.hid h9
  clear h9 ht9 hF9 H8
  clear hcon VWa_8 q00 q01 q0l
  have q00 := VWa_9.out.lit.cell (o := 0) rfl
  have q01 := VWa_9.out.lit.cell (o := 1) rfl
  have q0l := VWa_9.out.lit.lt
  have hcon := one_now H9.out (by decide +kernel) 3 1 (by decide +kernel)
  go_wp2_with fail
  refine (show Calls Try.prog _ _ _ _ from hcon).mono ?_
  rintro e w10 ⟨rfl, hb10⟩
  have VWa_10 := Lib.hid (VWa_9.out.below hb10)
  have H10 := Lib.hid (H9.out.below hb10)
  clear hb10 H9
  clear hcon VWa_9 q00 q01 q0l
  obtain ⟨hv10, hb10⟩ := View.make w10 1 3 (F := F9) H10.out.is.lt
  obtain ⟨gb, hgb⟩ : ∃ g, w10.heap.size = g := ⟨_, rfl⟩
  obtain ⟨V10, hV10⟩ : ∃ V, w10.alloc (.cells #[.int .i64 1, .int .i64 3] 33) = V := ⟨_, rfl⟩
  rw [hV10] at hb10 hv10
  rw [hgb] at hv10
  have VWa_v10 := Lib.hid (VWa_10.out.below hb10)
  clear VWa_10
  have HV10 := Lib.hid (H10.out.below hb10)
  clear H10
  have VWb_10 := Lib.hid hv10
  have HVE10 := Lib.hid hV10
  have HGE10 := Lib.hid hgb
  clear hv10 hb10 hV10 hgb
  go_upto_region 9 with (fail)
  rw [HGE10.out, HVE10.out]
  clear HGE10 HVE10
  have q00 := VWa_v10.out.lit.cell (o := 0) rfl
  have q01 := VWa_v10.out.lit.cell (o := 1) rfl
  have q0l := VWa_v10.out.lit.lt
  have q10 := VWb_10.out.lit.cell (o := 0) rfl
  have q11 := VWb_10.out.lit.cell (o := 1) rfl
  have q1l := VWb_10.out.lit.lt
  have hcon := one_sees HV10.out (by decide +kernel) 1 3 2 true (by unfold I64; omega) (by decide +kernel)
  go_wp2_with fail
  refine (show Calls Try.prog _ _ _ _ from hcon).mono ?_
  rintro e w11 ⟨rfl, hb11⟩
  have VWa_11 := Lib.hid (VWa_v10.out.below hb11)
  have VWb_11 := Lib.hid (VWb_10.out.below hb11)
  have H11 := Lib.hid (HV10.out.below hb11)
  clear hb11 HV10
  clear hcon VWa_v10 VWb_10 q00 q01 q0l q10 q11 q1l
  have q00 := VWa_11.out.lit.cell (o := 0) rfl
  have q01 := VWa_11.out.lit.cell (o := 1) rfl
  have q0l := VWa_11.out.lit.lt
  have q10 := VWb_11.out.lit.cell (o := 0) rfl
  have q11 := VWb_11.out.lit.cell (o := 1) rfl
  have q1l := VWb_11.out.lit.lt
  have hcon := one_sees H11.out (by decide +kernel) 1 3 1 true (by unfold I64; omega) (by decide +kernel)
  go_wp2_with fail
  refine (show Calls Try.prog _ _ _ _ from hcon).mono ?_
  rintro e w12 ⟨rfl, hb12⟩
  have VWa_12 := Lib.hid (VWa_11.out.below hb12)
  have VWb_12 := Lib.hid (VWb_11.out.below hb12)
  have H12 := Lib.hid (H11.out.below hb12)
  clear hb12 H11
  clear hcon VWa_11 VWb_11 q00 q01 q0l q10 q11 q1l
  have q00 := VWa_12.out.lit.cell (o := 0) rfl
  have q01 := VWa_12.out.lit.cell (o := 1) rfl
  have q0l := VWa_12.out.lit.lt
  have q10 := VWb_12.out.lit.cell (o := 0) rfl
  have q11 := VWb_12.out.lit.cell (o := 1) rfl
  have q1l := VWb_12.out.lit.lt
  have hcon := one_sees H12.out (by decide +kernel) 0 3 2 false (by unfold I64; omega) (by decide +kernel)
  go_wp2_with fail
  refine (show Calls Try.prog _ _ _ _ from hcon).mono ?_
  rintro e w13 ⟨rfl, hb13⟩
  have VWa_13 := Lib.hid (VWa_12.out.below hb13)
  have VWb_13 := Lib.hid (VWb_12.out.below hb13)
  have H13 := Lib.hid (H12.out.below hb13)
  clear hb13 H12
  clear hcon VWa_12 VWb_12 q00 q01 q0l q10 q11 q1l
  have q00 := VWa_13.out.lit.cell (o := 0) rfl
  have q01 := VWa_13.out.lit.cell (o := 1) rfl
  have q0l := VWa_13.out.lit.lt
  have q10 := VWb_13.out.lit.cell (o := 0) rfl
  have q11 := VWb_13.out.lit.cell (o := 1) rfl
  have q1l := VWb_13.out.lit.lt
  have hcon := one_later H13.out (by decide +kernel) 0 3 2 true (by unfold I64; omega) (by decide +kernel)
  go_wp2_with fail
  refine (show Calls Try.prog _ _ _ _ from hcon).mono ?_
  rintro e w14 ⟨rfl, hb14⟩
  have VWa_14 := Lib.hid (VWa_13.out.below hb14)
  have VWb_14 := Lib.hid (VWb_13.out.below hb14)
  have H14 := Lib.hid (H13.out.below hb14)
  clear hb14 H13
  clear hcon VWa_13 VWb_13 q00 q01 q0l q10 q11 q1l
  have q00 := VWa_14.out.lit.cell (o := 0) rfl
  have q01 := VWa_14.out.lit.cell (o := 1) rfl
  have q0l := VWa_14.out.lit.lt
  have q10 := VWb_14.out.lit.cell (o := 0) rfl
  have q11 := VWb_14.out.lit.cell (o := 1) rfl
  have q1l := VWb_14.out.lit.lt
  have hcon := one_own H14.out (by decide +kernel) 1 3 2 false (by unfold I64; omega) (by decide +kernel)
  go_wp2_with fail
  refine (show Calls Try.prog _ _ _ _ from hcon).mono ?_
  rintro e w15 ⟨rfl, hb15⟩
  have VWa_15 := Lib.hid (VWa_14.out.below hb15)
  have VWb_15 := Lib.hid (VWb_14.out.below hb15)
  have H15 := Lib.hid (H14.out.below hb15)
  clear hb15 H14
  clear hcon VWa_14 VWb_14 q00 q01 q0l q10 q11 q1l
  go_wp2_with fail
  go_ret
  exact ⟨rfl, H15.out.bel⟩

end Go.Proofs.Ytpdfknknnklioaa
