/-
  The examples (awake).
-/
import Derived.Test.YtnifpphimodonaaSAw
namespace Go.Proofs.Ytnifpphimodonaa
open Go.RowKit

theorem eql_same (n u : Int) (w : World) : (Go.binOp .eql 23 (.agg #[.int .u8 4, .int .i64 n, .int .i64 u, .string ⟨#[]⟩]) (.agg #[.int .u8 4, .int .i64 n, .int .i64 u, .string ⟨#[]⟩])).run Try.prog w = .ok (.bool true) w := eql_is (spanV n u) (spanV n u) true (eqB_iff.2 rfl) w

set_option maxRecDepth 100000 in
set_option maxHeartbeats 4000000 in
theorem awake_is (w : World) : Calls Try.prog 9 #[] w fun e w' => e = .returned (.bool true) ∧ Below w.heap.size w w' := by
  have hcom : ∀ w, Calls Try.prog 12 #[.agg #[.int .u8 4, .int .i64 1, .int .i64 4, .string ⟨#[]⟩], .agg #[.int .u8 4, .int .i64 3, .int .i64 5, .string ⟨#[]⟩]] w fun e w' => e = .returned (.tuple #[.agg #[.int .u8 4, .int .i64 3, .int .i64 4, .string ⟨#[]⟩], .bool true]) ∧ Below w.heap.size w w' := fun w => by
    have h := com_is (spanV 1 4) (spanV 3 5) w
    have hm : meetS (spanV 1 4) (spanV 3 5) = true := by rw [meet_span]; decide
    rw [show comS (spanV 1 4) (spanV 3 5) = spanV 3 4 by unfold comS; rw [hm]; rfl, hm] at h
    exact h
  have HCOM := Lib.hid hcom
  clear hcom
  go_enter Try.func9, Try.ntmps9
  go_wp2_with fail
  refine (sof_f 5 5 (by omega) _).mono ?_
  rintro e w1 ⟨rfl, hb1⟩
  have hA1 := below_tr hb1 (Below.allocs w1 (.cells #[.int .u8 0, .int .i64 0, .int .i64 0, .string ⟨#[]⟩] 23))
  go_wp2_with fail
  refine (lof_is 1 4 _).mono ?_
  rintro e w2 ⟨rfl, hb2⟩
  have hA2 := below_tr hA1 hb2
  clear hb1 hA1 hb2
  go_wp2_with fail
  refine (lof_is 3 5 _).mono ?_
  rintro e w3 ⟨rfl, hb3⟩
  have hA3 := below_tr hA2 hb3
  clear hA2 hb3
  go_wp2_with fail
  refine (HCOM.out _).mono ?_
  rintro e w4 ⟨rfl, hb4⟩
  have hA4 := below_tr (below_tr hA3 hb4) (Below.allocs w4 (.cells #[.int .u8 4, .int .i64 3, .int .i64 4, .string ⟨#[]⟩] 23))
  have B3 := Boxed.new w4 4 3 4 ⟨#[]⟩ 23
  clear hA3 hb4
  go_wp2_with fail
  refine (lof_is 0 10 _).mono ?_
  rintro e w5 ⟨rfl, hb5⟩
  have hA5 := below_tr hA4 hb5
  have HB5 := Lib.hid (B3.below hb5)
  clear hA4 hb5 B3
  go_wp2_with fail
  refine (lof_is 2 4 _).mono ?_
  rintro e w6 ⟨rfl, hb6⟩
  have hA6 := below_tr hA5 hb6
  have HB6 := Lib.hid (HB5.out.below hb6)
  clear hA5 hb6 HB5
  go_wp2_with fail
  refine (lof_is 3 7 _).mono ?_
  rintro e w7 ⟨rfl, hb7⟩
  have hA7 := Lib.hid (below_tr hA6 hb7)
  have HB7 := Lib.hid (HB6.out.below hb7)
  clear hA6 hb7 HB6
  go_wp2_with fail
  have hal := Below.allocs w7 (.cells #[.int .u8 4, .int .i64 2, .int .i64 4, .string ⟨#[]⟩, .int .u8 4, .int .i64 3, .int .i64 7, .string ⟨#[]⟩] 23)
  refine (free_ok (spanV 0 10) _ 2 2 _ _ (new2 w7 (spanV 2 4) (spanV 3 7)) (by rw [okS_span]; decide) (fun i hi => by rcases (show i = 0 ∨ i = 1 by omega) with rfl | rfl <;> (show okS (spanV _ _) = true; rw [okS_span]; decide)) _ ex_gaps).mono ?_
  rintro e w8 ⟨s, rfl, ho, hb8⟩
  rcases own_row ho with ⟨_, h⟩ | ⟨g, cap, rfl, hcap, hcm, -, hR⟩
  · cases h
  have hA8 := Lib.hid (below_tr (below_tr hA7.out hal) hb8)
  have HB8 := Lib.hid ((HB7.out.below hal).below hb8)
  have HR8 := Lib.hid hR
  clear hal hb8 hR ho hA7 HB7
  go_wp2_with fail
  refine (lof_is 1 2 _).mono ?_
  rintro e w9 ⟨rfl, hb9⟩
  have hA9 := Lib.hid (below_tr hA8.out hb9)
  have HB9 := Lib.hid (HB8.out.below hb9)
  have HR9 := Lib.hid (HR8.out.below hb9)
  clear hA8 HB8 HR8 hb9
  go_wp2_with fail
  refine (lof_is 5 9 _).mono ?_
  rintro e w10 ⟨rfl, hb10⟩
  have hA10 := Lib.hid (below_tr hA9.out hb10)
  have HB10 := Lib.hid (HB9.out.below hb10)
  have HR10 := Lib.hid (HR9.out.below hb10)
  clear hA9 HB9 HR9 hb10
  go_wp2_with fail
  refine (lof_is 8 10 _).mono ?_
  rintro e w11 ⟨rfl, hb11⟩
  have hA11 := Lib.hid (below_tr hA10.out hb11)
  have HB11 := Lib.hid (HB10.out.below hb11)
  have HR11 := Lib.hid (HR10.out.below hb11)
  clear hA10 HB10 HR10 hb11
  go_wp2_with fail
  have hal := Below.allocs w11 (.cells #[.int .u8 4, .int .i64 1, .int .i64 2, .string ⟨#[]⟩, .int .u8 4, .int .i64 5, .int .i64 9, .string ⟨#[]⟩, .int .u8 4, .int .i64 8, .int .i64 10, .string ⟨#[]⟩] 23)
  refine (sfirst_is _ 3 3 _ 1 2 true _ (new3 w11 (spanV 1 2) (spanV 5 9) (spanV 8 10)) ex_first).mono ?_
  rintro e W ⟨rfl, hb12⟩
  have hA := below_tr (below_tr hA11.out hal) hb12
  have HB := Lib.hid ((HB11.out.below hal).below hb12)
  have HR := Lib.hid ((HR11.out.below hal).below hb12)
  have hq1 := eql_same 3 4
  have hq2 := eql_same 0 2
  have hq3 := eql_same 7 10
  clear hal hb12 hA11 HB11 HR11 HCOM
  go_wp2_with fail
  have hdr := below_drw W
  try simp only [List.append_eq, List.cons_append, List.nil_append]
  refine RX.wp_region_plan (fun w w' => Below w.heap.size w w') [.it (.int .i64 4), .it (.bool true), .it (.bool true), .it (.agg #[.int .u8 4, .int .i64 1, .int .i64 3, .string ⟨#[]⟩]), .it (.agg #[.int .u8 4, .int .i64 3, .int .i64 5, .string ⟨#[]⟩]), .it (.bool false), .it (.bool true), .it (.bool true), .it (.bool true), .it (.agg #[.int .u8 4, .int .i64 1, .int .i64 4, .string ⟨#[]⟩]), .it (.agg #[.int .u8 4, .int .i64 3, .int .i64 5, .string ⟨#[]⟩]), .it (.bool true), .it (.bool true), .it (.bool true), .it (.bool true), .it (.bool true), .it (.bool true), .it (.agg #[.int .u8 4, .int .i64 3, .int .i64 4, .string ⟨#[]⟩]), .it (.agg #[.int .u8 4, .int .i64 3, .int .i64 4, .string ⟨#[]⟩]), .it (.bool true), .it (.bool true), .it (.bool true), .it (.int .i64 0), .it (.bool true), .it (.bool true), .it (.bool true), .it (.slice (some ⟨g, 0, none⟩) 2 cap), .it (.int .i64 2), .it (.bool true), .it (.bool true), .it (.bool true), .it (.slice (some ⟨g, 0, none⟩) 2 cap), .it (.pointer (some ⟨g, 0, none⟩)), .it (.agg #[.int .u8 4, .int .i64 0, .int .i64 2, .string ⟨#[]⟩]), .it (.agg #[.int .u8 4, .int .i64 0, .int .i64 2, .string ⟨#[]⟩]), .it (.bool true), .it (.bool true), .it (.bool true), .it (.slice (some ⟨g, 0, none⟩) 2 cap), .it (.pointer (some ⟨g, 4, none⟩)), .it (.agg #[.int .u8 4, .int .i64 7, .int .i64 10, .string ⟨#[]⟩]), .it (.agg #[.int .u8 4, .int .i64 7, .int .i64 10, .string ⟨#[]⟩]), .it (.bool true), .it (.bool true), .it (.bool true), .it (.int .i64 1), .it (.bool true), .it (.bool true), .it (.bool true), .it (.int .i64 2), .it (.bool true), .it (.bool true), .it (.bool true), .it (.bool true), .it (.bool true), .it (.bool true)] (by kernel_rfl) (by kernel_rfl) (fun _ => Below.refl _ _) (fun _ _ _ => below_tr) ?_
  refine RX.seqP_value (fun _ => Below.refl _ _) _ (by first | rfl | simp) (fun w' hw' hctx => by (go_simp); (try first | with_reducible rfl | simp)) ?_
  simp only [Act.put, List.setIfInBounds_toArray, List.set_cons_zero, List.set_cons_succ]
  refine RX.seqP_value (fun _ => Below.refl _ _) _ (by first | rfl | simp) (fun w' hw' hctx => by (go_simp); (try first | with_reducible rfl | simp)) ?_
  simp only [Act.put, List.setIfInBounds_toArray, List.set_cons_zero, List.set_cons_succ]
  refine RX.seqP_value (fun _ => Below.refl _ _) _ (by first | rfl | simp) (fun w' hw' hctx => by (go_simp); (try first | with_reducible rfl | simp)) ?_
  simp only [Act.put, List.setIfInBounds_toArray, List.set_cons_zero, List.set_cons_succ]
  refine RX.seqP_call (25) #[.int .i64 1, .int .i64 3] (.agg #[.int .u8 4, .int .i64 1, .int .i64 3, .string ⟨#[]⟩]) (by first | rfl | simp) (fun w' hw' hctx => ?_) (fun w' hw' hctx => lof_is 1 3 w') ?_
  · go_simp
  simp only [Act.put, List.setIfInBounds_toArray, List.set_cons_zero, List.set_cons_succ]
  refine RX.seqP_call (25) #[.int .i64 3, .int .i64 5] (.agg #[.int .u8 4, .int .i64 3, .int .i64 5, .string ⟨#[]⟩]) (by first | rfl | simp) (fun w' hw' hctx => ?_) (fun w' hw' hctx => lof_is 3 5 w') ?_
  · go_simp
  simp only [Act.put, List.setIfInBounds_toArray, List.set_cons_zero, List.set_cons_succ]
  refine RX.seqP_call (18) #[.agg #[.int .u8 4, .int .i64 1, .int .i64 3, .string ⟨#[]⟩], .agg #[.int .u8 4, .int .i64 3, .int .i64 5, .string ⟨#[]⟩]] (.bool false) (by first | rfl | simp) (fun w' hw' hctx => ?_) (fun w' hw' hctx => meets_is (spanV 1 3) (spanV 3 5) false (by rw [meet_span]; decide) w') ?_
  · go_simp
  simp only [Act.put, List.setIfInBounds_toArray, List.set_cons_zero, List.set_cons_succ]
  refine RX.seqP_value (fun _ => Below.refl _ _) _ (by first | rfl | simp) (fun w' hw' hctx => by (go_simp); (try first | with_reducible rfl | simp)) ?_
  simp only [Act.put, List.setIfInBounds_toArray, List.set_cons_zero, List.set_cons_succ]
  refine RX.seqP_value (fun _ => Below.refl _ _) _ (by first | rfl | simp) (fun w' hw' hctx => by (go_simp); (try first | with_reducible rfl | simp)) ?_
  simp only [Act.put, List.setIfInBounds_toArray, List.set_cons_zero, List.set_cons_succ]
  refine RX.seqP_value (fun _ => Below.refl _ _) _ (by first | rfl | simp) (fun w' hw' hctx => by (go_simp); (try first | with_reducible rfl | simp)) ?_
  simp only [Act.put, List.setIfInBounds_toArray, List.set_cons_zero, List.set_cons_succ]
  refine RX.seqP_call (25) #[.int .i64 1, .int .i64 4] (.agg #[.int .u8 4, .int .i64 1, .int .i64 4, .string ⟨#[]⟩]) (by first | rfl | simp) (fun w' hw' hctx => ?_) (fun w' hw' hctx => lof_is 1 4 w') ?_
  · go_simp
  simp only [Act.put, List.setIfInBounds_toArray, List.set_cons_zero, List.set_cons_succ]
  refine RX.seqP_call (25) #[.int .i64 3, .int .i64 5] (.agg #[.int .u8 4, .int .i64 3, .int .i64 5, .string ⟨#[]⟩]) (by first | rfl | simp) (fun w' hw' hctx => ?_) (fun w' hw' hctx => lof_is 3 5 w') ?_
  · go_simp
  simp only [Act.put, List.setIfInBounds_toArray, List.set_cons_zero, List.set_cons_succ]
  refine RX.seqP_call (18) #[.agg #[.int .u8 4, .int .i64 1, .int .i64 4, .string ⟨#[]⟩], .agg #[.int .u8 4, .int .i64 3, .int .i64 5, .string ⟨#[]⟩]] (.bool true) (by first | rfl | simp) (fun w' hw' hctx => ?_) (fun w' hw' hctx => meets_is (spanV 1 4) (spanV 3 5) true (by rw [meet_span]; decide) w') ?_
  · go_simp
  simp only [Act.put, List.setIfInBounds_toArray, List.set_cons_zero, List.set_cons_succ]
  refine RX.seqP_value (fun _ => Below.refl _ _) _ (by first | rfl | simp) (fun w' hw' hctx => by (go_simp); (try first | with_reducible rfl | simp)) ?_
  simp only [Act.put, List.setIfInBounds_toArray, List.set_cons_zero, List.set_cons_succ]
  refine RX.seqP_value (fun _ => Below.refl _ _) _ (by first | rfl | simp) (fun w' hw' hctx => by (go_simp); (try first | with_reducible rfl | simp)) ?_
  simp only [Act.put, List.setIfInBounds_toArray, List.set_cons_zero, List.set_cons_succ]
  refine RX.seqP_value (fun _ => Below.refl _ _) _ (by first | rfl | simp) (fun w' hw' hctx => by (go_simp); (try first | with_reducible rfl | simp)) ?_
  simp only [Act.put, List.setIfInBounds_toArray, List.set_cons_zero, List.set_cons_succ]
  refine RX.seqP_value (fun _ => Below.refl _ _) _ (by first | rfl | simp) (fun w' hw' hctx => by (go_simp); (try first | with_reducible rfl | simp)) ?_
  simp only [Act.put, List.setIfInBounds_toArray, List.set_cons_zero, List.set_cons_succ]
  refine RX.seqP_value (fun _ => Below.refl _ _) _ (by first | rfl | simp) (fun w' hw' hctx => by (go_simp); (try first | with_reducible rfl | simp)) ?_
  simp only [Act.put, List.setIfInBounds_toArray, List.set_cons_zero, List.set_cons_succ]
  refine RX.seqP_value (fun _ => Below.refl _ _) _ (by first | rfl | simp) (fun w' hw' hctx => ?_) ?_
  · obtain ⟨c0, c1, c2, c3, c4⟩ := HB.out.below (below_tr hdr hw')
    go_simp
    try first | with_reducible rfl | simp
  simp only [Act.put, List.setIfInBounds_toArray, List.set_cons_zero, List.set_cons_succ]
  refine RX.seqP_call (25) #[.int .i64 3, .int .i64 4] (.agg #[.int .u8 4, .int .i64 3, .int .i64 4, .string ⟨#[]⟩]) (by first | rfl | simp) (fun w' hw' hctx => ?_) (fun w' hw' hctx => lof_is 3 4 w') ?_
  · go_simp
  simp only [Act.put, List.setIfInBounds_toArray, List.set_cons_zero, List.set_cons_succ]
  refine RX.seqP_value (fun _ => Below.refl _ _) _ (by first | rfl | simp) (fun w' hw' hctx => by (go_simp); (try first | with_reducible rfl | simp)) ?_
  simp only [Act.put, List.setIfInBounds_toArray, List.set_cons_zero, List.set_cons_succ]
  refine RX.seqP_value (fun _ => Below.refl _ _) _ (by first | rfl | simp) (fun w' hw' hctx => by (go_simp); (try first | with_reducible rfl | simp)) ?_
  simp only [Act.put, List.setIfInBounds_toArray, List.set_cons_zero, List.set_cons_succ]
  refine RX.seqP_value (fun _ => Below.refl _ _) _ (by first | rfl | simp) (fun w' hw' hctx => by (go_simp); (try first | with_reducible rfl | simp)) ?_
  simp only [Act.put, List.setIfInBounds_toArray, List.set_cons_zero, List.set_cons_succ]
  refine RX.seqP_value (fun _ => Below.refl _ _) _ (by first | rfl | simp) (fun w' hw' hctx => by (go_simp); (try first | with_reducible rfl | simp)) ?_
  simp only [Act.put, List.setIfInBounds_toArray, List.set_cons_zero, List.set_cons_succ]
  refine RX.seqP_value (fun _ => Below.refl _ _) _ (by first | rfl | simp) (fun w' hw' hctx => by (go_simp); (try first | with_reducible rfl | simp)) ?_
  simp only [Act.put, List.setIfInBounds_toArray, List.set_cons_zero, List.set_cons_succ]
  refine RX.seqP_value (fun _ => Below.refl _ _) _ (by first | rfl | simp) (fun w' hw' hctx => by (go_simp); (try first | with_reducible rfl | simp)) ?_
  simp only [Act.put, List.setIfInBounds_toArray, List.set_cons_zero, List.set_cons_succ]
  refine RX.seqP_value (fun _ => Below.refl _ _) _ (by first | rfl | simp) (fun w' hw' hctx => by (go_simp); (try first | with_reducible rfl | simp)) ?_
  simp only [Act.put, List.setIfInBounds_toArray, List.set_cons_zero, List.set_cons_succ]
  refine RX.seqP_value (fun _ => Below.refl _ _) _ (by first | rfl | simp) (fun w' hw' hctx => by (go_simp); (try first | with_reducible rfl | simp)) ?_
  simp only [Act.put, List.setIfInBounds_toArray, List.set_cons_zero, List.set_cons_succ]
  refine RX.seqP_value (fun _ => Below.refl _ _) _ (by first | rfl | simp) (fun w' hw' hctx => by (go_simp); (try first | with_reducible rfl | simp)) ?_
  simp only [Act.put, List.setIfInBounds_toArray, List.set_cons_zero, List.set_cons_succ]
  refine RX.seqP_value (fun _ => Below.refl _ _) _ (by first | rfl | simp) (fun w' hw' hctx => by (go_simp); (try first | with_reducible rfl | simp)) ?_
  simp only [Act.put, List.setIfInBounds_toArray, List.set_cons_zero, List.set_cons_succ]
  refine RX.seqP_value (fun _ => Below.refl _ _) _ (by first | rfl | simp) (fun w' hw' hctx => by (go_simp); (try first | with_reducible rfl | simp)) ?_
  simp only [Act.put, List.setIfInBounds_toArray, List.set_cons_zero, List.set_cons_succ]
  refine RX.seqP_value (fun _ => Below.refl _ _) _ (by first | rfl | simp) (fun w' hw' hctx => by (go_simp); (try first | with_reducible rfl | simp)) ?_
  simp only [Act.put, List.setIfInBounds_toArray, List.set_cons_zero, List.set_cons_succ]
  refine RX.seqP_value (fun _ => Below.refl _ _) _ (by first | rfl | simp) (fun w' hw' hctx => by (go_simp); (try first | with_reducible rfl | simp)) ?_
  simp only [Act.put, List.setIfInBounds_toArray, List.set_cons_zero, List.set_cons_succ]
  refine RX.seqP_value (fun _ => Below.refl _ _) _ (by first | rfl | simp) (fun w' hw' hctx => by (go_simp); (try first | with_reducible rfl | simp)) ?_
  simp only [Act.put, List.setIfInBounds_toArray, List.set_cons_zero, List.set_cons_succ]
  refine RX.seqP_value (fun _ => Below.refl _ _) _ (by first | rfl | simp) (fun w' hw' hctx => ?_) ?_
  · obtain ⟨c0, c1, c2, c3, c4⟩ : AtV w' g 0 (spanV 0 2) := (HR.out.below (below_tr hdr hw')).at' 0 (by decide)
    unfold spanV at c0 c1 c2 c3
    dsimp only at c0 c1 c2 c3
    go_simp
    try first | with_reducible rfl | simp
  simp only [Act.put, List.setIfInBounds_toArray, List.set_cons_zero, List.set_cons_succ]
  refine RX.seqP_call (25) #[.int .i64 0, .int .i64 2] (.agg #[.int .u8 4, .int .i64 0, .int .i64 2, .string ⟨#[]⟩]) (by first | rfl | simp) (fun w' hw' hctx => ?_) (fun w' hw' hctx => lof_is 0 2 w') ?_
  · go_simp
  simp only [Act.put, List.setIfInBounds_toArray, List.set_cons_zero, List.set_cons_succ]
  refine RX.seqP_value (fun _ => Below.refl _ _) _ (by first | rfl | simp) (fun w' hw' hctx => by (go_simp); (try first | with_reducible rfl | simp)) ?_
  simp only [Act.put, List.setIfInBounds_toArray, List.set_cons_zero, List.set_cons_succ]
  refine RX.seqP_value (fun _ => Below.refl _ _) _ (by first | rfl | simp) (fun w' hw' hctx => by (go_simp); (try first | with_reducible rfl | simp)) ?_
  simp only [Act.put, List.setIfInBounds_toArray, List.set_cons_zero, List.set_cons_succ]
  refine RX.seqP_value (fun _ => Below.refl _ _) _ (by first | rfl | simp) (fun w' hw' hctx => by (go_simp); (try first | with_reducible rfl | simp)) ?_
  simp only [Act.put, List.setIfInBounds_toArray, List.set_cons_zero, List.set_cons_succ]
  refine RX.seqP_value (fun _ => Below.refl _ _) _ (by first | rfl | simp) (fun w' hw' hctx => by (go_simp); (try first | with_reducible rfl | simp)) ?_
  simp only [Act.put, List.setIfInBounds_toArray, List.set_cons_zero, List.set_cons_succ]
  refine RX.seqP_value (fun _ => Below.refl _ _) _ (by first | rfl | simp) (fun w' hw' hctx => by (go_simp); (try first | with_reducible rfl | simp)) ?_
  simp only [Act.put, List.setIfInBounds_toArray, List.set_cons_zero, List.set_cons_succ]
  refine RX.seqP_value (fun _ => Below.refl _ _) _ (by first | rfl | simp) (fun w' hw' hctx => ?_) ?_
  · obtain ⟨c0, c1, c2, c3, c4⟩ : AtV w' g 4 (spanV 7 10) := (HR.out.below (below_tr hdr hw')).at' 1 (by decide)
    unfold spanV at c0 c1 c2 c3
    dsimp only at c0 c1 c2 c3
    go_simp
    try first | with_reducible rfl | simp
  simp only [Act.put, List.setIfInBounds_toArray, List.set_cons_zero, List.set_cons_succ]
  refine RX.seqP_call (25) #[.int .i64 7, .int .i64 10] (.agg #[.int .u8 4, .int .i64 7, .int .i64 10, .string ⟨#[]⟩]) (by first | rfl | simp) (fun w' hw' hctx => ?_) (fun w' hw' hctx => lof_is 7 10 w') ?_
  · go_simp
  simp only [Act.put, List.setIfInBounds_toArray, List.set_cons_zero, List.set_cons_succ]
  refine RX.seqP_value (fun _ => Below.refl _ _) _ (by first | rfl | simp) (fun w' hw' hctx => by (go_simp); (try first | with_reducible rfl | simp)) ?_
  simp only [Act.put, List.setIfInBounds_toArray, List.set_cons_zero, List.set_cons_succ]
  refine RX.seqP_value (fun _ => Below.refl _ _) _ (by first | rfl | simp) (fun w' hw' hctx => by (go_simp); (try first | with_reducible rfl | simp)) ?_
  simp only [Act.put, List.setIfInBounds_toArray, List.set_cons_zero, List.set_cons_succ]
  refine RX.seqP_value (fun _ => Below.refl _ _) _ (by first | rfl | simp) (fun w' hw' hctx => by (go_simp); (try first | with_reducible rfl | simp)) ?_
  simp only [Act.put, List.setIfInBounds_toArray, List.set_cons_zero, List.set_cons_succ]
  refine RX.seqP_value (fun _ => Below.refl _ _) _ (by first | rfl | simp) (fun w' hw' hctx => by (go_simp); (try first | with_reducible rfl | simp)) ?_
  simp only [Act.put, List.setIfInBounds_toArray, List.set_cons_zero, List.set_cons_succ]
  refine RX.seqP_value (fun _ => Below.refl _ _) _ (by first | rfl | simp) (fun w' hw' hctx => by (go_simp); (try first | with_reducible rfl | simp)) ?_
  simp only [Act.put, List.setIfInBounds_toArray, List.set_cons_zero, List.set_cons_succ]
  refine RX.seqP_value (fun _ => Below.refl _ _) _ (by first | rfl | simp) (fun w' hw' hctx => by (go_simp); (try first | with_reducible rfl | simp)) ?_
  simp only [Act.put, List.setIfInBounds_toArray, List.set_cons_zero, List.set_cons_succ]
  refine RX.seqP_value (fun _ => Below.refl _ _) _ (by first | rfl | simp) (fun w' hw' hctx => by (go_simp); (try first | with_reducible rfl | simp)) ?_
  simp only [Act.put, List.setIfInBounds_toArray, List.set_cons_zero, List.set_cons_succ]
  refine RX.seqP_value (fun _ => Below.refl _ _) _ (by first | rfl | simp) (fun w' hw' hctx => by (go_simp); (try first | with_reducible rfl | simp)) ?_
  simp only [Act.put, List.setIfInBounds_toArray, List.set_cons_zero, List.set_cons_succ]
  refine RX.seqP_value (fun _ => Below.refl _ _) _ (by first | rfl | simp) (fun w' hw' hctx => by (go_simp); (try first | with_reducible rfl | simp)) ?_
  simp only [Act.put, List.setIfInBounds_toArray, List.set_cons_zero, List.set_cons_succ]
  refine RX.seqP_value (fun _ => Below.refl _ _) _ (by first | rfl | simp) (fun w' hw' hctx => by (go_simp); (try first | with_reducible rfl | simp)) ?_
  simp only [Act.put, List.setIfInBounds_toArray, List.set_cons_zero, List.set_cons_succ]
  refine RX.seqP_value (fun _ => Below.refl _ _) _ (by first | rfl | simp) (fun w' hw' hctx => by (go_simp); (try first | with_reducible rfl | simp)) ?_
  simp only [Act.put, List.setIfInBounds_toArray, List.set_cons_zero, List.set_cons_succ]
  refine RX.seqP_value (fun _ => Below.refl _ _) _ (by first | rfl | simp) (fun w' hw' hctx => by (go_simp); (try first | with_reducible rfl | simp)) ?_
  simp only [Act.put, List.setIfInBounds_toArray, List.set_cons_zero, List.set_cons_succ]
  refine RX.seqP_value (fun _ => Below.refl _ _) _ (by first | rfl | simp) (fun w' hw' hctx => by (go_simp); (try first | with_reducible rfl | simp)) ?_
  simp only [Act.put, List.setIfInBounds_toArray, List.set_cons_zero, List.set_cons_succ]
  refine RX.seqP_value (fun _ => Below.refl _ _) _ (by first | rfl | simp) (fun w' hw' hctx => by (go_simp); (try first | with_reducible rfl | simp)) ?_
  simp only [Act.put, List.setIfInBounds_toArray, List.set_cons_zero]
  refine RX.seqP_nil (fun v1 hR hctx _ => ?_)
  have hv1 := below_tr hdr hR
  clear hctx hR
  go_wp2_with fail
  go_ret
  exact ⟨rfl, below_tr hA hv1⟩
end Go.Proofs.Ytnifpphimodonaa
