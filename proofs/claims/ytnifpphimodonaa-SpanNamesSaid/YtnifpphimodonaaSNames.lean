/-
  SpanNames, walked.
-/
import Derived.Test.YtnifpphimodonaaSTells
namespace Go.Proofs.Ytnifpphimodonaa
open Go.RowKit

theorem nm_g1 : GapsS (spanV (-9223372036854775808) 9223372036854775807) (fun _ => spanV 9223372036854775806 9223372036854775807) 1 [((-9223372036854775808), 9223372036854775806)] := by
  refine ⟨fun g hg => ?_, List.pairwise_singleton _ _, fun x => ?_⟩
  · rw [List.mem_singleton] at hg; subst hg; decide
  · constructor
    · rintro ⟨g, hg, h1, h2⟩
      rw [List.mem_singleton] at hg; subst hg
      have h1' : ((-9223372036854775808) : Int) ≤ x := h1
      have h2' : x < (9223372036854775806 : Int) := h2
      exact ⟨h1', by show x < (9223372036854775807 : Int); omega, fun j _ => by show ¬ ((9223372036854775806 : Int) ≤ x ∧ x < 9223372036854775807); omega⟩
    · rintro ⟨h1, h2, h3⟩
      have h1' : ((-9223372036854775808) : Int) ≤ x := h1
      have h2' : x < (9223372036854775807 : Int) := h2
      have h3' : ¬ ((9223372036854775806 : Int) ≤ x ∧ x < 9223372036854775807) := h3 0 (by omega)
      exact ⟨_, List.mem_singleton.2 rfl, h1', by show x < (9223372036854775806 : Int); omega⟩

theorem nm_g2 (D : Nat → Val) : GapsS (spanV (-9223372036854775808) 9223372036854775807) D 0 [((-9223372036854775808), 9223372036854775807)] := by
  refine ⟨fun g hg => ?_, List.pairwise_singleton _ _, fun x => ?_⟩
  · rw [List.mem_singleton] at hg; subst hg; decide
  · simp [spanV]

theorem nm_g3 : GapsS (spanV (-9223372036854775808) 9223372036854775807) (fun i => if i = 0 then spanV (-9223372036854775808) 9223372036854775807 else spanV 9223372036854775806 9223372036854775807) 2 [] := by
  refine ⟨(fun g hg => by cases hg), List.Pairwise.nil, fun x => ?_⟩
  constructor
  · rintro ⟨g, hg, _⟩; cases hg
  · rintro ⟨h1, h2, h3⟩
    exact absurd ⟨h1, h2⟩ (h3 0 (by omega))

theorem nm_nil (w : World) (D : Nat → Val) : SlV w none 0 0 D := ⟨Nat.le_refl _, by omega, by omega, fun h => absurd h (Nat.lt_irrefl _)⟩

set_option maxRecDepth 100000 in
set_option maxHeartbeats 4000000 in
theorem names_any (w : World) : Calls Try.prog 5 #[] w fun e w' => e = .returned (.bool true) ∧ Below w.heap.size w w' := by
  have hoA : okS (spanV (-9223372036854775808) 9223372036854775807) = true := by rw [okS_span]; decide
  have hoL : okS (spanV 9223372036854775806 9223372036854775807) = true := by rw [okS_span]; decide
  have hA : ∀ w, Calls Try.prog 10 #[.int .i64 (-9223372036854775808), .int .i64 9223372036854775807] w fun e w' => e = .returned (.tuple #[.agg #[.int .u8 4, .int .i64 (-9223372036854775808), .int .i64 9223372036854775807, .string ⟨#[]⟩], .int .i64 0]) ∧ Below w.heap.size w w' := fun w => sof_t (-9223372036854775808) 9223372036854775807 (by decide) w
  have hB : ∀ w, Calls Try.prog 10 #[.int .i64 9223372036854775806, .int .i64 9223372036854775807] w fun e w' => e = .returned (.tuple #[.agg #[.int .u8 4, .int .i64 9223372036854775806, .int .i64 9223372036854775807, .string ⟨#[]⟩], .int .i64 0]) ∧ Below w.heap.size w w' := fun w => sof_t 9223372036854775806 9223372036854775807 (by decide) w
  have hh1 := fun w => has_is (spanV (-9223372036854775808) 9223372036854775807) 9223372036854775807 false (by simp [hasS, spanV]) w
  have hh2 := fun w => has_is (spanV (-9223372036854775808) 9223372036854775807) (-9223372036854775808) true (by rw [hasS, hoA]; simp [spanV]) w
  have hmy := fun w => may_is ⟨4, 0, 1, ⟨#[120]⟩⟩ false (by simp [okS, ByteArray.toList_eq]) w
  have hmt := fun w => meets_is Val.zero (spanV (-9223372036854775808) 9223372036854775807) false (by simp [meetS, okS_zero]) w
  have HOA := Lib.hid hoA
  have HOL := Lib.hid hoL
  have HA := Lib.hid hA
  have HBB := Lib.hid hB
  have HH1 := Lib.hid hh1
  have HH2 := Lib.hid hh2
  have HMY := Lib.hid hmy
  have HMT := Lib.hid hmt
  clear hoA hoL hA hB hh1 hh2 hmy hmt
  go_enter Try.func5, Try.ntmps5
  go_wp2_with fail
  refine (HA.out _).mono ?_
  rintro e a1 ⟨rfl, hb1⟩
  obtain ⟨W1, hW1, hN1, hn1⟩ : ∃ V, a1.alloc (.cells #[.int .u8 4, .int .i64 (-9223372036854775808), .int .i64 9223372036854775807, .string ⟨#[]⟩] 23) = V ∧ Boxed V a1.heap.size 4 (-9223372036854775808) 9223372036854775807 ⟨#[]⟩ ∧ Below a1.heap.size a1 V := ⟨_, rfl, Boxed.new _ _ _ _ _ _, Below.allocs _ _⟩
  have HW1 := Lib.hid hW1
  have hz1 := below_tr hb1 hn1
  have HB1 := Lib.hid (hz1)
  have HN1 := Lib.hid hN1
  clear hW1 hb1 hn1 hz1 hN1
  go_wp2_with fail
  rw [HW1.out]
  refine (HBB.out _).mono ?_
  rintro e a2 ⟨rfl, hb2⟩
  obtain ⟨W2, hW2, hN2, hn2⟩ : ∃ V, a2.alloc (.cells #[.int .u8 4, .int .i64 9223372036854775806, .int .i64 9223372036854775807, .string ⟨#[]⟩] 23) = V ∧ Boxed V a2.heap.size 4 9223372036854775806 9223372036854775807 ⟨#[]⟩ ∧ Below a2.heap.size a2 V := ⟨_, rfl, Boxed.new _ _ _ _ _ _, Below.allocs _ _⟩
  have HW2 := Lib.hid hW2
  have hz2 := below_tr hb2 hn2
  have HB2 := Lib.hid (below_tr HB1.out hz2)
  have HN2 := Lib.hid hN2
  have JA2 := Lib.hid (HN1.out.below hz2)
  clear hW2 hb2 hn2 hz2 hN2
  go_wp2_with fail
  rw [HW2.out]
  refine (sof_f 1 0 (by omega) _).mono ?_
  rintro e a3 ⟨rfl, hb3⟩
  obtain ⟨W3, hW3, hN3, hn3⟩ : ∃ V, a3.alloc (.cells #[.int .u8 0, .int .i64 0, .int .i64 0, .string ⟨#[]⟩] 23) = V ∧ Boxed V a3.heap.size 0 0 0 ⟨#[]⟩ ∧ Below a3.heap.size a3 V := ⟨_, rfl, Boxed.new _ _ _ _ _ _, Below.allocs _ _⟩
  have HW3 := Lib.hid hW3
  have hz3 := below_tr hb3 hn3
  have HB3 := Lib.hid (below_tr HB2.out hz3)
  have HN3 := Lib.hid hN3
  have JA3 := Lib.hid (JA2.out.below hz3)
  have JL3 := Lib.hid (HN2.out.below hz3)
  obtain ⟨b0, b1, b2, b3, b4⟩ := JA2.out.below hb3
  obtain ⟨d0, d1, d2, d3, d4⟩ := HN2.out.below hb3
  clear hW3 hb3 hn3 hz3 hN3
  go_wp2_with fail
  rw [HW3.out]
  clear b0 b1 b2 b3 b4 d0 d1 d2 d3 d4
  have hsl := new1 W3 (spanV 9223372036854775806 9223372036854775807)
  rw [show W3.heap.size = a3.heap.size + 1 by rw [← HW3.out]; simp] at hsl
  have hal := Below.allocs W3 (.cells #[.int .u8 4, .int .i64 9223372036854775806, .int .i64 9223372036854775807, .string ⟨#[]⟩] 23)
  refine (free_ok (spanV (-9223372036854775808) 9223372036854775807) _ 1 1 _ _ hsl HOA.out (fun i hi => HOL.out) _ nm_g1).mono ?_
  rintro e a4 ⟨s, rfl, ho, hb4⟩
  rcases own_row ho with ⟨_, h⟩ | ⟨g1, capg1, rfl, -, -, -, hR⟩
  · cases h
  have Hg1 := Lib.hid hR
  clear ho hR
  have hz4 := below_tr hal hb4
  have HB4 := Lib.hid (below_tr HB3.out hz4)
  have JA4 := Lib.hid (JA3.out.below hz4)
  have JL4 := Lib.hid (JL3.out.below hz4)
  have JZ4 := Lib.hid (HN3.out.below hz4)
  clear hal hb4 hz4
  obtain ⟨b0, b1, b2, b3, b4⟩ := JA4.out
  obtain ⟨d0, d1, d2, d3, d4⟩ := JL4.out
  go_wp2_with fail
  clear b0 b1 b2 b3 b4 d0 d1 d2 d3 d4
  have hal := Below.refl a4.heap.size a4
  refine (free_ok (spanV (-9223372036854775808) 9223372036854775807) none 0 0 (fun _ => Val.zero) a4 (nm_nil _ _) HOA.out (fun i hi => absurd hi (Nat.not_lt_zero _)) _ (nm_g2 _)).mono ?_
  rintro e a5 ⟨s, rfl, ho, hb5⟩
  rcases own_row ho with ⟨_, h⟩ | ⟨g2, capg2, rfl, -, -, -, hR⟩
  · cases h
  have Hg2 := Lib.hid hR
  clear ho hR
  have hz5 := below_tr hal hb5
  have HB5 := Lib.hid (below_tr HB4.out hz5)
  have JA5 := Lib.hid (JA4.out.below hz5)
  have JL5 := Lib.hid (JL4.out.below hz5)
  have JZ5 := Lib.hid (JZ4.out.below hz5)
  have Hg1_5 := Lib.hid (Hg1.out.below hz5)
  clear hal hb5 hz5
  obtain ⟨b0, b1, b2, b3, b4⟩ := JA5.out
  obtain ⟨d0, d1, d2, d3, d4⟩ := JL5.out
  go_wp2_with fail
  clear b0 b1 b2 b3 b4 d0 d1 d2 d3 d4
  have hal := Below.allocs a5 (.cells #[.int .u8 4, .int .i64 (-9223372036854775808), .int .i64 9223372036854775807, .string ⟨#[]⟩, .int .u8 4, .int .i64 9223372036854775806, .int .i64 9223372036854775807, .string ⟨#[]⟩] 23)
  refine (free_ok (spanV (-9223372036854775808) 9223372036854775807) _ 2 2 _ _ (new2 a5 (spanV (-9223372036854775808) 9223372036854775807) (spanV 9223372036854775806 9223372036854775807)) HOA.out (fun i hi => by rcases (show i = 0 ∨ i = 1 by omega) with rfl | rfl <;> first | exact HOA.out | exact HOL.out) _ nm_g3).mono ?_
  rintro e a6 ⟨s, rfl, ho, hb6⟩
  obtain ⟨A3, cap3, rfl⟩ : ∃ A cap, s = .slice A 0 cap := by
    rcases own_row ho with ⟨h, _⟩ | ⟨g, cap, h, _⟩
    · exact ⟨_, _, h⟩
    · exact ⟨_, _, h⟩
  clear ho
  have hz6 := below_tr hal hb6
  have HB6 := Lib.hid (below_tr HB5.out hz6)
  have JA6 := Lib.hid (JA5.out.below hz6)
  have JL6 := Lib.hid (JL5.out.below hz6)
  have JZ6 := Lib.hid (JZ5.out.below hz6)
  have Hg1_6 := Lib.hid (Hg1_5.out.below hz6)
  have Hg2_6 := Lib.hid (Hg2.out.below hz6)
  clear hal hb6 hz6
  obtain ⟨b0, b1, b2, b3, b4⟩ := JA6.out
  obtain ⟨d0, d1, d2, d3, d4⟩ := JL6.out
  go_wp2_with fail
  clear b0 b1 b2 b3 b4 d0 d1 d2 d3 d4
  have hal := Below.refl a6.heap.size a6
  refine (free_bad1 Val.zero none 0 0 a6 okS_zero).mono ?_
  rintro e a7 ⟨rfl, hb7⟩
  have hz7 := below_tr hal hb7
  have HB7 := Lib.hid (below_tr HB6.out hz7)
  have JA7 := Lib.hid (JA6.out.below hz7)
  have JL7 := Lib.hid (JL6.out.below hz7)
  have JZ7 := Lib.hid (JZ6.out.below hz7)
  have Hg1_7 := Lib.hid (Hg1_6.out.below hz7)
  have Hg2_7 := Lib.hid (Hg2_6.out.below hz7)
  clear hal hb7 hz7
  obtain ⟨b0, b1, b2, b3, b4⟩ := JA7.out
  obtain ⟨d0, d1, d2, d3, d4⟩ := JL7.out
  go_wp2_with fail
  clear b0 b1 b2 b3 b4 d0 d1 d2 d3 d4
  have hal := Below.allocs a7 (.cells #[.int .u8 0, .int .i64 0, .int .i64 0, .string ⟨#[]⟩] 23)
  refine (free_bad2 (spanV (-9223372036854775808) 9223372036854775807) _ 1 1 _ _ (new1 a7 Val.zero) HOA.out (by simp [okS_zero])).mono ?_
  rintro e a8 ⟨rfl, hb8⟩
  have hz8 := below_tr hal hb8
  have HB8 := Lib.hid (below_tr HB7.out hz8)
  have JA8 := Lib.hid (JA7.out.below hz8)
  have JL8 := Lib.hid (JL7.out.below hz8)
  have JZ8 := Lib.hid (JZ7.out.below hz8)
  have Hg1_8 := Lib.hid (Hg1_7.out.below hz8)
  have Hg2_8 := Lib.hid (Hg2_7.out.below hz8)
  clear hal hb8 hz8
  obtain ⟨b0, b1, b2, b3, b4⟩ := JA8.out
  obtain ⟨d0, d1, d2, d3, d4⟩ := JL8.out
  go_wp2_with fail
  clear b0 b1 b2 b3 b4 d0 d1 d2 d3 d4
  have hq1 := eql_self (spanV (-9223372036854775808) 9223372036854775807)
  unfold spanV at hq1
  dsimp only at hq1
  have hdr := below_drw a8
  try simp only [List.append_eq, List.cons_append, List.nil_append]
  refine RX.wp_region_plan (fun w w' => Below w.heap.size w w') [.it (.int .i64 0), .it (.bool true), .it (.bool true), .it (.int .i64 0), .it (.bool true), .it (.bool true), .it (.bool true), .it (.int .i64 4), .it (.bool true), .it (.bool true), .it (.bool true), .it (.int .i64 0), .it (.bool true), .it (.bool true), .it (.bool true), .it (.slice (some ⟨g1, 0, none⟩) 1 capg1), .it (.int .i64 1), .it (.bool true), .it (.bool true), .it (.bool true), .it (.slice (some ⟨g1, 0, none⟩) 1 capg1), .it (.pointer (some ⟨g1, 0, none⟩)), .it (.pointer (some ⟨g1, 1, none⟩)), .it (.int .i64 (-9223372036854775808)), .it (.bool true), .it (.bool true), .it (.bool true), .it (.slice (some ⟨g1, 0, none⟩) 1 capg1), .it (.pointer (some ⟨g1, 0, none⟩)), .it (.pointer (some ⟨g1, 2, none⟩)), .it (.int .i64 9223372036854775806), .it (.bool true), .it (.bool true), .it (.bool true), .it (.int .i64 0), .it (.bool true), .it (.bool true), .it (.bool true), .it (.slice (some ⟨g2, 0, none⟩) 1 capg2), .it (.int .i64 1), .it (.bool true), .it (.bool true), .it (.bool true), .it (.slice (some ⟨g2, 0, none⟩) 1 capg2), .it (.pointer (some ⟨g2, 0, none⟩)), .it (.agg #[.int .u8 4, .int .i64 (-9223372036854775808), .int .i64 9223372036854775807, .string ⟨#[]⟩]), .it (.agg #[.int .u8 4, .int .i64 (-9223372036854775808), .int .i64 9223372036854775807, .string ⟨#[]⟩]), .it (.bool true), .it (.bool true), .it (.bool true), .it (.int .i64 0), .it (.bool true), .it (.bool true), .it (.bool true), .it (.slice A3 0 cap3), .it (.int .i64 0), .it (.bool true), .it (.bool true), .it (.bool true), .it (.int .i64 4), .it (.bool true), .it (.bool true), .it (.bool true), .it (.int .i64 4), .it (.bool true), .it (.bool true), .it (.bool true), .it (.agg #[.int .u8 4, .int .i64 (-9223372036854775808), .int .i64 9223372036854775807, .string ⟨#[]⟩]), .it (.bool false), .it (.bool true), .it (.bool true), .it (.bool true), .it (.agg #[.int .u8 4, .int .i64 (-9223372036854775808), .int .i64 9223372036854775807, .string ⟨#[]⟩]), .it (.bool true), .it (.bool true), .it (.bool true), .it (.agg #[.int .u8 4, .int .i64 0, .int .i64 1, .string ⟨#[120]⟩]), .it (.bool false), .it (.bool true), .it (.bool true), .it (.bool true), .it (.agg #[.int .u8 0, .int .i64 0, .int .i64 0, .string ⟨#[]⟩]), .it (.agg #[.int .u8 4, .int .i64 (-9223372036854775808), .int .i64 9223372036854775807, .string ⟨#[]⟩]), .it (.bool false), .it (.bool true), .it (.bool true), .it (.bool true), .it (.bool true), .it (.bool true), .it (.bool true)] (by kernel_rfl) (by kernel_rfl) (fun _ => Below.refl _ _) (fun _ _ _ => below_tr) ?_
  refine RX.seqP_value (fun _ => Below.refl _ _) _ (by first | rfl | simp) (fun w' hw' hctx => by (go_simp); (try first | with_reducible rfl | simp)) ?_
  simp only [Act.put, List.setIfInBounds_toArray, List.set_cons_zero, List.set_cons_succ]
  refine RX.seqP_value (fun _ => Below.refl _ _) _ (by first | rfl | simp) (fun w' hw' hctx => by (go_simp); (try first | with_reducible rfl | simp)) ?_
  simp only [Act.put, List.setIfInBounds_toArray, List.set_cons_zero, List.set_cons_succ]
  refine RX.seqP_value (fun _ => Below.refl _ _) _ (by first | rfl | simp) (fun w' hw' hctx => by (go_simp); (try first | with_reducible rfl | simp)) ?_
  simp only [Act.put, List.setIfInBounds_toArray, List.set_cons_zero, List.set_cons_succ]
  refine RX.seqP_value (fun _ => Below.refl _ _) _ (by first | rfl | simp) (fun w' hw' hctx => by (go_simp); (try first | with_reducible rfl | simp)) ?_
  simp only [Act.put, List.setIfInBounds_toArray, List.set_cons_zero, List.set_cons_succ]
  refine RX.seqP_value (fun _ => Below.refl _ _) _ (by first | rfl | simp) (fun w' hw' hctx => by (go_simp); (try first | with_reducible rfl | simp)) ?_
  simp only [Act.put, List.setIfInBounds_toArray, List.set_cons_zero, List.set_cons_succ]
  refine RX.seqP_value (fun _ => Below.refl _ _) _ (by first | rfl | simp) (fun w' hw' hctx => by (go_simp); (try first | with_reducible rfl | simp)) ?_
  simp only [Act.put, List.setIfInBounds_toArray, List.set_cons_zero, List.set_cons_succ]
  refine RX.seqP_value (fun _ => Below.refl _ _) _ (by first | rfl | simp) (fun w' hw' hctx => by (go_simp); (try first | with_reducible rfl | simp)) ?_
  simp only [Act.put, List.setIfInBounds_toArray, List.set_cons_zero, List.set_cons_succ]
  refine RX.seqP_value (fun _ => Below.refl _ _) _ (by first | rfl | simp) (fun w' hw' hctx => by (go_simp); (try first | with_reducible rfl | simp)) ?_
  simp only [Act.put, List.setIfInBounds_toArray, List.set_cons_zero, List.set_cons_succ]
  refine RX.seqP_value (fun _ => Below.refl _ _) _ (by first | rfl | simp) (fun w' hw' hctx => by (go_simp); (try first | with_reducible rfl | simp)) ?_
  simp only [Act.put, List.setIfInBounds_toArray, List.set_cons_zero, List.set_cons_succ]
  refine RX.seqP_value (fun _ => Below.refl _ _) _ (by first | rfl | simp) (fun w' hw' hctx => by (go_simp); (try first | with_reducible rfl | simp)) ?_
  simp only [Act.put, List.setIfInBounds_toArray, List.set_cons_zero, List.set_cons_succ]
  refine RX.seqP_value (fun _ => Below.refl _ _) _ (by first | rfl | simp) (fun w' hw' hctx => by (go_simp); (try first | with_reducible rfl | simp)) ?_
  simp only [Act.put, List.setIfInBounds_toArray, List.set_cons_zero, List.set_cons_succ]
  refine RX.seqP_value (fun _ => Below.refl _ _) _ (by first | rfl | simp) (fun w' hw' hctx => by (go_simp); (try first | with_reducible rfl | simp)) ?_
  simp only [Act.put, List.setIfInBounds_toArray, List.set_cons_zero, List.set_cons_succ]
  refine RX.seqP_value (fun _ => Below.refl _ _) _ (by first | rfl | simp) (fun w' hw' hctx => by (go_simp); (try first | with_reducible rfl | simp)) ?_
  simp only [Act.put, List.setIfInBounds_toArray, List.set_cons_zero, List.set_cons_succ]
  refine RX.seqP_value (fun _ => Below.refl _ _) _ (by first | rfl | simp) (fun w' hw' hctx => by (go_simp); (try first | with_reducible rfl | simp)) ?_
  simp only [Act.put, List.setIfInBounds_toArray, List.set_cons_zero, List.set_cons_succ]
  refine RX.seqP_value (fun _ => Below.refl _ _) _ (by first | rfl | simp) (fun w' hw' hctx => by (go_simp); (try first | with_reducible rfl | simp)) ?_
  simp only [Act.put, List.setIfInBounds_toArray, List.set_cons_zero, List.set_cons_succ]
  refine RX.seqP_value (fun _ => Below.refl _ _) _ (by first | rfl | simp) (fun w' hw' hctx => by (go_simp); (try first | with_reducible rfl | simp)) ?_
  simp only [Act.put, List.setIfInBounds_toArray, List.set_cons_zero, List.set_cons_succ]
  refine RX.seqP_value (fun _ => Below.refl _ _) _ (by first | rfl | simp) (fun w' hw' hctx => by (go_simp); (try first | with_reducible rfl | simp)) ?_
  simp only [Act.put, List.setIfInBounds_toArray, List.set_cons_zero, List.set_cons_succ]
  refine RX.seqP_value (fun _ => Below.refl _ _) _ (by first | rfl | simp) (fun w' hw' hctx => by (go_simp); (try first | with_reducible rfl | simp)) ?_
  simp only [Act.put, List.setIfInBounds_toArray, List.set_cons_zero, List.set_cons_succ]
  refine RX.seqP_value (fun _ => Below.refl _ _) _ (by first | rfl | simp) (fun w' hw' hctx => by (go_simp); (try first | with_reducible rfl | simp)) ?_
  simp only [Act.put, List.setIfInBounds_toArray, List.set_cons_zero, List.set_cons_succ]
  refine RX.seqP_value (fun _ => Below.refl _ _) _ (by first | rfl | simp) (fun w' hw' hctx => by (go_simp); (try first | with_reducible rfl | simp)) ?_
  simp only [Act.put, List.setIfInBounds_toArray, List.set_cons_zero, List.set_cons_succ]
  refine RX.seqP_value (fun _ => Below.refl _ _) _ (by first | rfl | simp) (fun w' hw' hctx => by (go_simp); (try first | with_reducible rfl | simp)) ?_
  simp only [Act.put, List.setIfInBounds_toArray, List.set_cons_zero, List.set_cons_succ]
  refine RX.seqP_value (fun _ => Below.refl _ _) _ (by first | rfl | simp) (fun w' hw' hctx => by (go_simp); (try first | with_reducible rfl | simp)) ?_
  simp only [Act.put, List.setIfInBounds_toArray, List.set_cons_zero, List.set_cons_succ]
  refine RX.seqP_value (fun _ => Below.refl _ _) _ (by first | rfl | simp) (fun w' hw' hctx => by (go_simp); (try first | with_reducible rfl | simp)) ?_
  simp only [Act.put, List.setIfInBounds_toArray, List.set_cons_zero, List.set_cons_succ]
  refine RX.seqP_value (fun _ => Below.refl _ _) _ (by first | rfl | simp) (fun w' hw' hctx => ?_) ?_
  · obtain ⟨c0, c1, c2, c3, c4⟩ : AtV w' g1 0 (spanV (-9223372036854775808) 9223372036854775806) := (Hg1_8.out.below (below_tr hdr hw')).at' 0 (by decide)
    unfold spanV at c0 c1 c2 c3
    dsimp only at c0 c1 c2 c3
    go_simp
    try first | with_reducible rfl | simp
  simp only [Act.put, List.setIfInBounds_toArray, List.set_cons_zero, List.set_cons_succ]
  refine RX.seqP_value (fun _ => Below.refl _ _) _ (by first | rfl | simp) (fun w' hw' hctx => by (go_simp); (try first | with_reducible rfl | simp)) ?_
  simp only [Act.put, List.setIfInBounds_toArray, List.set_cons_zero, List.set_cons_succ]
  refine RX.seqP_value (fun _ => Below.refl _ _) _ (by first | rfl | simp) (fun w' hw' hctx => by (go_simp); (try first | with_reducible rfl | simp)) ?_
  simp only [Act.put, List.setIfInBounds_toArray, List.set_cons_zero, List.set_cons_succ]
  refine RX.seqP_value (fun _ => Below.refl _ _) _ (by first | rfl | simp) (fun w' hw' hctx => by (go_simp); (try first | with_reducible rfl | simp)) ?_
  simp only [Act.put, List.setIfInBounds_toArray, List.set_cons_zero, List.set_cons_succ]
  refine RX.seqP_value (fun _ => Below.refl _ _) _ (by first | rfl | simp) (fun w' hw' hctx => by (go_simp); (try first | with_reducible rfl | simp)) ?_
  simp only [Act.put, List.setIfInBounds_toArray, List.set_cons_zero, List.set_cons_succ]
  refine RX.seqP_value (fun _ => Below.refl _ _) _ (by first | rfl | simp) (fun w' hw' hctx => by (go_simp); (try first | with_reducible rfl | simp)) ?_
  simp only [Act.put, List.setIfInBounds_toArray, List.set_cons_zero, List.set_cons_succ]
  refine RX.seqP_value (fun _ => Below.refl _ _) _ (by first | rfl | simp) (fun w' hw' hctx => by (go_simp); (try first | with_reducible rfl | simp)) ?_
  simp only [Act.put, List.setIfInBounds_toArray, List.set_cons_zero, List.set_cons_succ]
  refine RX.seqP_value (fun _ => Below.refl _ _) _ (by first | rfl | simp) (fun w' hw' hctx => ?_) ?_
  · obtain ⟨c0, c1, c2, c3, c4⟩ : AtV w' g1 0 (spanV (-9223372036854775808) 9223372036854775806) := (Hg1_8.out.below (below_tr hdr hw')).at' 0 (by decide)
    unfold spanV at c0 c1 c2 c3
    dsimp only at c0 c1 c2 c3
    go_simp
    try first | with_reducible rfl | simp
  simp only [Act.put, List.setIfInBounds_toArray, List.set_cons_zero, List.set_cons_succ]
  refine RX.seqP_value (fun _ => Below.refl _ _) _ (by first | rfl | simp) (fun w' hw' hctx => by (go_simp); (try first | with_reducible rfl | simp)) ?_
  simp only [Act.put, List.setIfInBounds_toArray, List.set_cons_zero, List.set_cons_succ]
  refine RX.seqP_value (fun _ => Below.refl _ _) _ (by first | rfl | simp) (fun w' hw' hctx => by (go_simp); (try first | with_reducible rfl | simp)) ?_
  simp only [Act.put, List.setIfInBounds_toArray, List.set_cons_zero, List.set_cons_succ]
  refine RX.seqP_value (fun _ => Below.refl _ _) _ (by first | rfl | simp) (fun w' hw' hctx => by (go_simp); (try first | with_reducible rfl | simp)) ?_
  simp only [Act.put, List.setIfInBounds_toArray, List.set_cons_zero, List.set_cons_succ]
  refine RX.seqP_value (fun _ => Below.refl _ _) _ (by first | rfl | simp) (fun w' hw' hctx => by (go_simp); (try first | with_reducible rfl | simp)) ?_
  simp only [Act.put, List.setIfInBounds_toArray, List.set_cons_zero, List.set_cons_succ]
  refine RX.seqP_value (fun _ => Below.refl _ _) _ (by first | rfl | simp) (fun w' hw' hctx => by (go_simp); (try first | with_reducible rfl | simp)) ?_
  simp only [Act.put, List.setIfInBounds_toArray, List.set_cons_zero, List.set_cons_succ]
  refine RX.seqP_value (fun _ => Below.refl _ _) _ (by first | rfl | simp) (fun w' hw' hctx => by (go_simp); (try first | with_reducible rfl | simp)) ?_
  simp only [Act.put, List.setIfInBounds_toArray, List.set_cons_zero, List.set_cons_succ]
  refine RX.seqP_value (fun _ => Below.refl _ _) _ (by first | rfl | simp) (fun w' hw' hctx => by (go_simp); (try first | with_reducible rfl | simp)) ?_
  simp only [Act.put, List.setIfInBounds_toArray, List.set_cons_zero, List.set_cons_succ]
  refine RX.seqP_value (fun _ => Below.refl _ _) _ (by first | rfl | simp) (fun w' hw' hctx => by (go_simp); (try first | with_reducible rfl | simp)) ?_
  simp only [Act.put, List.setIfInBounds_toArray, List.set_cons_zero, List.set_cons_succ]
  refine RX.seqP_value (fun _ => Below.refl _ _) _ (by first | rfl | simp) (fun w' hw' hctx => by (go_simp); (try first | with_reducible rfl | simp)) ?_
  simp only [Act.put, List.setIfInBounds_toArray, List.set_cons_zero, List.set_cons_succ]
  refine RX.seqP_value (fun _ => Below.refl _ _) _ (by first | rfl | simp) (fun w' hw' hctx => by (go_simp); (try first | with_reducible rfl | simp)) ?_
  simp only [Act.put, List.setIfInBounds_toArray, List.set_cons_zero, List.set_cons_succ]
  refine RX.seqP_value (fun _ => Below.refl _ _) _ (by first | rfl | simp) (fun w' hw' hctx => by (go_simp); (try first | with_reducible rfl | simp)) ?_
  simp only [Act.put, List.setIfInBounds_toArray, List.set_cons_zero, List.set_cons_succ]
  refine RX.seqP_value (fun _ => Below.refl _ _) _ (by first | rfl | simp) (fun w' hw' hctx => by (go_simp); (try first | with_reducible rfl | simp)) ?_
  simp only [Act.put, List.setIfInBounds_toArray, List.set_cons_zero, List.set_cons_succ]
  refine RX.seqP_value (fun _ => Below.refl _ _) _ (by first | rfl | simp) (fun w' hw' hctx => by (go_simp); (try first | with_reducible rfl | simp)) ?_
  simp only [Act.put, List.setIfInBounds_toArray, List.set_cons_zero, List.set_cons_succ]
  refine RX.seqP_value (fun _ => Below.refl _ _) _ (by first | rfl | simp) (fun w' hw' hctx => by (go_simp); (try first | with_reducible rfl | simp)) ?_
  simp only [Act.put, List.setIfInBounds_toArray, List.set_cons_zero, List.set_cons_succ]
  refine RX.seqP_value (fun _ => Below.refl _ _) _ (by first | rfl | simp) (fun w' hw' hctx => ?_) ?_
  · obtain ⟨c0, c1, c2, c3, c4⟩ : AtV w' g2 0 (spanV (-9223372036854775808) 9223372036854775807) := (Hg2_8.out.below (below_tr hdr hw')).at' 0 (by decide)
    unfold spanV at c0 c1 c2 c3
    dsimp only at c0 c1 c2 c3
    go_simp
    try first | with_reducible rfl | simp
  simp only [Act.put, List.setIfInBounds_toArray, List.set_cons_zero, List.set_cons_succ]
  refine RX.seqP_value (fun _ => Below.refl _ _) _ (by first | rfl | simp) (fun w' hw' hctx => ?_) ?_
  · obtain ⟨c0, c1, c2, c3, c4⟩ := JA8.out.below (below_tr hdr hw')
    go_simp
    try first | with_reducible rfl | simp
  simp only [Act.put, List.setIfInBounds_toArray, List.set_cons_zero, List.set_cons_succ]
  refine RX.seqP_value (fun _ => Below.refl _ _) _ (by first | rfl | simp) (fun w' hw' hctx => by (go_simp); (try first | with_reducible rfl | simp)) ?_
  simp only [Act.put, List.setIfInBounds_toArray, List.set_cons_zero, List.set_cons_succ]
  refine RX.seqP_value (fun _ => Below.refl _ _) _ (by first | rfl | simp) (fun w' hw' hctx => by (go_simp); (try first | with_reducible rfl | simp)) ?_
  simp only [Act.put, List.setIfInBounds_toArray, List.set_cons_zero, List.set_cons_succ]
  refine RX.seqP_value (fun _ => Below.refl _ _) _ (by first | rfl | simp) (fun w' hw' hctx => by (go_simp); (try first | with_reducible rfl | simp)) ?_
  simp only [Act.put, List.setIfInBounds_toArray, List.set_cons_zero, List.set_cons_succ]
  refine RX.seqP_value (fun _ => Below.refl _ _) _ (by first | rfl | simp) (fun w' hw' hctx => by (go_simp); (try first | with_reducible rfl | simp)) ?_
  simp only [Act.put, List.setIfInBounds_toArray, List.set_cons_zero, List.set_cons_succ]
  refine RX.seqP_value (fun _ => Below.refl _ _) _ (by first | rfl | simp) (fun w' hw' hctx => by (go_simp); (try first | with_reducible rfl | simp)) ?_
  simp only [Act.put, List.setIfInBounds_toArray, List.set_cons_zero, List.set_cons_succ]
  refine RX.seqP_value (fun _ => Below.refl _ _) _ (by first | rfl | simp) (fun w' hw' hctx => by (go_simp); (try first | with_reducible rfl | simp)) ?_
  simp only [Act.put, List.setIfInBounds_toArray, List.set_cons_zero, List.set_cons_succ]
  refine RX.seqP_value (fun _ => Below.refl _ _) _ (by first | rfl | simp) (fun w' hw' hctx => by (go_simp); (try first | with_reducible rfl | simp)) ?_
  simp only [Act.put, List.setIfInBounds_toArray, List.set_cons_zero, List.set_cons_succ]
  refine RX.seqP_value (fun _ => Below.refl _ _) _ (by first | rfl | simp) (fun w' hw' hctx => by (go_simp); (try first | with_reducible rfl | simp)) ?_
  simp only [Act.put, List.setIfInBounds_toArray, List.set_cons_zero, List.set_cons_succ]
  refine RX.seqP_value (fun _ => Below.refl _ _) _ (by first | rfl | simp) (fun w' hw' hctx => by (go_simp); (try first | with_reducible rfl | simp)) ?_
  simp only [Act.put, List.setIfInBounds_toArray, List.set_cons_zero, List.set_cons_succ]
  refine RX.seqP_value (fun _ => Below.refl _ _) _ (by first | rfl | simp) (fun w' hw' hctx => by (go_simp); (try first | with_reducible rfl | simp)) ?_
  simp only [Act.put, List.setIfInBounds_toArray, List.set_cons_zero, List.set_cons_succ]
  refine RX.seqP_value (fun _ => Below.refl _ _) _ (by first | rfl | simp) (fun w' hw' hctx => by (go_simp); (try first | with_reducible rfl | simp)) ?_
  simp only [Act.put, List.setIfInBounds_toArray, List.set_cons_zero, List.set_cons_succ]
  refine RX.seqP_value (fun _ => Below.refl _ _) _ (by first | rfl | simp) (fun w' hw' hctx => by (go_simp); (try first | with_reducible rfl | simp)) ?_
  simp only [Act.put, List.setIfInBounds_toArray, List.set_cons_zero, List.set_cons_succ]
  refine RX.seqP_value (fun _ => Below.refl _ _) _ (by first | rfl | simp) (fun w' hw' hctx => by (go_simp); (try first | with_reducible rfl | simp)) ?_
  simp only [Act.put, List.setIfInBounds_toArray, List.set_cons_zero, List.set_cons_succ]
  refine RX.seqP_value (fun _ => Below.refl _ _) _ (by first | rfl | simp) (fun w' hw' hctx => by (go_simp); (try first | with_reducible rfl | simp)) ?_
  simp only [Act.put, List.setIfInBounds_toArray, List.set_cons_zero, List.set_cons_succ]
  refine RX.seqP_value (fun _ => Below.refl _ _) _ (by first | rfl | simp) (fun w' hw' hctx => by (go_simp); (try first | with_reducible rfl | simp)) ?_
  simp only [Act.put, List.setIfInBounds_toArray, List.set_cons_zero, List.set_cons_succ]
  refine RX.seqP_value (fun _ => Below.refl _ _) _ (by first | rfl | simp) (fun w' hw' hctx => by (go_simp); (try first | with_reducible rfl | simp)) ?_
  simp only [Act.put, List.setIfInBounds_toArray, List.set_cons_zero, List.set_cons_succ]
  refine RX.seqP_value (fun _ => Below.refl _ _) _ (by first | rfl | simp) (fun w' hw' hctx => by (go_simp); (try first | with_reducible rfl | simp)) ?_
  simp only [Act.put, List.setIfInBounds_toArray, List.set_cons_zero, List.set_cons_succ]
  refine RX.seqP_value (fun _ => Below.refl _ _) _ (by first | rfl | simp) (fun w' hw' hctx => by (go_simp); (try first | with_reducible rfl | simp)) ?_
  simp only [Act.put, List.setIfInBounds_toArray, List.set_cons_zero, List.set_cons_succ]
  refine RX.seqP_value (fun _ => Below.refl _ _) _ (by first | rfl | simp) (fun w' hw' hctx => by (go_simp); (try first | with_reducible rfl | simp)) ?_
  simp only [Act.put, List.setIfInBounds_toArray, List.set_cons_zero, List.set_cons_succ]
  refine RX.seqP_value (fun _ => Below.refl _ _) _ (by first | rfl | simp) (fun w' hw' hctx => by (go_simp); (try first | with_reducible rfl | simp)) ?_
  simp only [Act.put, List.setIfInBounds_toArray, List.set_cons_zero, List.set_cons_succ]
  refine RX.seqP_value (fun _ => Below.refl _ _) _ (by first | rfl | simp) (fun w' hw' hctx => ?_) ?_
  · obtain ⟨c0, c1, c2, c3, c4⟩ := JA8.out.below (below_tr hdr hw')
    go_simp
    try first | with_reducible rfl | simp
  simp only [Act.put, List.setIfInBounds_toArray, List.set_cons_zero, List.set_cons_succ]
  refine RX.seqP_call (16) #[.agg #[.int .u8 4, .int .i64 (-9223372036854775808), .int .i64 9223372036854775807, .string ⟨#[]⟩], .int .i64 9223372036854775807] (.bool false) (by first | rfl | simp) (fun w' hw' hctx => ?_) (fun w' hw' hctx => HH1.out w') ?_
  · go_simp
  simp only [Act.put, List.setIfInBounds_toArray, List.set_cons_zero, List.set_cons_succ]
  refine RX.seqP_value (fun _ => Below.refl _ _) _ (by first | rfl | simp) (fun w' hw' hctx => by (go_simp); (try first | with_reducible rfl | simp)) ?_
  simp only [Act.put, List.setIfInBounds_toArray, List.set_cons_zero, List.set_cons_succ]
  refine RX.seqP_value (fun _ => Below.refl _ _) _ (by first | rfl | simp) (fun w' hw' hctx => by (go_simp); (try first | with_reducible rfl | simp)) ?_
  simp only [Act.put, List.setIfInBounds_toArray, List.set_cons_zero, List.set_cons_succ]
  refine RX.seqP_value (fun _ => Below.refl _ _) _ (by first | rfl | simp) (fun w' hw' hctx => by (go_simp); (try first | with_reducible rfl | simp)) ?_
  simp only [Act.put, List.setIfInBounds_toArray, List.set_cons_zero, List.set_cons_succ]
  refine RX.seqP_value (fun _ => Below.refl _ _) _ (by first | rfl | simp) (fun w' hw' hctx => ?_) ?_
  · obtain ⟨c0, c1, c2, c3, c4⟩ := JA8.out.below (below_tr hdr hw')
    go_simp
    try first | with_reducible rfl | simp
  simp only [Act.put, List.setIfInBounds_toArray, List.set_cons_zero, List.set_cons_succ]
  refine RX.seqP_call (16) #[.agg #[.int .u8 4, .int .i64 (-9223372036854775808), .int .i64 9223372036854775807, .string ⟨#[]⟩], .int .i64 (-9223372036854775808)] (.bool true) (by first | rfl | simp) (fun w' hw' hctx => ?_) (fun w' hw' hctx => HH2.out w') ?_
  · go_simp
  simp only [Act.put, List.setIfInBounds_toArray, List.set_cons_zero, List.set_cons_succ]
  refine RX.seqP_value (fun _ => Below.refl _ _) _ (by first | rfl | simp) (fun w' hw' hctx => by (go_simp); (try first | with_reducible rfl | simp)) ?_
  simp only [Act.put, List.setIfInBounds_toArray, List.set_cons_zero, List.set_cons_succ]
  refine RX.seqP_value (fun _ => Below.refl _ _) _ (by first | rfl | simp) (fun w' hw' hctx => by (go_simp); (try first | with_reducible rfl | simp)) ?_
  simp only [Act.put, List.setIfInBounds_toArray, List.set_cons_zero, List.set_cons_succ]
  refine RX.seqP_value (fun _ => Below.refl _ _) _ (by first | rfl | simp) (fun w' hw' hctx => by (go_simp); (try first | with_reducible rfl | simp)) ?_
  simp only [Act.put, List.setIfInBounds_toArray, List.set_cons_zero, List.set_cons_succ]
  refine RX.seqP_call (14) #[.agg #[.int .u8 4, .int .i64 0, .int .i64 1, .string ⟨#[120]⟩]] (.bool false) (by first | rfl | simp) (fun w' hw' hctx => ?_) (fun w' hw' hctx => HMY.out w') ?_
  · go_simp
  simp only [Act.put, List.setIfInBounds_toArray, List.set_cons_zero, List.set_cons_succ]
  refine RX.seqP_value (fun _ => Below.refl _ _) _ (by first | rfl | simp) (fun w' hw' hctx => by (go_simp); (try first | with_reducible rfl | simp)) ?_
  simp only [Act.put, List.setIfInBounds_toArray, List.set_cons_zero, List.set_cons_succ]
  refine RX.seqP_value (fun _ => Below.refl _ _) _ (by first | rfl | simp) (fun w' hw' hctx => by (go_simp); (try first | with_reducible rfl | simp)) ?_
  simp only [Act.put, List.setIfInBounds_toArray, List.set_cons_zero, List.set_cons_succ]
  refine RX.seqP_value (fun _ => Below.refl _ _) _ (by first | rfl | simp) (fun w' hw' hctx => by (go_simp); (try first | with_reducible rfl | simp)) ?_
  simp only [Act.put, List.setIfInBounds_toArray, List.set_cons_zero, List.set_cons_succ]
  refine RX.seqP_value (fun _ => Below.refl _ _) _ (by first | rfl | simp) (fun w' hw' hctx => by (go_simp); (try first | with_reducible rfl | simp)) ?_
  simp only [Act.put, List.setIfInBounds_toArray, List.set_cons_zero, List.set_cons_succ]
  refine RX.seqP_value (fun _ => Below.refl _ _) _ (by first | rfl | simp) (fun w' hw' hctx => ?_) ?_
  · obtain ⟨c0, c1, c2, c3, c4⟩ := JA8.out.below (below_tr hdr hw')
    go_simp
    try first | with_reducible rfl | simp
  simp only [Act.put, List.setIfInBounds_toArray, List.set_cons_zero, List.set_cons_succ]
  refine RX.seqP_call (18) #[.agg #[.int .u8 0, .int .i64 0, .int .i64 0, .string ⟨#[]⟩], .agg #[.int .u8 4, .int .i64 (-9223372036854775808), .int .i64 9223372036854775807, .string ⟨#[]⟩]] (.bool false) (by first | rfl | simp) (fun w' hw' hctx => ?_) (fun w' hw' hctx => HMT.out w') ?_
  · go_simp
  simp only [Act.put, List.setIfInBounds_toArray, List.set_cons_zero, List.set_cons_succ]
  refine RX.seqP_value (fun _ => Below.refl _ _) _ (by first | rfl | simp) (fun w' hw' hctx => by (go_simp); (try first | with_reducible rfl | simp)) ?_
  simp only [Act.put, List.setIfInBounds_toArray, List.set_cons_zero, List.set_cons_succ]
  refine RX.seqP_value (fun _ => Below.refl _ _) _ (by first | rfl | simp) (fun w' hw' hctx => by (go_simp); (try first | with_reducible rfl | simp)) ?_
  simp only [Act.put, List.setIfInBounds_toArray, List.set_cons_zero, List.set_cons_succ]
  refine RX.seqP_value (fun _ => Below.refl _ _) _ (by first | rfl | simp) (fun w' hw' hctx => by (go_simp); (try first | with_reducible rfl | simp)) ?_
  simp only [Act.put, List.setIfInBounds_toArray, List.set_cons_zero, List.set_cons_succ]
  refine RX.seqP_call (9) #[] (.bool true) (by first | rfl | simp) (fun w' hw' hctx => ?_) (fun w' hw' hctx => awake_is w') ?_
  · go_simp
  simp only [Act.put, List.setIfInBounds_toArray, List.set_cons_zero, List.set_cons_succ]
  refine RX.seqP_value (fun _ => Below.refl _ _) _ (by first | rfl | simp) (fun w' hw' hctx => by (go_simp); (try first | with_reducible rfl | simp)) ?_
  simp only [Act.put, List.setIfInBounds_toArray, List.set_cons_zero, List.set_cons_succ]
  refine RX.seqP_value (fun _ => Below.refl _ _) _ (by first | rfl | simp) (fun w' hw' hctx => by (go_simp); (try first | with_reducible rfl | simp)) ?_
  simp only [Act.put, List.setIfInBounds_toArray, List.set_cons_zero]
  refine RX.seqP_nil (fun v1 hR hctx _ => ?_)
  have hv1 := below_tr hdr hR
  clear hctx hR
  go_wp2_with fail
  go_ret
  exact ⟨rfl, below_tr HB8.out hv1⟩
end Go.Proofs.Ytnifpphimodonaa
