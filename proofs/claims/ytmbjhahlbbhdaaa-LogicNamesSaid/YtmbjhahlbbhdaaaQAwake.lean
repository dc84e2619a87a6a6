/-
  The examples are as they are told: the laws' helper awake answers true.
-/
import Derived.Test.YtmbjhahlbbhdaaaQCmp
namespace Go.Proofs.Ytmbjhahlbbhdaaa
open Go.RowKit

set_option maxRecDepth 100000 in
set_option maxHeartbeats 4000000 in
theorem awake_is (w : World) :
    Calls Try.prog 9 #[] w fun e w' => e = .returned (.bool true) ∧ Below w.heap.size w w' := by
  have hw0 := Below.refl w.heap.size w
  have e1 : ofN false = 0 := rfl
  have e2 : ofN true = 1 := rfl
  go_enter Try.func9, Try.ntmps9
  go_wp2_with fail
  refine (of_is false _).mono ?_
  rintro e v1 ⟨rfl, hv1⟩
  have hw1 := below_tr hw0 hv1
  clear hv1
  go_wp2_with fail
  refine (of_is true _).mono ?_
  rintro e v2 ⟨rfl, hv2⟩
  have hw2 := below_tr hw1 hv2
  clear hv2
  go_wp2_with fail
  have hn2 := Below.allocs v2 (.cells #[.int .u8 2, .int .i64 0, .int .i64 0, .string ⟨#[]⟩] 23)
  have Nn := Boxed.new v2 2 0 0 ⟨#[]⟩ 23
  have hw3 := below_tr hw2 hn2
  have N3 := Nn
  clear Nn hn2
  have hn3 := Below.allocs (v2.alloc (.cells #[.int .u8 2, .int .i64 0, .int .i64 0, .string ⟨#[]⟩] 23)) (.cells #[.int .u8 2, .int .i64 1, .int .i64 0, .string ⟨#[]⟩] 23)
  have Yn := Boxed.new (v2.alloc (.cells #[.int .u8 2, .int .i64 0, .int .i64 0, .string ⟨#[]⟩] 23)) 2 1 0 ⟨#[]⟩ 23
  rw [show (v2.alloc (.cells #[.int .u8 2, .int .i64 0, .int .i64 0, .string ⟨#[]⟩] 23)).heap.size = v2.heap.size + 1 by simp] at Yn
  have N4 := N3.below hn3
  have hw4 := below_tr hw3 hn3
  clear N3
  have Y4 := Yn
  clear Yn hn3
  have hn4 := Below.allocs ((v2.alloc (.cells #[.int .u8 2, .int .i64 0, .int .i64 0, .string ⟨#[]⟩] 23)).alloc (.cells #[.int .u8 2, .int .i64 1, .int .i64 0, .string ⟨#[]⟩] 23)) (.cells #[.int .u8 0, .int .i64 0, .int .i64 0, .string ⟨#[]⟩] 23)
  have Zn := Boxed.new ((v2.alloc (.cells #[.int .u8 2, .int .i64 0, .int .i64 0, .string ⟨#[]⟩] 23)).alloc (.cells #[.int .u8 2, .int .i64 1, .int .i64 0, .string ⟨#[]⟩] 23)) 0 0 0 ⟨#[]⟩ 23
  rw [show ((v2.alloc (.cells #[.int .u8 2, .int .i64 0, .int .i64 0, .string ⟨#[]⟩] 23)).alloc (.cells #[.int .u8 2, .int .i64 1, .int .i64 0, .string ⟨#[]⟩] 23)).heap.size = v2.heap.size + 2 by simp] at Zn
  have N5 := N4.below hn4
  have Y5 := Y4.below hn4
  have hw5 := below_tr hw4 hn4
  clear N4 Y4
  have Z5 := Zn
  clear Zn hn4
  refine (and_is 2 0 0 ⟨#[]⟩ 0 0 0 ⟨#[]⟩ ⟨2, 0, 0⟩ (by kernel_rfl) _).mono ?_
  rintro e v3 ⟨rfl, hv3⟩
  have N6 := N5.below hv3
  have Y6 := Y5.below hv3
  have Z6 := Z5.below hv3
  have hw6 := below_tr hw5 hv3
  clear N5 Y5 Z5
  clear hv3
  have n' := N6
  obtain ⟨n0, n1, n2, n3, n4⟩ := n'
  have y' := Y6
  obtain ⟨y0, y1, y2, y3, y4⟩ := y'
  have z' := Z6
  obtain ⟨z0, z1, z2, z3, z4⟩ := z'
  go_wp2_with fail
  clear n0 n1 n2 n3 n4 y0 y1 y2 y3 y4 z0 z1 z2 z3 z4
  have hn6 := Below.allocs v3 (.cells #[.int .u8 2, .int .i64 0, .int .i64 0, .string ⟨#[]⟩] 23)
  have An := Boxed.new v3 2 0 0 ⟨#[]⟩ 23
  have N7 := N6.below hn6
  have Y7 := Y6.below hn6
  have Z7 := Z6.below hn6
  have hw7 := below_tr hw6 hn6
  clear N6 Y6 Z6
  have A7 := An
  clear An hn6
  refine (or_is 0 0 0 ⟨#[]⟩ 2 0 0 ⟨#[]⟩ ⟨0, 0, 0⟩ (by kernel_rfl) _).mono ?_
  rintro e v4 ⟨rfl, hv4⟩
  have N8 := N7.below hv4
  have Y8 := Y7.below hv4
  have Z8 := Z7.below hv4
  have A8 := A7.below hv4
  have hw8 := below_tr hw7 hv4
  clear N7 Y7 Z7 A7
  clear hv4
  have n' := N8
  obtain ⟨n0, n1, n2, n3, n4⟩ := n'
  have y' := Y8
  obtain ⟨y0, y1, y2, y3, y4⟩ := y'
  have z' := Z8
  obtain ⟨z0, z1, z2, z3, z4⟩ := z'
  go_wp2_with fail
  clear n0 n1 n2 n3 n4 y0 y1 y2 y3 y4 z0 z1 z2 z3 z4
  have hn8 := Below.allocs v4 (.cells #[.int .u8 0, .int .i64 0, .int .i64 0, .string ⟨#[]⟩] 23)
  have Bn := Boxed.new v4 0 0 0 ⟨#[]⟩ 23
  have N9 := N8.below hn8
  have Y9 := Y8.below hn8
  have Z9 := Z8.below hn8
  have A9 := A8.below hn8
  have hw9 := below_tr hw8 hn8
  clear N8 Y8 Z8 A8
  have B9 := Bn
  clear Bn hn8
  refine (int_is 9223372036854775807 _).mono ?_
  rintro e v5 ⟨rfl, hv5⟩
  have N10 := N9.below hv5
  have Y10 := Y9.below hv5
  have Z10 := Z9.below hv5
  have A10 := A9.below hv5
  have B10 := B9.below hv5
  have hw10 := below_tr hw9 hv5
  clear N9 Y9 Z9 A9 B9
  clear hv5
  have n' := N10
  obtain ⟨n0, n1, n2, n3, n4⟩ := n'
  have y' := Y10
  obtain ⟨y0, y1, y2, y3, y4⟩ := y'
  have z' := Z10
  obtain ⟨z0, z1, z2, z3, z4⟩ := z'
  go_wp2_with fail
  clear n0 n1 n2 n3 n4 y0 y1 y2 y3 y4 z0 z1 z2 z3 z4
  refine (int_is 1 _).mono ?_
  rintro e v6 ⟨rfl, hv6⟩
  have N11 := N10.below hv6
  have Y11 := Y10.below hv6
  have Z11 := Z10.below hv6
  have A11 := A10.below hv6
  have B11 := B10.below hv6
  have hw11 := below_tr hw10 hv6
  clear N10 Y10 Z10 A10 B10
  clear hv6
  have n' := N11
  obtain ⟨n0, n1, n2, n3, n4⟩ := n'
  have y' := Y11
  obtain ⟨y0, y1, y2, y3, y4⟩ := y'
  have z' := Z11
  obtain ⟨z0, z1, z2, z3, z4⟩ := z'
  go_wp2_with fail
  clear n0 n1 n2 n3 n4 y0 y1 y2 y3 y4 z0 z1 z2 z3 z4
  refine (add_is 1 9223372036854775807 0 ⟨#[]⟩ 1 1 0 ⟨#[]⟩ ⟨0, 0, 61⟩ (by kernel_rfl) (by unfold I64; omega) (by unfold I64; omega) _).mono ?_
  rintro e v7 ⟨rfl, hv7⟩
  have N12 := N11.below hv7
  have Y12 := Y11.below hv7
  have Z12 := Z11.below hv7
  have A12 := A11.below hv7
  have B12 := B11.below hv7
  have hw12 := below_tr hw11 hv7
  clear N11 Y11 Z11 A11 B11
  clear hv7
  have n' := N12
  obtain ⟨n0, n1, n2, n3, n4⟩ := n'
  have y' := Y12
  obtain ⟨y0, y1, y2, y3, y4⟩ := y'
  have z' := Z12
  obtain ⟨z0, z1, z2, z3, z4⟩ := z'
  go_wp2_with fail
  clear n0 n1 n2 n3 n4 y0 y1 y2 y3 y4 z0 z1 z2 z3 z4
  have hn12 := Below.allocs v7 (.cells #[.int .u8 0, .int .i64 0, .int .i64 0, .string ⟨#[]⟩] 23)
  have Cn := Boxed.new v7 0 0 0 ⟨#[]⟩ 23
  have N13 := N12.below hn12
  have Y13 := Y12.below hn12
  have Z13 := Z12.below hn12
  have A13 := A12.below hn12
  have B13 := B12.below hn12
  have hw13 := below_tr hw12 hn12
  clear N12 Y12 Z12 A12 B12
  have C13 := Cn
  clear Cn hn12
  have hd := below_drew (v7.alloc (.cells #[.int .u8 0, .int .i64 0, .int .i64 0, .string ⟨#[]⟩] 23))
  refine wp_region_plan (KeepR ((v7.alloc (.cells #[.int .u8 0, .int .i64 0, .int .i64 0, .string ⟨#[]⟩] 23))).heap.size 0 0 0 ⟨#[]⟩) [.it (.agg #[.int .u8 0, .int .i64 0, .int .i64 0, .string ⟨#[]⟩]), .it (.agg #[.int .u8 1, .int .i64 5, .int .i64 0, .string ⟨#[]⟩]), .it (.tuple #[.agg #[.int .u8 0, .int .i64 0, .int .i64 0, .string ⟨#[]⟩], .int .i64 0]), .it (.tuple #[.agg #[.int .u8 0, .int .i64 0, .int .i64 0, .string ⟨#[]⟩], .int .i64 0]), .it (.agg #[.int .u8 0, .int .i64 0, .int .i64 0, .string ⟨#[]⟩]), .it (.int .i64 0), .of (fun w v => ∃ h, v = .pointer (some ⟨h, 0, none⟩) ∧ ((v7.alloc (.cells #[.int .u8 0, .int .i64 0, .int .i64 0, .string ⟨#[]⟩] 23))).heap.size ≤ h ∧ Soft w h ∧ Cells w h), .on 6 (fun p w _ => ∀ h, p = .pointer (some ⟨h, 0, none⟩) → Boxed w h 0 0 0 ⟨#[]⟩), .it (.int .i64 0)] (by kernel_rfl) (by kernel_rfl) (KeepR.refl _ _ _ _ _) KeepR.trans ?_
  refine seqP_value (KeepR.refl _ _ _ _ _) _ (by first | rfl | simp) (fun w' hw' hctx => ?_) ?_
  · obtain ⟨c0, c1, c2, c3, c4⟩ := Z13.below (below_tr hd hw'.below)
    go_simp
    try first | with_reducible rfl | simp
  simp only [Act.put, List.setIfInBounds_toArray, List.set_cons_zero, List.set_cons_succ]
  refine seqP_call 14 #[.int .i64 (5)] (.agg #[.int .u8 1, .int .i64 5, .int .i64 0, .string ⟨#[]⟩]) (by first | rfl | simp) (fun w' hw' hctx => ?_) (fun w' hw' hctx => (int_is 5 w').mono fun e w2 ⟨he, hb⟩ => ⟨he, KeepR.of_below hb hw'.below.size⟩) ?_
  · go_simp
  simp only [Act.put, List.setIfInBounds_toArray, List.set_cons_zero, List.set_cons_succ]
  refine seqP_call 30 #[.agg #[.int .u8 0, .int .i64 0, .int .i64 0, .string ⟨#[]⟩], .agg #[.int .u8 1, .int .i64 5, .int .i64 0, .string ⟨#[]⟩]] (.tuple #[.agg #[.int .u8 0, .int .i64 0, .int .i64 0, .string ⟨#[]⟩], .int .i64 0]) (by first | rfl | simp) (fun w' hw' hctx => ?_) (fun w' hw' hctx => (mul_is 0 0 0 ⟨#[]⟩ 1 5 0 ⟨#[]⟩ ⟨0, 0, 0⟩ (by kernel_rfl) (by unfold I64; omega) (by unfold I64; omega) w').mono fun e w2 ⟨he, hb⟩ => ⟨he, KeepR.of_below hb hw'.below.size⟩) ?_
  · go_simp
  simp only [Act.put, List.setIfInBounds_toArray, List.set_cons_zero, List.set_cons_succ]
  refine seqP_value (KeepR.refl _ _ _ _ _) _ (by first | rfl | simp) (fun w' hw' hctx => ?_) ?_
  · go_simp
    try first | with_reducible rfl | simp
  simp only [Act.put, List.setIfInBounds_toArray, List.set_cons_zero, List.set_cons_succ]
  refine seqP_value (KeepR.refl _ _ _ _ _) _ (by first | rfl | simp) (fun w' hw' hctx => ?_) ?_
  · go_simp
    try first | with_reducible rfl | simp
  simp only [Act.put, List.setIfInBounds_toArray, List.set_cons_zero, List.set_cons_succ]
  refine seqP_value (KeepR.refl _ _ _ _ _) _ (by first | rfl | simp) (fun w' hw' hctx => ?_) ?_
  · go_simp
    try first | with_reducible rfl | simp
  simp only [Act.put, List.setIfInBounds_toArray, List.set_cons_zero, List.set_cons_succ]
  refine seqP_make _ (fun w w' v hR hV => by obtain ⟨h, h1, h2, h3, h4⟩ := hV; exact ⟨h, h1, h2, hR.soft _ h3, hR.cells _ h4⟩) (by first | rfl | simp) (fun w' hw' hctx => ?_) (fun v => ?_)
  · exact ⟨_, _, by go_simp; first | with_reducible rfl | rfl, KeepR.of_below (Below.allocs _ _) hw'.below.size, ⟨_, rfl, hw'.below.size, Soft.new _ _ _ _ _ _, ⟨_, _, _, _, Boxed.new _ _ _ _ _ _⟩⟩⟩
  simp only [Act.put, List.setIfInBounds_toArray, List.set_cons_zero, List.set_cons_succ]
  refine seqP_write 6 _ (by decide) (fun w w' v hR hV h hh => hR.same _ (hV h hh)) (by first | rfl | simp) (fun w' hw' hctx => ?_) (fun v' => ?_)
  · obtain ⟨h, rfl, h2, h3, h4⟩ : ∃ h, v = .pointer (some ⟨h, 0, none⟩) ∧ ((v7.alloc (.cells #[.int .u8 0, .int .i64 0, .int .i64 0, .string ⟨#[]⟩] 23))).heap.size ≤ h ∧ Soft w' h ∧ Cells w' h := hctx.1
    have hk := KeepR.put (k := 0) (n := 0) (u := 0) (t := ⟨#[]⟩) h2 h4
    obtain ⟨x0, x1, x2, x3, hbx⟩ := h4
    have hbp := boxed_put4 hbx (0) (0) 0 ⟨#[]⟩
    obtain ⟨b0, b1, b2, b3, b4⟩ := hbx
    obtain ⟨s0, s1, s2, s3, s4⟩ := h3
    refine ⟨put4 w' h (0) (0) 0 ⟨#[]⟩, ?_, hk, fun h' hh' => ?_⟩
    · go_simp
      rfl
    · simp [upd] at hh'
      subst hh'
      exact hbp
  simp only [Act.put]
  refine seqP_value (KeepR.refl _ _ _ _ _) _ (by first | rfl | simp) (fun w' hw' hctx => ?_) ?_
  · go_simp
    try first | with_reducible rfl | simp
  simp only [Act.put, List.setIfInBounds_toArray, List.set_cons_zero, List.set_cons_succ]
  refine seqP_nil (fun v8 hR hctx => ?_)
  obtain ⟨g8, rfl, hg8, hs8, -⟩ : ∃ h, v = .pointer (some ⟨h, 0, none⟩) ∧ ((v7.alloc (.cells #[.int .u8 0, .int .i64 0, .int .i64 0, .string ⟨#[]⟩] 23))).heap.size ≤ h ∧ Soft v8 h ∧ Cells v8 h := hctx.2.1
  have Dn : Boxed v8 g8 (0) (0) 0 ⟨#[]⟩ := hctx.1 g8 (by simp [upd])
  have hv8 := below_tr hd hR.below
  clear hctx hR hd hs8
  have N14 := N13.below hv8
  have Y14 := Y13.below hv8
  have Z14 := Z13.below hv8
  have A14 := A13.below hv8
  have B14 := B13.below hv8
  have C14 := C13.below hv8
  have hw14 := below_tr hw13 hv8
  clear N13 Y13 Z13 A13 B13 C13
  have D14 := Dn
  clear Dn hv8
  go_wp2_with fail
  refine (int_is 1 _).mono ?_
  rintro e v9 ⟨rfl, hv9⟩
  have N15 := N14.below hv9
  have Y15 := Y14.below hv9
  have Z15 := Z14.below hv9
  have A15 := A14.below hv9
  have B15 := B14.below hv9
  have C15 := C14.below hv9
  have D15 := D14.below hv9
  have hw15 := below_tr hw14 hv9
  clear N14 Y14 Z14 A14 B14 C14 D14
  clear hv9
  go_wp2_with fail
  refine (equal_is 1 1 0 ⟨#[]⟩ 3 0 0 ⟨#[]⟩ ⟨0, 0, 60⟩ (by kernel_rfl) _).mono ?_
  rintro e v10 ⟨rfl, hv10⟩
  have N16 := N15.below hv10
  have Y16 := Y15.below hv10
  have Z16 := Z15.below hv10
  have A16 := A15.below hv10
  have B16 := B15.below hv10
  have C16 := C15.below hv10
  have D16 := D15.below hv10
  have hw16 := below_tr hw15 hv10
  clear N15 Y15 Z15 A15 B15 C15 D15
  clear hv10
  go_wp2_with fail
  have hn16 := Below.allocs v10 (.cells #[.int .u8 0, .int .i64 0, .int .i64 0, .string ⟨#[]⟩] 23)
  have En := Boxed.new v10 0 0 0 ⟨#[]⟩ 23
  have N17 := N16.below hn16
  have Y17 := Y16.below hn16
  have Z17 := Z16.below hn16
  have A17 := A16.below hn16
  have B17 := B16.below hn16
  have C17 := C16.below hn16
  have D17 := D16.below hn16
  have hw17 := below_tr hw16 hn16
  clear N16 Y16 Z16 A16 B16 C16 D16
  have E17 := En
  clear En hn16
  refine (less_is 4 1 3 ⟨#[]⟩ 4 1 4 ⟨#[]⟩ ⟨2, 1, 0⟩ (by kernel_rfl) _).mono ?_
  rintro e v11 ⟨rfl, hv11⟩
  have N18 := N17.below hv11
  have Y18 := Y17.below hv11
  have Z18 := Z17.below hv11
  have A18 := A17.below hv11
  have B18 := B17.below hv11
  have C18 := C17.below hv11
  have D18 := D17.below hv11
  have E18 := E17.below hv11
  have hw18 := below_tr hw17 hv11
  clear N17 Y17 Z17 A17 B17 C17 D17 E17
  clear hv11
  have n' := N18
  obtain ⟨n0, n1, n2, n3, n4⟩ := n'
  have y' := Y18
  obtain ⟨y0, y1, y2, y3, y4⟩ := y'
  have z' := Z18
  obtain ⟨z0, z1, z2, z3, z4⟩ := z'
  have a' := A18
  obtain ⟨a0, a1, a2, a3, a4⟩ := a'
  have b' := B18
  obtain ⟨b0, b1, b2, b3, b4⟩ := b'
  have d' := D18
  obtain ⟨d0, d1, d2, d3, d4⟩ := d'
  go_wp2_with fail
  clear n0 n1 n2 n3 n4 y0 y1 y2 y3 y4 z0 z1 z2 z3 z4 a0 a1 a2 a3 a4 b0 b1 b2 b3 b4 d0 d1 d2 d3 d4
  have hn18 := Below.allocs v11 (.cells #[.int .u8 2, .int .i64 1, .int .i64 0, .string ⟨#[]⟩] 23)
  have Fn := Boxed.new v11 2 1 0 ⟨#[]⟩ 23
  have N19 := N18.below hn18
  have Y19 := Y18.below hn18
  have Z19 := Z18.below hn18
  have A19 := A18.below hn18
  have B19 := B18.below hn18
  have C19 := C18.below hn18
  have D19 := D18.below hn18
  have E19 := E18.below hn18
  have hw19 := below_tr hw18 hn18
  clear N18 Y18 Z18 A18 B18 C18 D18 E18
  have F19 := Fn
  clear Fn hn18
  refine (yes_is 2 1 0 ⟨#[]⟩ true (by decide) _).mono ?_
  rintro e v12 ⟨rfl, hv12⟩
  have N20 := N19.below hv12
  have Y20 := Y19.below hv12
  have Z20 := Z19.below hv12
  have A20 := A19.below hv12
  have B20 := B19.below hv12
  have C20 := C19.below hv12
  have D20 := D19.below hv12
  have E20 := E19.below hv12
  have F20 := F19.below hv12
  have hw20 := below_tr hw19 hv12
  clear N19 Y19 Z19 A19 B19 C19 D19 E19 F19
  clear hv12
  have n' := N20
  obtain ⟨n0, n1, n2, n3, n4⟩ := n'
  have y' := Y20
  obtain ⟨y0, y1, y2, y3, y4⟩ := y'
  go_wp2_with fail
  clear n0 n1 n2 n3 n4 y0 y1 y2 y3 y4
  refine (yes_is 2 0 0 ⟨#[]⟩ false (by decide) _).mono ?_
  rintro e v13 ⟨rfl, hv13⟩
  have N21 := N20.below hv13
  have Y21 := Y20.below hv13
  have Z21 := Z20.below hv13
  have A21 := A20.below hv13
  have B21 := B20.below hv13
  have C21 := C20.below hv13
  have D21 := D20.below hv13
  have E21 := E20.below hv13
  have F21 := F20.below hv13
  have hw21 := below_tr hw20 hv13
  clear N20 Y20 Z20 A20 B20 C20 D20 E20 F20
  clear hv13
  have n' := N21
  obtain ⟨n0, n1, n2, n3, n4⟩ := n'
  have y' := Y21
  obtain ⟨y0, y1, y2, y3, y4⟩ := y'
  go_wp2_with fail
  go_ret
  exact ⟨rfl, hw21⟩

end Go.Proofs.Ytmbjhahlbbhdaaa
