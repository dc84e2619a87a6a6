/-
  SpanFirst, walked.
-/
import Derived.Test.YtnifpphimodonaaSAwake
namespace Go.Proofs.Ytnifpphimodonaa
open Go.RowKit

set_option maxRecDepth 100000 in
set_option maxHeartbeats 4000000 in
theorem firstl_a (a : Option Addr) (n c : Nat) (h : 100 < n) (w : World) :
    Calls Try.prog 8 #[.slice a n c] w fun e w' => e = .returned (.bool true) ∧ Below w.heap.size w w' := by
  have h' : (100 : Int) < (n : Int) := by omega
  clear h
  go_enter Try.func8, Try.ntmps8
  go_wp2_with fail
  refine (awake_is _).mono ?_
  rintro e w1 ⟨rfl, hb1⟩
  go_wp2_with fail
  go_ret
  exact ⟨rfl, hb1⟩

set_option maxRecDepth 100000 in
set_option maxHeartbeats 4000000 in
theorem firstl_0 (a : Option Addr) (c : Nat) (hl : ∀ w : World, SlV w a 0 c (fun _ => Val.zero)) (w : World) :
    Calls Try.prog 8 #[.slice a 0 c] w fun e w' => e = .returned (.bool true) ∧ Below w.heap.size w w' := by
  have hF : FirstS (fun _ => Val.zero) 0 0 0 false := .inr ⟨rfl, rfl, rfl, fun a b h1 h2 => by omega⟩
  have hf := fun w => sfirst_is a 0 c _ 0 0 false w (hl w) hF
  clear hF hl
  go_enter Try.func8, Try.ntmps8
  go_wp2_with fail
  refine (awake_is _).mono ?_
  rintro e w1 ⟨rfl, hb1⟩
  have HB1 := Lib.hid hb1
  go_wp2_with fail
  refine (hf _).mono ?_
  rintro e w2 ⟨rfl, hb2⟩
  have HB := Lib.hid (below_tr HB1.out hb2)
  clear hb1 hb2 hf
  go_wp2_with fail
  refine wp_loop_rounds 1 ?_
  rw [rounds_succ]
  go_wp2_with fail
  go_ret
  exact ⟨rfl, HB.out⟩

set_option maxRecDepth 100000 in
set_option maxHeartbeats 4000000 in
theorem firstl_f (w : World) (b o n c : Nat) (D : Nat → Val) (hl : SlV w (some ⟨b, o, none⟩) n c D) (hat : ∀ i, i < n → AtV w b (o + i * 4) (D i)) (hn : n ≤ 100) (i k : Nat) (hF : FirstS D n i k false) :
    Calls Try.prog 8 #[.slice (some ⟨b, o, none⟩) n c] w fun e w' => e = .returned (.bool true) ∧ Below w.heap.size w w' := by
  obtain ⟨rfl, rfl, -⟩ := hF.nosearch
  have HNO : Hid (∀ a b, b < a → a < n → meetS (D b) (D a) = false) := Lib.hid (by
    rcases hF with ⟨h, _⟩ | ⟨_, _, _, h⟩
    · cases h
    · exact h)
  have hf := fun w' (hb : Below w.heap.size w w') => sfirst_is _ n c D 0 0 false w' (hl.below hb) hF
  have HAT := Lib.hid hat
  have HFF := Lib.hid hF
  have HFC := Lib.hid hf
  clear hl hat hF hf
  have h' : ¬ (100 : Int) < (n : Int) := by omega
  go_enter Try.func8, Try.ntmps8
  go_wp2_with fail
  refine (awake_is _).mono ?_
  rintro e w1 ⟨rfl, hb1⟩
  have HB1 := Lib.hid hb1
  clear hb1
  go_wp2_with fail
  refine (HFC.out _ HB1.out).mono ?_
  rintro e w2 ⟨rfl, hb2⟩
  have HB := Lib.hid (below_tr HB1.out hb2)
  clear hb2 HFC HB1
  go_wp2_with fail
  go_loopg [8, 9] (n) (fun gg s8 _ wr => ∃ p : Nat, s8 = .int .i64 p ∧ p ≤ n ∧ n - p ≤ gg ∧ Hid (Below w.heap.size w wr))
  case atStart => exact ⟨0, rfl, Nat.zero_le _, by omega, HB⟩
  case round =>
    obtain ⟨p, rfl, hpE, hgg, BW⟩ := hrel
    clear HB
    by_cases hlt : p < n
    · have hltz : (p : Int) < (n : Int) := by omega
      go_wp2_with fail
      go_loopg [9] p (fun gh s9 wr' => ∃ q : Nat, s9 = .int .i64 q ∧ q ≤ p ∧ p - q ≤ gh ∧ Hid (Below w.heap.size w wr'))
      case atStart => exact ⟨0, rfl, Nat.zero_le _, by omega, BW⟩
      case round =>
        obtain ⟨q, rfl, hqp, hgh, BW2⟩ := hrel
        by_cases hq : q < p
        · have hqz : (q : Int) < (p : Int) := by omega
          have z1 : ¬ n ≤ p := by omega
          have z2 : ¬ n ≤ q := by omega
          have hp0 := HAT.out p (by omega)
          have hq0 := HAT.out q (by omega)
          have hno := HNO.out p q hq hlt
          obtain ⟨x, hx⟩ : ∃ x, D p = x := ⟨_, rfl⟩
          obtain ⟨y, hy⟩ : ∃ y, D q = y := ⟨_, rfl⟩
          rw [hx] at hp0 hno
          rw [hy] at hq0 hno
          have HX := Lib.hid (hp0.below BW2.out)
          have HY := Lib.hid (hq0.below BW2.out)
          have HM := Lib.hid hno
          clear hp0 hq0 hno hx hy
          go_wp2_with fail
          have hdr := below_drw wr
          try simp only [List.append_eq, List.cons_append, List.nil_append]
          refine RX.wp_region_plan (fun w w' => Below w.heap.size w w') [.it (.slice (some ⟨b, o, none⟩) n c), .it (.int .i64 (p : Int)), .it (.pointer (some ⟨b, o + p * 4, none⟩)), .it (.agg #[.int .u8 x.k, .int .i64 x.n, .int .i64 x.u, .string x.t]), .it (.slice (some ⟨b, o, none⟩) n c), .it (.int .i64 (q : Int)), .it (.pointer (some ⟨b, o + q * 4, none⟩)), .it (.agg #[.int .u8 y.k, .int .i64 y.n, .int .i64 y.u, .string y.t]), .it (.bool false)] (by kernel_rfl) (by kernel_rfl) (fun _ => Below.refl _ _) (fun _ _ _ => below_tr) ?_
          refine RX.seqP_value (fun _ => Below.refl _ _) _ (by first | rfl | simp) (fun w' hw' hctx => by (go_simp); (try first | with_reducible rfl | simp)) ?_
          simp only [Act.put, List.setIfInBounds_toArray, List.set_cons_zero, List.set_cons_succ]
          refine RX.seqP_value (fun _ => Below.refl _ _) _ (by first | rfl | simp) (fun w' hw' hctx => by (go_simp); (try first | with_reducible rfl | simp)) ?_
          simp only [Act.put, List.setIfInBounds_toArray, List.set_cons_zero, List.set_cons_succ]
          refine RX.seqP_value (fun _ => Below.refl _ _) _ (by first | rfl | simp) (fun w' hw' hctx => by (go_simp); (try first | with_reducible rfl | simp)) ?_
          simp only [Act.put, List.setIfInBounds_toArray, List.set_cons_zero, List.set_cons_succ]
          refine RX.seqP_value (fun _ => Below.refl _ _) _ (by first | rfl | simp) (fun w' hw' hctx => ?_) ?_
          · obtain ⟨c0, c1, c2, c3, c4⟩ := HX.out.below (below_tr hdr hw')
            go_simp
            try first | with_reducible rfl | simp
          simp only [Act.put, List.setIfInBounds_toArray, List.set_cons_zero, List.set_cons_succ]
          refine RX.seqP_value (fun _ => Below.refl _ _) _ (by first | rfl | simp) (fun w' hw' hctx => by (go_simp); (try first | with_reducible rfl | simp)) ?_
          simp only [Act.put, List.setIfInBounds_toArray, List.set_cons_zero, List.set_cons_succ]
          refine RX.seqP_value (fun _ => Below.refl _ _) _ (by first | rfl | simp) (fun w' hw' hctx => by (go_simp); (try first | with_reducible rfl | simp)) ?_
          simp only [Act.put, List.setIfInBounds_toArray, List.set_cons_zero, List.set_cons_succ]
          refine RX.seqP_value (fun _ => Below.refl _ _) _ (by first | rfl | simp) (fun w' hw' hctx => by (go_simp); (try first | with_reducible rfl | simp)) ?_
          simp only [Act.put, List.setIfInBounds_toArray, List.set_cons_zero, List.set_cons_succ]
          refine RX.seqP_value (fun _ => Below.refl _ _) _ (by first | rfl | simp) (fun w' hw' hctx => ?_) ?_
          · obtain ⟨c0, c1, c2, c3, c4⟩ := HY.out.below (below_tr hdr hw')
            go_simp
            try first | with_reducible rfl | simp
          simp only [Act.put, List.setIfInBounds_toArray, List.set_cons_zero, List.set_cons_succ]
          refine RX.seqP_call (18) #[.agg #[.int .u8 x.k, .int .i64 x.n, .int .i64 x.u, .string x.t], .agg #[.int .u8 y.k, .int .i64 y.n, .int .i64 y.u, .string y.t]] (.bool false) (by first | rfl | simp) (fun w' hw' hctx => ?_) (fun w' hw' hctx => meets_is x y false (by rw [meetS_comm]; exact HM.out) w') ?_
          · go_simp
          simp only [Act.put, List.setIfInBounds_toArray, List.set_cons_zero, List.set_cons_succ]
          refine RX.seqP_nil (fun v1 hR hctx _ => ?_)
          have hv1 := below_tr hdr hR
          clear hctx hR
          go_wp2_with fail
          go_roundg (p - (q + 1))
          case measure => omega
          case rel => exact ⟨q + 1, by go_num, by omega, Nat.le_refl _, Lib.hid (BW2.out.trans (hv1.mono BW2.out.size))⟩
        · have hqz : ¬ (q : Int) < (p : Int) := by omega
          go_wp2_with fail
          go_roundg (n - (p + 1))
          case measure => omega
          case rel => exact ⟨p + 1, by go_num, by omega, Nat.le_refl _, BW2⟩
    · have hltz : ¬ (p : Int) < (n : Int) := by omega
      go_wp2_with fail
      go_ret
      exact ⟨rfl, BW.out⟩

set_option maxRecDepth 100000 in
set_option maxHeartbeats 4000000 in
theorem firstl_t (w : World) (b o n c : Nat) (D : Nat → Val) (hl : SlV w (some ⟨b, o, none⟩) n c D) (hat : ∀ i, i < n → AtV w b (o + i * 4) (D i)) (hn : n ≤ 100) (i k : Nat) (hF : FirstS D n i k true) :
    Calls Try.prog 8 #[.slice (some ⟨b, o, none⟩) n c] w fun e w' => e = .returned (.bool true) ∧ Below w.heap.size w w' := by
  obtain ⟨hkn, hik, -⟩ := hF.search
  obtain ⟨hM, hBf, hN0⟩ : meetS (D i) (D k) = true ∧ (∀ a, a < i → meetS (D a) (D k) = false) ∧ ∀ a b, b < a → a < k → meetS (D b) (D a) = false := by
    rcases hF with ⟨_, _, _, h1, h2, h3⟩ | ⟨h, _⟩
    · exact ⟨h1, h2, h3⟩
    · cases h
  have HNO := Lib.hid hN0
  have HBF := Lib.hid hBf
  have HMM := Lib.hid hM
  clear hM hBf hN0
  have hf := fun w' (hb : Below w.heap.size w w') => sfirst_is _ n c D i k true w' (hl.below hb) hF
  have HAT := Lib.hid hat
  have HFF := Lib.hid hF
  have HFC := Lib.hid hf
  clear hl hat hF hf
  have h' : ¬ (100 : Int) < (n : Int) := by omega
  go_enter Try.func8, Try.ntmps8
  go_wp2_with fail
  refine (awake_is _).mono ?_
  rintro e w1 ⟨rfl, hb1⟩
  have HB1 := Lib.hid hb1
  clear hb1
  go_wp2_with fail
  refine (HFC.out _ HB1.out).mono ?_
  rintro e w2 ⟨rfl, hb2⟩
  have HB := Lib.hid (below_tr HB1.out hb2)
  clear hb2 HFC HB1
  have z1 : ¬ n ≤ i := by omega
  have z2 : ¬ n ≤ k := by omega
  have z3 : ¬ k ≤ i := by omega
  have z4 : (i : Int) < (k : Int) := by omega
  have z5 : (k : Int) < (n : Int) := by omega
  obtain ⟨x, hx⟩ : ∃ x, D i = x := ⟨_, rfl⟩
  obtain ⟨y, hy⟩ : ∃ y, D k = y := ⟨_, rfl⟩
  have hp0 := HAT.out i (by omega)
  have hq0 := HAT.out k (by omega)
  rw [hx] at hp0 HMM
  rw [hy] at hq0 HMM
  have HX := Lib.hid (hp0.below HB.out)
  have HYW := Lib.hid hq0
  have HY := Lib.hid (hq0.below HB.out)
  have HDK := Lib.hid hy
  clear hp0 hq0 hx hy
  go_wp2_with fail
  have hdr := below_drw w2
  try simp only [List.append_eq, List.cons_append, List.nil_append]
  refine RX.wp_region_plan (fun w w' => Below w.heap.size w w') [.it (.int .i64 (i : Int)), .it (.bool false), .it (.bool false), .it (.int .i64 (i : Int)), .it (.int .i64 (k : Int)), .it (.bool false), .it (.bool false), .it (.bool false), .it (.int .i64 (k : Int)), .it (.slice (some ⟨b, o, none⟩) n c), .it (.int .i64 (n : Int)), .it (.bool false), .it (.bool false), .it (.bool false), .it (.slice (some ⟨b, o, none⟩) n c), .it (.int .i64 (i : Int)), .it (.pointer (some ⟨b, o + i * 4, none⟩)), .it (.agg #[.int .u8 x.k, .int .i64 x.n, .int .i64 x.u, .string x.t]), .it (.slice (some ⟨b, o, none⟩) n c), .it (.int .i64 (k : Int)), .it (.pointer (some ⟨b, o + k * 4, none⟩)), .it (.agg #[.int .u8 y.k, .int .i64 y.n, .int .i64 y.u, .string y.t]), .it (.bool true), .it (.bool false), .it (.bool false)] (by kernel_rfl) (by kernel_rfl) (fun _ => Below.refl _ _) (fun _ _ _ => below_tr) ?_
  refine RX.seqP_value (fun _ => Below.refl _ _) _ (by first | rfl | simp) (fun w' hw' hctx => by (go_simp); (try first | with_reducible rfl | simp)) ?_
  simp only [Act.put, List.setIfInBounds_toArray, List.set_cons_zero, List.set_cons_succ]
  refine RX.seqP_value (fun _ => Below.refl _ _) _ (by first | rfl | simp) (fun w' hw' hctx => by (go_simp); (try first | with_reducible rfl | simp)) ?_
  simp only [Act.put, List.setIfInBounds_toArray, List.set_cons_zero, List.set_cons_succ]
  refine RX.seqP_value (fun _ => Below.refl _ _) _ (by first | rfl | simp) (fun w' hw' hctx => by (go_simp); (try first | with_reducible rfl | simp)) ?_
  simp only [Act.put, List.setIfInBounds_toArray, List.set_cons_zero, List.set_cons_succ]
  refine RX.seqP_value (fun _ => Below.refl _ _) _ (by first | rfl | simp) (fun w' hw' hctx => by (go_simp); (try first | with_reducible rfl | simp)) ?_
  simp only [Act.put, List.setIfInBounds_toArray, List.set_cons_zero, List.set_cons_succ]
  refine RX.seqP_value (fun _ => Below.refl _ _) _ (by first | rfl | simp) (fun w' hw' hctx => by (go_simp); (try first | with_reducible rfl | simp)) ?_
  simp only [Act.put, List.setIfInBounds_toArray, List.set_cons_zero, List.set_cons_succ]
  refine RX.seqP_value (fun _ => Below.refl _ _) _ (by first | rfl | simp) (fun w' hw' hctx => by (go_simp); (try first | with_reducible rfl | simp)) ?_
  simp only [Act.put, List.setIfInBounds_toArray, List.set_cons_zero, List.set_cons_succ]
  refine RX.seqP_value (fun _ => Below.refl _ _) _ (by first | rfl | simp) (fun w' hw' hctx => by (go_simp); (try first | with_reducible rfl | simp)) ?_
  simp only [Act.put, List.setIfInBounds_toArray, List.set_cons_zero, List.set_cons_succ]
  refine RX.seqP_value (fun _ => Below.refl _ _) _ (by first | rfl | simp) (fun w' hw' hctx => by (go_simp); (try first | with_reducible rfl | simp)) ?_
  simp only [Act.put, List.setIfInBounds_toArray, List.set_cons_zero, List.set_cons_succ]
  refine RX.seqP_value (fun _ => Below.refl _ _) _ (by first | rfl | simp) (fun w' hw' hctx => by (go_simp); (try first | with_reducible rfl | simp)) ?_
  simp only [Act.put, List.setIfInBounds_toArray, List.set_cons_zero, List.set_cons_succ]
  refine RX.seqP_value (fun _ => Below.refl _ _) _ (by first | rfl | simp) (fun w' hw' hctx => by (go_simp); (try first | with_reducible rfl | simp)) ?_
  simp only [Act.put, List.setIfInBounds_toArray, List.set_cons_zero, List.set_cons_succ]
  refine RX.seqP_value (fun _ => Below.refl _ _) _ (by first | rfl | simp) (fun w' hw' hctx => by (go_simp); (try first | with_reducible rfl | simp)) ?_
  simp only [Act.put, List.setIfInBounds_toArray, List.set_cons_zero, List.set_cons_succ]
  refine RX.seqP_value (fun _ => Below.refl _ _) _ (by first | rfl | simp) (fun w' hw' hctx => by (go_simp); (try first | with_reducible rfl | simp)) ?_
  simp only [Act.put, List.setIfInBounds_toArray, List.set_cons_zero, List.set_cons_succ]
  refine RX.seqP_value (fun _ => Below.refl _ _) _ (by first | rfl | simp) (fun w' hw' hctx => by (go_simp); (try first | with_reducible rfl | simp)) ?_
  simp only [Act.put, List.setIfInBounds_toArray, List.set_cons_zero, List.set_cons_succ]
  refine RX.seqP_value (fun _ => Below.refl _ _) _ (by first | rfl | simp) (fun w' hw' hctx => by (go_simp); (try first | with_reducible rfl | simp)) ?_
  simp only [Act.put, List.setIfInBounds_toArray, List.set_cons_zero, List.set_cons_succ]
  refine RX.seqP_value (fun _ => Below.refl _ _) _ (by first | rfl | simp) (fun w' hw' hctx => by (go_simp); (try first | with_reducible rfl | simp)) ?_
  simp only [Act.put, List.setIfInBounds_toArray, List.set_cons_zero, List.set_cons_succ]
  refine RX.seqP_value (fun _ => Below.refl _ _) _ (by first | rfl | simp) (fun w' hw' hctx => by (go_simp); (try first | with_reducible rfl | simp)) ?_
  simp only [Act.put, List.setIfInBounds_toArray, List.set_cons_zero, List.set_cons_succ]
  refine RX.seqP_value (fun _ => Below.refl _ _) _ (by first | rfl | simp) (fun w' hw' hctx => by (go_simp); (try first | with_reducible rfl | simp)) ?_
  simp only [Act.put, List.setIfInBounds_toArray, List.set_cons_zero, List.set_cons_succ]
  refine RX.seqP_value (fun _ => Below.refl _ _) _ (by first | rfl | simp) (fun w' hw' hctx => ?_) ?_
  · obtain ⟨c0, c1, c2, c3, c4⟩ := HX.out.below (below_tr hdr hw')
    go_simp
    try first | with_reducible rfl | simp
  simp only [Act.put, List.setIfInBounds_toArray, List.set_cons_zero, List.set_cons_succ]
  refine RX.seqP_value (fun _ => Below.refl _ _) _ (by first | rfl | simp) (fun w' hw' hctx => by (go_simp); (try first | with_reducible rfl | simp)) ?_
  simp only [Act.put, List.setIfInBounds_toArray, List.set_cons_zero, List.set_cons_succ]
  refine RX.seqP_value (fun _ => Below.refl _ _) _ (by first | rfl | simp) (fun w' hw' hctx => by (go_simp); (try first | with_reducible rfl | simp)) ?_
  simp only [Act.put, List.setIfInBounds_toArray, List.set_cons_zero, List.set_cons_succ]
  refine RX.seqP_value (fun _ => Below.refl _ _) _ (by first | rfl | simp) (fun w' hw' hctx => by (go_simp); (try first | with_reducible rfl | simp)) ?_
  simp only [Act.put, List.setIfInBounds_toArray, List.set_cons_zero, List.set_cons_succ]
  refine RX.seqP_value (fun _ => Below.refl _ _) _ (by first | rfl | simp) (fun w' hw' hctx => ?_) ?_
  · obtain ⟨c0, c1, c2, c3, c4⟩ := HY.out.below (below_tr hdr hw')
    go_simp
    try first | with_reducible rfl | simp
  simp only [Act.put, List.setIfInBounds_toArray, List.set_cons_zero, List.set_cons_succ]
  refine RX.seqP_call (18) #[.agg #[.int .u8 x.k, .int .i64 x.n, .int .i64 x.u, .string x.t], .agg #[.int .u8 y.k, .int .i64 y.n, .int .i64 y.u, .string y.t]] (.bool true) (by first | rfl | simp) (fun w' hw' hctx => ?_) (fun w' hw' hctx => meets_is x y true HMM.out w') ?_
  · go_simp
  simp only [Act.put, List.setIfInBounds_toArray, List.set_cons_zero, List.set_cons_succ]
  refine RX.seqP_value (fun _ => Below.refl _ _) _ (by first | rfl | simp) (fun w' hw' hctx => by (go_simp); (try first | with_reducible rfl | simp)) ?_
  simp only [Act.put, List.setIfInBounds_toArray, List.set_cons_zero, List.set_cons_succ]
  refine RX.seqP_value (fun _ => Below.refl _ _) _ (by first | rfl | simp) (fun w' hw' hctx => by (go_simp); (try first | with_reducible rfl | simp)) ?_
  simp only [Act.put, List.setIfInBounds_toArray, List.set_cons_zero, List.set_cons_succ]
  refine RX.seqP_nil (fun v0 hR hctx _ => ?_)
  have hv0 := below_tr hdr hR
  clear hctx hR
  have HBV := Lib.hid (below_tr HB.out hv0)
  clear hv0 hdr HX HY HB HMM
  go_wp2_with fail
  go_loopg [7] i (fun gg s7 wr => ∃ p : Nat, s7 = .int .i64 p ∧ p ≤ i ∧ i - p ≤ gg ∧ Hid (Below w.heap.size w wr))
  case atStart => exact ⟨0, rfl, Nat.zero_le _, by omega, HBV⟩
  case round =>
    obtain ⟨p, rfl, hpi, hgg, BW⟩ := hrel
    clear HBV
    by_cases hlt : p < i
    · have hltz : (p : Int) < (i : Int) := by omega
      have z6 : ¬ n ≤ p := by omega
      have hp0 := HAT.out p (by omega)
      have hno := HBF.out p hlt
      rw [HDK.out] at hno
      obtain ⟨x2, hx⟩ : ∃ x, D p = x := ⟨_, rfl⟩
      rw [hx] at hp0 hno
      have HX := Lib.hid (hp0.below BW.out)
      have HY := Lib.hid (HYW.out.below BW.out)
      have HM := Lib.hid hno
      clear hp0 hno hx
      go_wp2_with fail
      have hdr := below_drw wr
      try simp only [List.append_eq, List.cons_append, List.nil_append]
      refine RX.wp_region_plan (fun w w' => Below w.heap.size w w') [.it (.slice (some ⟨b, o, none⟩) n c), .it (.int .i64 (p : Int)), .it (.pointer (some ⟨b, o + p * 4, none⟩)), .it (.agg #[.int .u8 x2.k, .int .i64 x2.n, .int .i64 x2.u, .string x2.t]), .it (.slice (some ⟨b, o, none⟩) n c), .it (.int .i64 (k : Int)), .it (.pointer (some ⟨b, o + k * 4, none⟩)), .it (.agg #[.int .u8 y.k, .int .i64 y.n, .int .i64 y.u, .string y.t]), .it (.bool false)] (by kernel_rfl) (by kernel_rfl) (fun _ => Below.refl _ _) (fun _ _ _ => below_tr) ?_
      refine RX.seqP_value (fun _ => Below.refl _ _) _ (by first | rfl | simp) (fun w' hw' hctx => by (go_simp); (try first | with_reducible rfl | simp)) ?_
      simp only [Act.put, List.setIfInBounds_toArray, List.set_cons_zero, List.set_cons_succ]
      refine RX.seqP_value (fun _ => Below.refl _ _) _ (by first | rfl | simp) (fun w' hw' hctx => by (go_simp); (try first | with_reducible rfl | simp)) ?_
      simp only [Act.put, List.setIfInBounds_toArray, List.set_cons_zero, List.set_cons_succ]
      refine RX.seqP_value (fun _ => Below.refl _ _) _ (by first | rfl | simp) (fun w' hw' hctx => by (go_simp); (try first | with_reducible rfl | simp)) ?_
      simp only [Act.put, List.setIfInBounds_toArray, List.set_cons_zero, List.set_cons_succ]
      refine RX.seqP_value (fun _ => Below.refl _ _) _ (by first | rfl | simp) (fun w' hw' hctx => ?_) ?_
      · obtain ⟨c0, c1, c2, c3, c4⟩ := HX.out.below (below_tr hdr hw')
        go_simp
        try first | with_reducible rfl | simp
      simp only [Act.put, List.setIfInBounds_toArray, List.set_cons_zero, List.set_cons_succ]
      refine RX.seqP_value (fun _ => Below.refl _ _) _ (by first | rfl | simp) (fun w' hw' hctx => by (go_simp); (try first | with_reducible rfl | simp)) ?_
      simp only [Act.put, List.setIfInBounds_toArray, List.set_cons_zero, List.set_cons_succ]
      refine RX.seqP_value (fun _ => Below.refl _ _) _ (by first | rfl | simp) (fun w' hw' hctx => by (go_simp); (try first | with_reducible rfl | simp)) ?_
      simp only [Act.put, List.setIfInBounds_toArray, List.set_cons_zero, List.set_cons_succ]
      refine RX.seqP_value (fun _ => Below.refl _ _) _ (by first | rfl | simp) (fun w' hw' hctx => by (go_simp); (try first | with_reducible rfl | simp)) ?_
      simp only [Act.put, List.setIfInBounds_toArray, List.set_cons_zero, List.set_cons_succ]
      refine RX.seqP_value (fun _ => Below.refl _ _) _ (by first | rfl | simp) (fun w' hw' hctx => ?_) ?_
      · obtain ⟨c0, c1, c2, c3, c4⟩ := HY.out.below (below_tr hdr hw')
        go_simp
        try first | with_reducible rfl | simp
      simp only [Act.put, List.setIfInBounds_toArray, List.set_cons_zero, List.set_cons_succ]
      refine RX.seqP_call (18) #[.agg #[.int .u8 x2.k, .int .i64 x2.n, .int .i64 x2.u, .string x2.t], .agg #[.int .u8 y.k, .int .i64 y.n, .int .i64 y.u, .string y.t]] (.bool false) (by first | rfl | simp) (fun w' hw' hctx => ?_) (fun w' hw' hctx => meets_is x2 y false HM.out w') ?_
      · go_simp
      simp only [Act.put, List.setIfInBounds_toArray, List.set_cons_zero, List.set_cons_succ]
      refine RX.seqP_nil (fun v1 hR hctx _ => ?_)
      have hv1 := below_tr hdr hR
      clear hctx hR
      go_wp2_with fail
      go_roundg (i - (p + 1))
      case measure => omega
      case rel => exact ⟨p + 1, by go_num, by omega, Nat.le_refl _, Lib.hid (BW.out.trans (hv1.mono BW.out.size))⟩
    · have hltz : ¬ (p : Int) < (i : Int) := by omega
      have HB := BW
      go_wp2_with fail
      go_loopg [8, 9] (k) (fun gg s8 _ wr => ∃ p : Nat, s8 = .int .i64 p ∧ p ≤ k ∧ k - p ≤ gg ∧ Hid (Below w.heap.size w wr))
      case atStart => exact ⟨0, rfl, Nat.zero_le _, by omega, HB⟩
      case round =>
        obtain ⟨p, rfl, hpE, hgg, BW⟩ := hrel
        clear HB
        by_cases hlt : p < k
        · have hltz : (p : Int) < (k : Int) := by omega
          go_wp2_with fail
          go_loopg [9] p (fun gh s9 wr' => ∃ q : Nat, s9 = .int .i64 q ∧ q ≤ p ∧ p - q ≤ gh ∧ Hid (Below w.heap.size w wr'))
          case atStart => exact ⟨0, rfl, Nat.zero_le _, by omega, BW⟩
          case round =>
            obtain ⟨q, rfl, hqp, hgh, BW2⟩ := hrel
            by_cases hq : q < p
            · have hqz : (q : Int) < (p : Int) := by omega
              have z1 : ¬ n ≤ p := by omega
              have z2 : ¬ n ≤ q := by omega
              have hp0 := HAT.out p (by omega)
              have hq0 := HAT.out q (by omega)
              have hno := HNO.out p q hq hlt
              obtain ⟨x, hx⟩ : ∃ x, D p = x := ⟨_, rfl⟩
              obtain ⟨y, hy⟩ : ∃ y, D q = y := ⟨_, rfl⟩
              rw [hx] at hp0 hno
              rw [hy] at hq0 hno
              have HX := Lib.hid (hp0.below BW2.out)
              have HY := Lib.hid (hq0.below BW2.out)
              have HM := Lib.hid hno
              clear hp0 hq0 hno hx hy
              go_wp2_with fail
              have hdr := below_drw wr
              try simp only [List.append_eq, List.cons_append, List.nil_append]
              refine RX.wp_region_plan (fun w w' => Below w.heap.size w w') [.it (.slice (some ⟨b, o, none⟩) n c), .it (.int .i64 (p : Int)), .it (.pointer (some ⟨b, o + p * 4, none⟩)), .it (.agg #[.int .u8 x.k, .int .i64 x.n, .int .i64 x.u, .string x.t]), .it (.slice (some ⟨b, o, none⟩) n c), .it (.int .i64 (q : Int)), .it (.pointer (some ⟨b, o + q * 4, none⟩)), .it (.agg #[.int .u8 y.k, .int .i64 y.n, .int .i64 y.u, .string y.t]), .it (.bool false)] (by kernel_rfl) (by kernel_rfl) (fun _ => Below.refl _ _) (fun _ _ _ => below_tr) ?_
              refine RX.seqP_value (fun _ => Below.refl _ _) _ (by first | rfl | simp) (fun w' hw' hctx => by (go_simp); (try first | with_reducible rfl | simp)) ?_
              simp only [Act.put, List.setIfInBounds_toArray, List.set_cons_zero, List.set_cons_succ]
              refine RX.seqP_value (fun _ => Below.refl _ _) _ (by first | rfl | simp) (fun w' hw' hctx => by (go_simp); (try first | with_reducible rfl | simp)) ?_
              simp only [Act.put, List.setIfInBounds_toArray, List.set_cons_zero, List.set_cons_succ]
              refine RX.seqP_value (fun _ => Below.refl _ _) _ (by first | rfl | simp) (fun w' hw' hctx => by (go_simp); (try first | with_reducible rfl | simp)) ?_
              simp only [Act.put, List.setIfInBounds_toArray, List.set_cons_zero, List.set_cons_succ]
              refine RX.seqP_value (fun _ => Below.refl _ _) _ (by first | rfl | simp) (fun w' hw' hctx => ?_) ?_
              · obtain ⟨c0, c1, c2, c3, c4⟩ := HX.out.below (below_tr hdr hw')
                go_simp
                try first | with_reducible rfl | simp
              simp only [Act.put, List.setIfInBounds_toArray, List.set_cons_zero, List.set_cons_succ]
              refine RX.seqP_value (fun _ => Below.refl _ _) _ (by first | rfl | simp) (fun w' hw' hctx => by (go_simp); (try first | with_reducible rfl | simp)) ?_
              simp only [Act.put, List.setIfInBounds_toArray, List.set_cons_zero, List.set_cons_succ]
              refine RX.seqP_value (fun _ => Below.refl _ _) _ (by first | rfl | simp) (fun w' hw' hctx => by (go_simp); (try first | with_reducible rfl | simp)) ?_
              simp only [Act.put, List.setIfInBounds_toArray, List.set_cons_zero, List.set_cons_succ]
              refine RX.seqP_value (fun _ => Below.refl _ _) _ (by first | rfl | simp) (fun w' hw' hctx => by (go_simp); (try first | with_reducible rfl | simp)) ?_
              simp only [Act.put, List.setIfInBounds_toArray, List.set_cons_zero, List.set_cons_succ]
              refine RX.seqP_value (fun _ => Below.refl _ _) _ (by first | rfl | simp) (fun w' hw' hctx => ?_) ?_
              · obtain ⟨c0, c1, c2, c3, c4⟩ := HY.out.below (below_tr hdr hw')
                go_simp
                try first | with_reducible rfl | simp
              simp only [Act.put, List.setIfInBounds_toArray, List.set_cons_zero, List.set_cons_succ]
              refine RX.seqP_call (18) #[.agg #[.int .u8 x.k, .int .i64 x.n, .int .i64 x.u, .string x.t], .agg #[.int .u8 y.k, .int .i64 y.n, .int .i64 y.u, .string y.t]] (.bool false) (by first | rfl | simp) (fun w' hw' hctx => ?_) (fun w' hw' hctx => meets_is x y false (by rw [meetS_comm]; exact HM.out) w') ?_
              · go_simp
              simp only [Act.put, List.setIfInBounds_toArray, List.set_cons_zero, List.set_cons_succ]
              refine RX.seqP_nil (fun v1 hR hctx _ => ?_)
              have hv1 := below_tr hdr hR
              clear hctx hR
              go_wp2_with fail
              go_roundg (p - (q + 1))
              case measure => omega
              case rel => exact ⟨q + 1, by go_num, by omega, Nat.le_refl _, Lib.hid (BW2.out.trans (hv1.mono BW2.out.size))⟩
            · have hqz : ¬ (q : Int) < (p : Int) := by omega
              go_wp2_with fail
              go_roundg (k - (p + 1))
              case measure => omega
              case rel => exact ⟨p + 1, by go_num, by omega, Nat.le_refl _, BW2⟩
        · have hltz : ¬ (p : Int) < (k : Int) := by omega
          go_wp2_with fail
          go_ret
          exact ⟨rfl, BW.out⟩

theorem first_law (r : Rw) (w : World) (hin : r.In w) :
    Calls Try.prog 8 #[.slice r.a r.len r.cap] w fun e w' => e = .returned (.bool true) ∧ Below w.heap.size w w' := by
  obtain ⟨a, n, c, D⟩ := r
  rcases Nat.lt_or_ge 100 n with h | h
  · exact firstl_a a n c h w
  have hc : c ≤ 9223372036854775807 := by have h2 : c ≤ maxLen := hin.cm; unfold maxLen at h2; omega
  rcases Nat.eq_zero_or_pos n with rfl | hn
  · exact firstl_0 a c (fun w => ⟨Nat.zero_le _, hc, by omega, fun h => absurd h (Nat.lt_irrefl _)⟩) w
  · obtain ⟨b, o, e, hat⟩ := hin.at' hn
    obtain rfl : a = some ⟨b, o, none⟩ := e
    have hl : SlV w (some ⟨b, o, none⟩) n c D := ⟨hin.lc, hc, by omega, fun _ => ⟨b, o, rfl, hat⟩⟩
    obtain ⟨i, k, is, hF⟩ := FirstS.exists D n
    cases is
    · exact firstl_f w b o n c D hl hat h i k hF
    · exact firstl_t w b o n c D hl hat h i k hF
end Go.Proofs.Ytnifpphimodonaa
