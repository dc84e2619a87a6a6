/-
  The document's own First and Same.
-/
import Derived.Test.YtnifpphimodonaaSAwake
namespace Go.Proofs.Ytnifpphimodonaa
open Go.RowKit

set_option maxRecDepth 100000 in
set_option maxHeartbeats 4000000 in
theorem rfirst_0 (a : Option Addr) (c : Nat) (w : World)  :
    Calls Try.prog 21 #[.slice a 0 c] w fun e w' => e = .returned (.tuple #[.int .i64 0, .int .i64 0, .bool false]) ∧ Below w.heap.size w w' := by
  go_enter Try.func21, Try.ntmps21
  go_wp2
  refine wp_loop_rounds 1 ?_
  rw [rounds_succ]
  go_wp2
  exact bodyPost_ret (v := .tuple #[.int .i64 0, .int .i64 0, .bool false]) (by simp [results, Try.results21, go_sem]) rfl ⟨rfl, Below.refl _ _⟩

set_option maxRecDepth 100000 in
set_option maxHeartbeats 4000000 in
theorem rfirst_f (b o n c : Nat) (D : Nat → Val) (i k : Nat) (w : World) (hat : ∀ i, i < n → AtV w b (o + i * 4) (D i)) (hn : n ≤ 1000) (hF : FirstS D n i k false) :
    Calls Try.prog 21 #[.slice (some ⟨b, o, none⟩) n c] w fun e w' => e = .returned (.tuple #[.int .i64 i, .int .i64 k, .bool false]) ∧ Below w.heap.size w w' := by
  obtain ⟨rfl, rfl, -⟩ := hF.nosearch
  have HNO : Hid (∀ a b, b < a → a < n → meetS (D b) (D a) = false) := Lib.hid (by
    rcases hF with ⟨h, _⟩ | ⟨_, _, _, h⟩
    · cases h
    · exact h)
  have HAT := Lib.hid hat
  clear hat hF
  go_enter Try.func21, Try.ntmps21
  go_wp2_with fail
  go_loopg [5, 6] n (fun gg s5 _ wr => ∃ p : Nat, s5 = .int .i64 p ∧ p ≤ n ∧ n - p ≤ gg ∧ Hid (Below w.heap.size w wr))
  case atStart => exact ⟨0, rfl, Nat.zero_le _, by omega, Lib.hid (Below.refl _ _)⟩
  case round =>
    obtain ⟨p, rfl, hpE, hgg, BW⟩ := hrel
    by_cases hlt : p < n
    · have hltz : (p : Int) < (n : Int) := by omega
      go_wp2_with fail
      go_loopg [6] p (fun gh s6 wr' => ∃ q : Nat, s6 = .int .i64 q ∧ q ≤ p ∧ p - q ≤ gh ∧ Hid (Below w.heap.size w wr'))
      case atStart => exact ⟨0, rfl, Nat.zero_le _, by omega, BW⟩
      case round =>
        obtain ⟨q, rfl, hqp, hgh, BW2⟩ := hrel
        by_cases hq : q < p
        · have hno := HNO.out p q hq hlt
          have hqz : (q : Int) < (p : Int) := by omega
          have z1 : ¬ n ≤ p := by omega
          have z2 : ¬ n ≤ q := by omega
          have hp0 := HAT.out p (by omega)
          have hq0 := HAT.out q (by omega)
          obtain ⟨x, hx⟩ : ∃ x, D q = x := ⟨_, rfl⟩
          obtain ⟨y, hy⟩ : ∃ y, D p = y := ⟨_, rfl⟩
          rw [hy] at hp0 hno
          rw [hx] at hq0 hno
          have HX := Lib.hid (hq0.below BW2.out)
          have HY := Lib.hid (hp0.below BW2.out)
          have HM := Lib.hid hno
          clear hp0 hq0 hno hx hy
          go_wp2_with fail
          have hdr := below_drw wr
          try simp only [List.append_eq, List.cons_append, List.nil_append]
          refine RX.wp_region_plan (fun w w' => Below w.heap.size w w') [.it (.slice (some ⟨b, o, none⟩) n c), .it (.int .i64 (q : Int)), .it (.pointer (some ⟨b, o + q * 4, none⟩)), .it (.agg #[.int .u8 x.k, .int .i64 x.n, .int .i64 x.u, .string x.t]), .it (.slice (some ⟨b, o, none⟩) n c), .it (.int .i64 (p : Int)), .it (.pointer (some ⟨b, o + p * 4, none⟩)), .it (.agg #[.int .u8 y.k, .int .i64 y.n, .int .i64 y.u, .string y.t]), .it (.bool false)] (by kernel_rfl) (by kernel_rfl) (fun _ => Below.refl _ _) (fun _ _ _ => below_tr) ?_
          refine RX.seqP_value (fun _ => Below.refl _ _) _ (by first | rfl | simp) (fun w' hw' hctx => by (go_simp); (try first | with_reducible rfl | simp)) ?_
          simp only [Act.put, List.setIfInBounds_toArray, List.set_cons_zero, List.set_cons_succ]
          refine RX.seqP_value (fun _ => Below.refl _ _) _ (by first | rfl | simp) (fun w' hw' hctx => by (go_simp); (try first | with_reducible rfl | simp)) ?_
          simp only [Act.put, List.setIfInBounds_toArray, List.set_cons_zero, List.set_cons_succ]
          refine RX.seqP_value (fun _ => Below.refl _ _) _ (by first | rfl | simp) (fun w' hw' hctx => by (go_simp); (try first | with_reducible rfl | simp)) ?_
          simp only [Act.put, List.setIfInBounds_toArray, List.set_cons_zero, List.set_cons_succ]
          refine RX.seqP_value (fun _ => Below.refl _ _) _ (by first | rfl | simp) (fun w' hw' hctx => ?_) ?_
          · obtain ⟨c0, c1, c2, c3, c4⟩ := HX.out.below (below_tr hdr hw')
            go_simp
            try first | with_reducible rfl | simp
          simp only [Act.put, List.setIfInBounds_toArray, List.set_cons_zero, List.set_cons_succ]
          refine RX.seqP_value (fun _ => Below.refl _ _) _ (by first | rfl | simp) (fun w' hw' hctx => by (go_simp); (try first | with_reducible rfl | simp)) ?_
          simp only [Act.put, List.setIfInBounds_toArray, List.set_cons_zero, List.set_cons_succ]
          refine RX.seqP_value (fun _ => Below.refl _ _) _ (by first | rfl | simp) (fun w' hw' hctx => by (go_simp); (try first | with_reducible rfl | simp)) ?_
          simp only [Act.put, List.setIfInBounds_toArray, List.set_cons_zero, List.set_cons_succ]
          refine RX.seqP_value (fun _ => Below.refl _ _) _ (by first | rfl | simp) (fun w' hw' hctx => by (go_simp); (try first | with_reducible rfl | simp)) ?_
          simp only [Act.put, List.setIfInBounds_toArray, List.set_cons_zero, List.set_cons_succ]
          refine RX.seqP_value (fun _ => Below.refl _ _) _ (by first | rfl | simp) (fun w' hw' hctx => ?_) ?_
          · obtain ⟨c0, c1, c2, c3, c4⟩ := HY.out.below (below_tr hdr hw')
            go_simp
            try first | with_reducible rfl | simp
          simp only [Act.put, List.setIfInBounds_toArray, List.set_cons_zero, List.set_cons_succ]
          refine RX.seqP_call (19) #[.agg #[.int .u8 x.k, .int .i64 x.n, .int .i64 x.u, .string x.t], .agg #[.int .u8 y.k, .int .i64 y.n, .int .i64 y.u, .string y.t]] (.bool false) (by first | rfl | simp) (fun w' hw' hctx => ?_) (fun w' hw' hctx => rmeets_is x y false HM.out w') ?_
          · go_simp
          simp only [Act.put, List.setIfInBounds_toArray, List.set_cons_zero, List.set_cons_succ]
          refine RX.seqP_nil (fun v1 hR hctx _ => ?_)
          have hv1 := below_tr hdr hR
          clear hctx hR
          go_wp2_with fail
          go_roundg (p - (q + 1))
          case measure => omega
          case rel => exact ⟨q + 1, by go_num, by omega, Nat.le_refl _, Lib.hid (BW2.out.trans (hv1.mono BW2.out.size))⟩
        · have hqz : ¬ (q : Int) < (p : Int) := by omega
          go_wp2_with fail
          go_roundg (n - (p + 1))
          case measure => omega
          case rel => exact ⟨p + 1, by go_num, by omega, Nat.le_refl _, BW2⟩
    · have hltz : ¬ (p : Int) < (n : Int) := by omega
      go_wp2_with fail
      exact bodyPost_ret (v := .tuple #[.int .i64 0, .int .i64 0, .bool false]) (by simp [results, Try.results21, go_sem]) rfl ⟨rfl, BW.out⟩

set_option maxRecDepth 100000 in
set_option maxHeartbeats 4000000 in
theorem rfirst_t (b o n c : Nat) (D : Nat → Val) (i k : Nat) (w : World) (hat : ∀ i, i < n → AtV w b (o + i * 4) (D i)) (hn : n ≤ 1000) (hF : FirstS D n i k true) :
    Calls Try.prog 21 #[.slice (some ⟨b, o, none⟩) n c] w fun e w' => e = .returned (.tuple #[.int .i64 i, .int .i64 k, .bool true]) ∧ Below w.heap.size w w' := by
  obtain ⟨hkn, hik, -⟩ := hF.search
  obtain ⟨hM0, hBf, hN0⟩ : meetS (D i) (D k) = true ∧ (∀ a, a < i → meetS (D a) (D k) = false) ∧ ∀ a b, b < a → a < k → meetS (D b) (D a) = false := by
    rcases hF with ⟨_, _, _, h1, h2, h3⟩ | ⟨h, _⟩
    · exact ⟨h1, h2, h3⟩
    · cases h
  have HNO := Lib.hid hN0
  have HBF := Lib.hid hBf
  have HMM := Lib.hid hM0
  have HAT := Lib.hid hat
  clear hat hF hM0 hBf hN0
  go_enter Try.func21, Try.ntmps21
  go_wp2_with fail
  go_loopg [5, 6] n (fun gg s5 _ wr => ∃ p : Nat, s5 = .int .i64 p ∧ p ≤ k ∧ n - p ≤ gg ∧ Hid (Below w.heap.size w wr))
  case atStart => exact ⟨0, rfl, Nat.zero_le _, by omega, Lib.hid (Below.refl _ _)⟩
  case round =>
    obtain ⟨p, rfl, hpE, hgg, BW⟩ := hrel
    have hlt : p < n := by omega
    have hltz : (p : Int) < (n : Int) := by omega
    go_wp2_with fail
    go_loopg [6] p (fun gh s6 wr' => ∃ q : Nat, s6 = .int .i64 q ∧ q ≤ p ∧ (p = k → q ≤ i) ∧ p - q ≤ gh ∧ Hid (Below w.heap.size w wr'))
    case atStart => exact ⟨0, rfl, Nat.zero_le _, fun _ => Nat.zero_le _, by omega, BW⟩
    case round =>
      obtain ⟨q, rfl, hqp, hqi, hgh, BW2⟩ := hrel
      by_cases hpk : p = k
      · subst hpk
        have hqi' := hqi rfl
        have hq : q < p := by omega
        rcases Nat.lt_or_eq_of_le hqi' with hqi2 | rfl
        · have hno := HBF.out q hqi2
          have hqz : (q : Int) < (p : Int) := by omega
          have z1 : ¬ n ≤ p := by omega
          have z2 : ¬ n ≤ q := by omega
          have hp0 := HAT.out p (by omega)
          have hq0 := HAT.out q (by omega)
          obtain ⟨x, hx⟩ : ∃ x, D q = x := ⟨_, rfl⟩
          obtain ⟨y, hy⟩ : ∃ y, D p = y := ⟨_, rfl⟩
          rw [hy] at hp0 hno
          rw [hx] at hq0 hno
          have HX := Lib.hid (hq0.below BW2.out)
          have HY := Lib.hid (hp0.below BW2.out)
          have HM := Lib.hid hno
          clear hp0 hq0 hno hx hy
          go_wp2_with fail
          have hdr := below_drw wr
          try simp only [List.append_eq, List.cons_append, List.nil_append]
          refine RX.wp_region_plan (fun w w' => Below w.heap.size w w') [.it (.slice (some ⟨b, o, none⟩) n c), .it (.int .i64 (q : Int)), .it (.pointer (some ⟨b, o + q * 4, none⟩)), .it (.agg #[.int .u8 x.k, .int .i64 x.n, .int .i64 x.u, .string x.t]), .it (.slice (some ⟨b, o, none⟩) n c), .it (.int .i64 (p : Int)), .it (.pointer (some ⟨b, o + p * 4, none⟩)), .it (.agg #[.int .u8 y.k, .int .i64 y.n, .int .i64 y.u, .string y.t]), .it (.bool false)] (by kernel_rfl) (by kernel_rfl) (fun _ => Below.refl _ _) (fun _ _ _ => below_tr) ?_
          refine RX.seqP_value (fun _ => Below.refl _ _) _ (by first | rfl | simp) (fun w' hw' hctx => by (go_simp); (try first | with_reducible rfl | simp)) ?_
          simp only [Act.put, List.setIfInBounds_toArray, List.set_cons_zero, List.set_cons_succ]
          refine RX.seqP_value (fun _ => Below.refl _ _) _ (by first | rfl | simp) (fun w' hw' hctx => by (go_simp); (try first | with_reducible rfl | simp)) ?_
          simp only [Act.put, List.setIfInBounds_toArray, List.set_cons_zero, List.set_cons_succ]
          refine RX.seqP_value (fun _ => Below.refl _ _) _ (by first | rfl | simp) (fun w' hw' hctx => by (go_simp); (try first | with_reducible rfl | simp)) ?_
          simp only [Act.put, List.setIfInBounds_toArray, List.set_cons_zero, List.set_cons_succ]
          refine RX.seqP_value (fun _ => Below.refl _ _) _ (by first | rfl | simp) (fun w' hw' hctx => ?_) ?_
          · obtain ⟨c0, c1, c2, c3, c4⟩ := HX.out.below (below_tr hdr hw')
            go_simp
            try first | with_reducible rfl | simp
          simp only [Act.put, List.setIfInBounds_toArray, List.set_cons_zero, List.set_cons_succ]
          refine RX.seqP_value (fun _ => Below.refl _ _) _ (by first | rfl | simp) (fun w' hw' hctx => by (go_simp); (try first | with_reducible rfl | simp)) ?_
          simp only [Act.put, List.setIfInBounds_toArray, List.set_cons_zero, List.set_cons_succ]
          refine RX.seqP_value (fun _ => Below.refl _ _) _ (by first | rfl | simp) (fun w' hw' hctx => by (go_simp); (try first | with_reducible rfl | simp)) ?_
          simp only [Act.put, List.setIfInBounds_toArray, List.set_cons_zero, List.set_cons_succ]
          refine RX.seqP_value (fun _ => Below.refl _ _) _ (by first | rfl | simp) (fun w' hw' hctx => by (go_simp); (try first | with_reducible rfl | simp)) ?_
          simp only [Act.put, List.setIfInBounds_toArray, List.set_cons_zero, List.set_cons_succ]
          refine RX.seqP_value (fun _ => Below.refl _ _) _ (by first | rfl | simp) (fun w' hw' hctx => ?_) ?_
          · obtain ⟨c0, c1, c2, c3, c4⟩ := HY.out.below (below_tr hdr hw')
            go_simp
            try first | with_reducible rfl | simp
          simp only [Act.put, List.setIfInBounds_toArray, List.set_cons_zero, List.set_cons_succ]
          refine RX.seqP_call (19) #[.agg #[.int .u8 x.k, .int .i64 x.n, .int .i64 x.u, .string x.t], .agg #[.int .u8 y.k, .int .i64 y.n, .int .i64 y.u, .string y.t]] (.bool false) (by first | rfl | simp) (fun w' hw' hctx => ?_) (fun w' hw' hctx => rmeets_is x y false HM.out w') ?_
          · go_simp
          simp only [Act.put, List.setIfInBounds_toArray, List.set_cons_zero, List.set_cons_succ]
          refine RX.seqP_nil (fun v1 hR hctx _ => ?_)
          have hv1 := below_tr hdr hR
          clear hctx hR
          go_wp2_with fail
          go_roundg (p - (q + 1))
          case measure => omega
          case rel => exact ⟨q + 1, by go_num, by omega, fun _ => by omega, Nat.le_refl _, Lib.hid (BW2.out.trans (hv1.mono BW2.out.size))⟩
        · have hno := HMM.out
          have hqz : (q : Int) < (p : Int) := by omega
          have z1 : ¬ n ≤ p := by omega
          have z2 : ¬ n ≤ q := by omega
          have hp0 := HAT.out p (by omega)
          have hq0 := HAT.out q (by omega)
          obtain ⟨x, hx⟩ : ∃ x, D q = x := ⟨_, rfl⟩
          obtain ⟨y, hy⟩ : ∃ y, D p = y := ⟨_, rfl⟩
          rw [hy] at hp0 hno
          rw [hx] at hq0 hno
          have HX := Lib.hid (hq0.below BW2.out)
          have HY := Lib.hid (hp0.below BW2.out)
          have HM := Lib.hid hno
          clear hp0 hq0 hno hx hy
          go_wp2_with fail
          have hdr := below_drw wr
          try simp only [List.append_eq, List.cons_append, List.nil_append]
          refine RX.wp_region_plan (fun w w' => Below w.heap.size w w') [.it (.slice (some ⟨b, o, none⟩) n c), .it (.int .i64 (q : Int)), .it (.pointer (some ⟨b, o + q * 4, none⟩)), .it (.agg #[.int .u8 x.k, .int .i64 x.n, .int .i64 x.u, .string x.t]), .it (.slice (some ⟨b, o, none⟩) n c), .it (.int .i64 (p : Int)), .it (.pointer (some ⟨b, o + p * 4, none⟩)), .it (.agg #[.int .u8 y.k, .int .i64 y.n, .int .i64 y.u, .string y.t]), .it (.bool true)] (by kernel_rfl) (by kernel_rfl) (fun _ => Below.refl _ _) (fun _ _ _ => below_tr) ?_
          refine RX.seqP_value (fun _ => Below.refl _ _) _ (by first | rfl | simp) (fun w' hw' hctx => by (go_simp); (try first | with_reducible rfl | simp)) ?_
          simp only [Act.put, List.setIfInBounds_toArray, List.set_cons_zero, List.set_cons_succ]
          refine RX.seqP_value (fun _ => Below.refl _ _) _ (by first | rfl | simp) (fun w' hw' hctx => by (go_simp); (try first | with_reducible rfl | simp)) ?_
          simp only [Act.put, List.setIfInBounds_toArray, List.set_cons_zero, List.set_cons_succ]
          refine RX.seqP_value (fun _ => Below.refl _ _) _ (by first | rfl | simp) (fun w' hw' hctx => by (go_simp); (try first | with_reducible rfl | simp)) ?_
          simp only [Act.put, List.setIfInBounds_toArray, List.set_cons_zero, List.set_cons_succ]
          refine RX.seqP_value (fun _ => Below.refl _ _) _ (by first | rfl | simp) (fun w' hw' hctx => ?_) ?_
          · obtain ⟨c0, c1, c2, c3, c4⟩ := HX.out.below (below_tr hdr hw')
            go_simp
            try first | with_reducible rfl | simp
          simp only [Act.put, List.setIfInBounds_toArray, List.set_cons_zero, List.set_cons_succ]
          refine RX.seqP_value (fun _ => Below.refl _ _) _ (by first | rfl | simp) (fun w' hw' hctx => by (go_simp); (try first | with_reducible rfl | simp)) ?_
          simp only [Act.put, List.setIfInBounds_toArray, List.set_cons_zero, List.set_cons_succ]
          refine RX.seqP_value (fun _ => Below.refl _ _) _ (by first | rfl | simp) (fun w' hw' hctx => by (go_simp); (try first | with_reducible rfl | simp)) ?_
          simp only [Act.put, List.setIfInBounds_toArray, List.set_cons_zero, List.set_cons_succ]
          refine RX.seqP_value (fun _ => Below.refl _ _) _ (by first | rfl | simp) (fun w' hw' hctx => by (go_simp); (try first | with_reducible rfl | simp)) ?_
          simp only [Act.put, List.setIfInBounds_toArray, List.set_cons_zero, List.set_cons_succ]
          refine RX.seqP_value (fun _ => Below.refl _ _) _ (by first | rfl | simp) (fun w' hw' hctx => ?_) ?_
          · obtain ⟨c0, c1, c2, c3, c4⟩ := HY.out.below (below_tr hdr hw')
            go_simp
            try first | with_reducible rfl | simp
          simp only [Act.put, List.setIfInBounds_toArray, List.set_cons_zero, List.set_cons_succ]
          refine RX.seqP_call (19) #[.agg #[.int .u8 x.k, .int .i64 x.n, .int .i64 x.u, .string x.t], .agg #[.int .u8 y.k, .int .i64 y.n, .int .i64 y.u, .string y.t]] (.bool true) (by first | rfl | simp) (fun w' hw' hctx => ?_) (fun w' hw' hctx => rmeets_is x y true HM.out w') ?_
          · go_simp
          simp only [Act.put, List.setIfInBounds_toArray, List.set_cons_zero, List.set_cons_succ]
          refine RX.seqP_nil (fun v1 hR hctx _ => ?_)
          have hv1 := below_tr hdr hR
          clear hctx hR
          go_wp2_with fail
          exact bodyPost_ret (v := .tuple #[.int .i64 q, .int .i64 p, .bool true]) (by simp [results, Try.results21, go_sem]) rfl ⟨rfl, BW2.out.trans (hv1.mono BW2.out.size)⟩
      · by_cases hq : q < p
        · have hno := HNO.out p q hq (by omega)
          have hqz : (q : Int) < (p : Int) := by omega
          have z1 : ¬ n ≤ p := by omega
          have z2 : ¬ n ≤ q := by omega
          have hp0 := HAT.out p (by omega)
          have hq0 := HAT.out q (by omega)
          obtain ⟨x, hx⟩ : ∃ x, D q = x := ⟨_, rfl⟩
          obtain ⟨y, hy⟩ : ∃ y, D p = y := ⟨_, rfl⟩
          rw [hy] at hp0 hno
          rw [hx] at hq0 hno
          have HX := Lib.hid (hq0.below BW2.out)
          have HY := Lib.hid (hp0.below BW2.out)
          have HM := Lib.hid hno
          clear hp0 hq0 hno hx hy
          go_wp2_with fail
          have hdr := below_drw wr
          try simp only [List.append_eq, List.cons_append, List.nil_append]
          refine RX.wp_region_plan (fun w w' => Below w.heap.size w w') [.it (.slice (some ⟨b, o, none⟩) n c), .it (.int .i64 (q : Int)), .it (.pointer (some ⟨b, o + q * 4, none⟩)), .it (.agg #[.int .u8 x.k, .int .i64 x.n, .int .i64 x.u, .string x.t]), .it (.slice (some ⟨b, o, none⟩) n c), .it (.int .i64 (p : Int)), .it (.pointer (some ⟨b, o + p * 4, none⟩)), .it (.agg #[.int .u8 y.k, .int .i64 y.n, .int .i64 y.u, .string y.t]), .it (.bool false)] (by kernel_rfl) (by kernel_rfl) (fun _ => Below.refl _ _) (fun _ _ _ => below_tr) ?_
          refine RX.seqP_value (fun _ => Below.refl _ _) _ (by first | rfl | simp) (fun w' hw' hctx => by (go_simp); (try first | with_reducible rfl | simp)) ?_
          simp only [Act.put, List.setIfInBounds_toArray, List.set_cons_zero, List.set_cons_succ]
          refine RX.seqP_value (fun _ => Below.refl _ _) _ (by first | rfl | simp) (fun w' hw' hctx => by (go_simp); (try first | with_reducible rfl | simp)) ?_
          simp only [Act.put, List.setIfInBounds_toArray, List.set_cons_zero, List.set_cons_succ]
          refine RX.seqP_value (fun _ => Below.refl _ _) _ (by first | rfl | simp) (fun w' hw' hctx => by (go_simp); (try first | with_reducible rfl | simp)) ?_
          simp only [Act.put, List.setIfInBounds_toArray, List.set_cons_zero, List.set_cons_succ]
          refine RX.seqP_value (fun _ => Below.refl _ _) _ (by first | rfl | simp) (fun w' hw' hctx => ?_) ?_
          · obtain ⟨c0, c1, c2, c3, c4⟩ := HX.out.below (below_tr hdr hw')
            go_simp
            try first | with_reducible rfl | simp
          simp only [Act.put, List.setIfInBounds_toArray, List.set_cons_zero, List.set_cons_succ]
          refine RX.seqP_value (fun _ => Below.refl _ _) _ (by first | rfl | simp) (fun w' hw' hctx => by (go_simp); (try first | with_reducible rfl | simp)) ?_
          simp only [Act.put, List.setIfInBounds_toArray, List.set_cons_zero, List.set_cons_succ]
          refine RX.seqP_value (fun _ => Below.refl _ _) _ (by first | rfl | simp) (fun w' hw' hctx => by (go_simp); (try first | with_reducible rfl | simp)) ?_
          simp only [Act.put, List.setIfInBounds_toArray, List.set_cons_zero, List.set_cons_succ]
          refine RX.seqP_value (fun _ => Below.refl _ _) _ (by first | rfl | simp) (fun w' hw' hctx => by (go_simp); (try first | with_reducible rfl | simp)) ?_
          simp only [Act.put, List.setIfInBounds_toArray, List.set_cons_zero, List.set_cons_succ]
          refine RX.seqP_value (fun _ => Below.refl _ _) _ (by first | rfl | simp) (fun w' hw' hctx => ?_) ?_
          · obtain ⟨c0, c1, c2, c3, c4⟩ := HY.out.below (below_tr hdr hw')
            go_simp
            try first | with_reducible rfl | simp
          simp only [Act.put, List.setIfInBounds_toArray, List.set_cons_zero, List.set_cons_succ]
          refine RX.seqP_call (19) #[.agg #[.int .u8 x.k, .int .i64 x.n, .int .i64 x.u, .string x.t], .agg #[.int .u8 y.k, .int .i64 y.n, .int .i64 y.u, .string y.t]] (.bool false) (by first | rfl | simp) (fun w' hw' hctx => ?_) (fun w' hw' hctx => rmeets_is x y false HM.out w') ?_
          · go_simp
          simp only [Act.put, List.setIfInBounds_toArray, List.set_cons_zero, List.set_cons_succ]
          refine RX.seqP_nil (fun v1 hR hctx _ => ?_)
          have hv1 := below_tr hdr hR
          clear hctx hR
          go_wp2_with fail
          go_roundg (p - (q + 1))
          case measure => omega
          case rel => exact ⟨q + 1, by go_num, by omega, fun h => absurd h hpk, Nat.le_refl _, Lib.hid (BW2.out.trans (hv1.mono BW2.out.size))⟩
        · have hqz : ¬ (q : Int) < (p : Int) := by omega
          go_wp2_with fail
          go_roundg (n - (p + 1))
          case measure => omega
          case rel => exact ⟨p + 1, by go_num, by omega, Nat.le_refl _, BW2⟩

theorem rfirst_is (a : Option Addr) (n c : Nat) (D : Nat → Val) (i k : Nat) (is : Bool) (w : World) (hl : SlV w a n c D) (hF : FirstS D n i k is) :
    Calls Try.prog 21 #[.slice a n c] w fun e w' => e = .returned (.tuple #[.int .i64 i, .int .i64 k, .bool is]) ∧ Below w.heap.size w w' := by
  rcases Nat.eq_zero_or_pos n with rfl | hn
  · obtain ⟨rfl, rfl, rfl⟩ : i = 0 ∧ k = 0 ∧ is = false := by
      rcases hF with ⟨_, h1, h2, _⟩ | ⟨h1, h2, h3, _⟩
      · omega
      · exact ⟨h2, h3, h1⟩
    exact rfirst_0 a c w
  · obtain ⟨b, o, rfl, hat⟩ := hl.at' hn
    cases is
    · exact rfirst_f b o n c D i k w hat hl.small hF
    · exact rfirst_t b o n c D i k w hat hl.small hF

set_option maxRecDepth 100000 in
set_option maxHeartbeats 1000000 in
theorem neqv_any (k n u : Int) (t : ByteArray) (k' n' u' : Int) (t' : ByteArray) (w : World) :
    (Go.binOp .neq 23 (.agg #[.int .u8 k, .int .i64 n, .int .i64 u, .string t]) (.agg #[.int .u8 k', .int .i64 n', .int .i64 u', .string t'])).run Try.prog w = .ok (.bool (!eqB ⟨k, n, u, t⟩ ⟨k', n', u', t'⟩)) w := by
  unfold eqB
  by_cases h1 : k = k'
  · by_cases h2 : n = n'
    · by_cases h3 : u = u'
      · by_cases h4 : t.toList = t'.toList
        · simp only [h1, h2, h3, h4]
          go_simp
        · simp only [h1, h2, h3, h4]
          go_simp
      · simp only [h1, h2, h3]
        go_simp
    · simp only [h1, h2]
      go_simp
  · simp only [h1]
    go_simp

theorem neqv_self (x : Val) (w : World) : (Go.binOp .neq 23 (.agg #[.int .u8 x.k, .int .i64 x.n, .int .i64 x.u, .string x.t]) (.agg #[.int .u8 x.k, .int .i64 x.n, .int .i64 x.u, .string x.t])).run Try.prog w = .ok (.bool false) w := by
  have h := neqv_any x.k x.n x.u x.t x.k x.n x.u x.t w
  rw [show eqB ⟨x.k, x.n, x.u, x.t⟩ ⟨x.k, x.n, x.u, x.t⟩ = true from eqB_iff.2 rfl] at h
  exact h

set_option maxRecDepth 100000 in
theorem same_0 (a a' : Option Addr) (c c' : Nat) (w : World) :
    Calls Try.prog 24 #[.slice a 0 c, .slice a' 0 c'] w fun e w' => e = .returned (.bool true) ∧ Below w.heap.size w w' := by
  go_enter Try.func24, Try.ntmps24
  go_wp2
  refine wp_loop_rounds 1 ?_
  rw [rounds_succ]
  go_wp2
  go_ret
  exact ⟨rfl, Below.refl _ _⟩

set_option maxRecDepth 100000 in
set_option maxHeartbeats 4000000 in
/-- Two lists of the same values. -/
theorem same_n (b o b' o' n c c' : Nat) (D : Nat → Val) (w : World) (hn : n ≤ 1000) (h1 : ∀ i, i < n → AtV w b (o + i * 4) (D i)) (h2 : ∀ i, i < n → AtV w b' (o' + i * 4) (D i)) :
    Calls Try.prog 24 #[.slice (some ⟨b, o, none⟩) n c, .slice (some ⟨b', o', none⟩) n c'] w fun e w' => e = .returned (.bool true) ∧ Below w.heap.size w w' := by
  have HA := Lib.hid h1
  have HB := Lib.hid h2
  clear h1 h2
  go_enter Try.func24, Try.ntmps24
  go_wp2_with fail
  go_loopg [5] n (fun gg s5 wr => ∃ p : Nat, s5 = .int .i64 p ∧ p ≤ n ∧ n - p ≤ gg ∧ Hid (Below w.heap.size w wr))
  case atStart => exact ⟨0, rfl, Nat.zero_le _, by omega, Lib.hid (Below.refl _ _)⟩
  case round =>
    obtain ⟨p, rfl, hpn, hgg, BW⟩ := hrel
    by_cases hlt : p < n
    · have hltz : (p : Int) < (n : Int) := by omega
      have z1 : ¬ n ≤ p := by omega
      have ha := HA.out p hlt
      have hb := HB.out p hlt
      obtain ⟨x, hx⟩ : ∃ x, D p = x := ⟨_, rfl⟩
      rw [hx] at ha hb
      have HX := Lib.hid (ha.below BW.out)
      have HY := Lib.hid (hb.below BW.out)
      have hnq := neqv_self x
      clear ha hb hx
      go_wp2_with fail
      have hdr := below_drw wr
      try simp only [List.append_eq, List.cons_append, List.nil_append]
      refine RX.wp_region_plan (fun w w' => Below w.heap.size w w') [.it (.slice (some ⟨b, o, none⟩) n c), .it (.int .i64 (p : Int)), .it (.pointer (some ⟨b, o + p * 4, none⟩)), .it (.agg #[.int .u8 x.k, .int .i64 x.n, .int .i64 x.u, .string x.t]), .it (.slice (some ⟨b', o', none⟩) n c'), .it (.int .i64 (p : Int)), .it (.pointer (some ⟨b', o' + p * 4, none⟩)), .it (.agg #[.int .u8 x.k, .int .i64 x.n, .int .i64 x.u, .string x.t]), .it (.bool false)] (by kernel_rfl) (by kernel_rfl) (fun _ => Below.refl _ _) (fun _ _ _ => below_tr) ?_
      refine RX.seqP_value (fun _ => Below.refl _ _) _ (by first | rfl | simp) (fun w' hw' hctx => by (go_simp); (try first | with_reducible rfl | simp)) ?_
      simp only [Act.put, List.setIfInBounds_toArray, List.set_cons_zero, List.set_cons_succ]
      refine RX.seqP_value (fun _ => Below.refl _ _) _ (by first | rfl | simp) (fun w' hw' hctx => by (go_simp); (try first | with_reducible rfl | simp)) ?_
      simp only [Act.put, List.setIfInBounds_toArray, List.set_cons_zero, List.set_cons_succ]
      refine RX.seqP_value (fun _ => Below.refl _ _) _ (by first | rfl | simp) (fun w' hw' hctx => by (go_simp); (try first | with_reducible rfl | simp)) ?_
      simp only [Act.put, List.setIfInBounds_toArray, List.set_cons_zero, List.set_cons_succ]
      refine RX.seqP_value (fun _ => Below.refl _ _) _ (by first | rfl | simp) (fun w' hw' hctx => ?_) ?_
      · obtain ⟨c0, c1, c2, c3, c4⟩ := HX.out.below (below_tr hdr hw')
        go_simp
        try first | with_reducible rfl | simp
      simp only [Act.put, List.setIfInBounds_toArray, List.set_cons_zero, List.set_cons_succ]
      refine RX.seqP_value (fun _ => Below.refl _ _) _ (by first | rfl | simp) (fun w' hw' hctx => by (go_simp); (try first | with_reducible rfl | simp)) ?_
      simp only [Act.put, List.setIfInBounds_toArray, List.set_cons_zero, List.set_cons_succ]
      refine RX.seqP_value (fun _ => Below.refl _ _) _ (by first | rfl | simp) (fun w' hw' hctx => by (go_simp); (try first | with_reducible rfl | simp)) ?_
      simp only [Act.put, List.setIfInBounds_toArray, List.set_cons_zero, List.set_cons_succ]
      refine RX.seqP_value (fun _ => Below.refl _ _) _ (by first | rfl | simp) (fun w' hw' hctx => by (go_simp); (try first | with_reducible rfl | simp)) ?_
      simp only [Act.put, List.setIfInBounds_toArray, List.set_cons_zero, List.set_cons_succ]
      refine RX.seqP_value (fun _ => Below.refl _ _) _ (by first | rfl | simp) (fun w' hw' hctx => ?_) ?_
      · obtain ⟨c0, c1, c2, c3, c4⟩ := HY.out.below (below_tr hdr hw')
        go_simp
        try first | with_reducible rfl | simp
      simp only [Act.put, List.setIfInBounds_toArray, List.set_cons_zero, List.set_cons_succ]
      refine RX.seqP_value (fun _ => Below.refl _ _) _ (by first | rfl | simp) (fun w' hw' hctx => by (go_simp); (try first | with_reducible rfl | simp)) ?_
      simp only [Act.put, List.setIfInBounds_toArray, List.set_cons_zero, List.set_cons_succ]
      refine RX.seqP_nil (fun v1 hR hctx _ => ?_)
      have hv1 := below_tr hdr hR
      clear hctx hR
      go_wp2_with fail
      go_roundg (n - (p + 1))
      case measure => omega
      case rel => exact ⟨p + 1, by go_num, by omega, Nat.le_refl _, Lib.hid (BW.out.trans (hv1.mono BW.out.size))⟩
    · have hltz : ¬ (p : Int) < (n : Int) := by omega
      go_wp2_with fail
      go_ret
      exact ⟨rfl, BW.out⟩
end Go.Proofs.Ytnifpphimodonaa
