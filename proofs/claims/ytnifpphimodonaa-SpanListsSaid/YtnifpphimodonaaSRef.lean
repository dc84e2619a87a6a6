/-
  The document's own Of, Has, Common and Meets (covenantref04), and package span's Of.
-/
import Derived.Test.YtnifpphimodonaaSCom
namespace Go.Proofs.Ytnifpphimodonaa
open Go.RowKit

theorem drewN_below (w : World) (n : Nat) : Below w.heap.size w (w.drewN n) := ⟨rfl, rfl, rfl, Nat.le_refl _, fun _ _ => rfl⟩

/-- What Of answers. -/
def ofS (n u : Int) : Val := cond (decide (n < u)) (spanV n u) Val.zero
def ofE (n u : Int) : Int := cond (decide (n < u)) 0 4

set_option maxRecDepth 100000 in
theorem sof_t (n u : Int) (h : n < u) (w : World) :
    Calls Try.prog 10 #[.int .i64 n, .int .i64 u] w fun e w' => e = .returned (.tuple #[.agg #[.int .u8 4, .int .i64 n, .int .i64 u, .string ⟨#[]⟩], .int .i64 0]) ∧ Below w.heap.size w w' := by
  obtain ⟨W, g, hW, hg, B0, hb0, hs⟩ := boxX w Val.zero
  have S0 := Soft.new w 0 0 0 ⟨#[]⟩ 23
  subst hg
  dsimp only [Val.zero] at hW B0
  rw [hW] at S0
  have HB := Lib.hid hb0
  have H0 := Lib.hid B0
  have HS0 := Lib.hid S0
  obtain ⟨b0, b1, b2, b3, b4⟩ := B0
  obtain ⟨c0, c1, c2, c3, c4⟩ := S0
  clear hb0 hs
  go_enter Try.func10, Try.ntmps10
  go_wp2_with fail
  refine (of_is n u _).mono ?_
  rintro e w1 ⟨rfl, hb1⟩
  obtain ⟨r0, r1, r2, r3, r4⟩ := H0.out.below hb1
  obtain ⟨s0, s1, s2, s3, s4⟩ := HS0.out.below hb1
  have hw1 := below_tr HB.out hb1
  clear b0 b1 b2 b3 b4 c0 c1 c2 c3 c4
  go_wp2_with fail
  have hwz := below_put4 hw1 (Nat.le_refl _) 4 n u ⟨#[]⟩
  obtain ⟨q0, q1, q2, q3, q4⟩ := boxed_put4 (⟨r0, r1, r2, r3, r4⟩ : Boxed w1 w.heap.size 0 0 0 ⟨#[]⟩) 4 n u ⟨#[]⟩
  exact bodyPost_ret (w := put4 w1 w.heap.size 4 n u ⟨#[]⟩) (v := .tuple #[.agg #[.int .u8 4, .int .i64 n, .int .i64 u, .string ⟨#[]⟩], .int .i64 0]) (by simp [results, Try.results10, go_sem, q0, q1, q2, q3]) rfl ⟨rfl, hwz⟩

set_option maxRecDepth 100000 in
theorem sof_f (n u : Int) (h : u ≤ n) (w : World) :
    Calls Try.prog 10 #[.int .i64 n, .int .i64 u] w fun e w' => e = .returned (.tuple #[.agg #[.int .u8 0, .int .i64 0, .int .i64 0, .string ⟨#[]⟩], .int .i64 4]) ∧ Below w.heap.size w w' := by
  obtain ⟨W, g, hW, hg, B0, hb0, hs⟩ := boxX w Val.zero
  have S0 := Soft.new w 0 0 0 ⟨#[]⟩ 23
  subst hg
  dsimp only [Val.zero] at hW B0
  rw [hW] at S0
  have HB := Lib.hid hb0
  have H0 := Lib.hid B0
  have HS0 := Lib.hid S0
  obtain ⟨b0, b1, b2, b3, b4⟩ := B0
  obtain ⟨c0, c1, c2, c3, c4⟩ := S0
  clear hb0 hs
  go_enter Try.func10, Try.ntmps10
  go_wp2_with fail
  have hwz := below_put4 HB.out (Nat.le_refl _) 0 0 0 ⟨#[]⟩
  obtain ⟨q0, q1, q2, q3, q4⟩ := boxed_put4 (H0.out : Boxed W w.heap.size 0 0 0 ⟨#[]⟩) 0 0 0 ⟨#[]⟩
  exact bodyPost_ret (w := put4 W w.heap.size 0 0 0 ⟨#[]⟩) (v := .tuple #[.agg #[.int .u8 0, .int .i64 0, .int .i64 0, .string ⟨#[]⟩], .int .i64 4]) (by simp [results, Try.results10, go_sem, q0, q1, q2, q3]) rfl ⟨rfl, hwz⟩

theorem sof_is (n u : Int) (w : World) :
    Calls Try.prog 10 #[.int .i64 n, .int .i64 u] w fun e w' => e = .returned (.tuple #[.agg #[.int .u8 (ofS n u).k, .int .i64 (ofS n u).n, .int .i64 (ofS n u).u, .string (ofS n u).t], .int .i64 (ofE n u)]) ∧ Below w.heap.size w w' := by
  unfold ofS ofE
  by_cases h : n < u
  · rw [decide_eq_true h]; exact sof_t n u h w
  · rw [decide_eq_false h]; exact sof_f n u (by omega) w

set_option maxRecDepth 100000 in
theorem rof_t (n u : Int) (h : n < u) (w : World) :
    Calls Try.prog 11 #[.int .i64 n, .int .i64 u] w fun e w' => e = .returned (.tuple #[.agg #[.int .u8 4, .int .i64 n, .int .i64 u, .string ⟨#[]⟩], .int .i64 0]) ∧ Below w.heap.size w w' := by
  obtain ⟨W, g, hW, hg, B0, hb0, hs⟩ := boxX w Val.zero
  have S0 := Soft.new w 0 0 0 ⟨#[]⟩ 23
  subst hg
  dsimp only [Val.zero] at hW B0
  rw [hW] at S0
  have HB := Lib.hid hb0
  have H0 := Lib.hid B0
  have HS0 := Lib.hid S0
  obtain ⟨b0, b1, b2, b3, b4⟩ := B0
  obtain ⟨c0, c1, c2, c3, c4⟩ := S0
  clear hb0 hs
  go_enter Try.func11, Try.ntmps11
  go_wp2_with fail
  have hwz := below_put4 HB.out (Nat.le_refl _) 4 n u ⟨#[]⟩
  obtain ⟨q0, q1, q2, q3, q4⟩ := boxed_put4 (H0.out : Boxed W w.heap.size 0 0 0 ⟨#[]⟩) 4 n u ⟨#[]⟩
  exact bodyPost_ret (w := put4 W w.heap.size 4 n u ⟨#[]⟩) (v := .tuple #[.agg #[.int .u8 4, .int .i64 n, .int .i64 u, .string ⟨#[]⟩], .int .i64 0]) (by simp [results, Try.results11, go_sem, q0, q1, q2, q3]) rfl ⟨rfl, hwz⟩

set_option maxRecDepth 100000 in
theorem rof_f (n u : Int) (h : u ≤ n) (w : World) :
    Calls Try.prog 11 #[.int .i64 n, .int .i64 u] w fun e w' => e = .returned (.tuple #[.agg #[.int .u8 0, .int .i64 0, .int .i64 0, .string ⟨#[]⟩], .int .i64 4]) ∧ Below w.heap.size w w' := by
  obtain ⟨W, g, hW, hg, B0, hb0, hs⟩ := boxX w Val.zero
  have S0 := Soft.new w 0 0 0 ⟨#[]⟩ 23
  subst hg
  dsimp only [Val.zero] at hW B0
  rw [hW] at S0
  have HB := Lib.hid hb0
  have H0 := Lib.hid B0
  have HS0 := Lib.hid S0
  obtain ⟨b0, b1, b2, b3, b4⟩ := B0
  obtain ⟨c0, c1, c2, c3, c4⟩ := S0
  clear hb0 hs
  go_enter Try.func11, Try.ntmps11
  go_wp2_with fail
  have hwz := below_put4 HB.out (Nat.le_refl _) 0 0 0 ⟨#[]⟩
  obtain ⟨q0, q1, q2, q3, q4⟩ := boxed_put4 (H0.out : Boxed W w.heap.size 0 0 0 ⟨#[]⟩) 0 0 0 ⟨#[]⟩
  exact bodyPost_ret (w := put4 W w.heap.size 0 0 0 ⟨#[]⟩) (v := .tuple #[.agg #[.int .u8 0, .int .i64 0, .int .i64 0, .string ⟨#[]⟩], .int .i64 4]) (by simp [results, Try.results11, go_sem, q0, q1, q2, q3]) rfl ⟨rfl, hwz⟩

theorem rof_is (n u : Int) (w : World) :
    Calls Try.prog 11 #[.int .i64 n, .int .i64 u] w fun e w' => e = .returned (.tuple #[.agg #[.int .u8 (ofS n u).k, .int .i64 (ofS n u).n, .int .i64 (ofS n u).u, .string (ofS n u).t], .int .i64 (ofE n u)]) ∧ Below w.heap.size w w' := by
  unfold ofS ofE
  by_cases h : n < u
  · rw [decide_eq_true h]; exact rof_t n u h w
  · rw [decide_eq_false h]; exact rof_f n u (by omega) w

theorem rhas_is (v : Val) (x : Int) (b : Bool) (h : hasS v x = b) (w : World) :
    Calls Try.prog 17 #[.agg #[.int .u8 v.k, .int .i64 v.n, .int .i64 v.u, .string v.t], .int .i64 x] w fun e w' => e = .returned (.bool b) ∧ Below w.heap.size w w' := by
  obtain ⟨W, g, hW, hg, B0, hb0, hs⟩ := boxX w v
  obtain ⟨c, hc⟩ : ∃ c, okS v = c := ⟨_, rfl⟩
  obtain ⟨c1, hc1⟩ : ∃ c, decide (v.n ≤ x) = c := ⟨_, rfl⟩
  obtain ⟨c2, hc2⟩ : ∃ c, decide (x < v.u) = c := ⟨_, rfl⟩
  unfold hasS at h
  rw [hc, hc1, hc2] at h
  subst h
  have HC := Lib.hid hc
  have HB := Lib.hid hb0
  obtain ⟨b0, b1, b2, b3, b4⟩ := id B0
  clear hc hs hb0
  cases c
  · go_enter Try.func17, Try.ntmps17
    go_wp2_with fail
    refine (refMay_is v _ HC.out _).mono ?_
    rintro e w1 ⟨rfl, hb1⟩
    go_wp2_with fail
    go_ret
    exact ⟨rfl, below_tr HB.out hb1⟩
  · go_enter Try.func17, Try.ntmps17
    go_wp2_with fail
    refine (refMay_is v _ HC.out _).mono ?_
    rintro e w1 ⟨rfl, hb1⟩
    obtain ⟨d0, d1, d2, d3, d4⟩ := B0.below hb1
    have hw1 := below_tr HB.out hb1
    clear b0 b1 b2 b3 b4 hb1
    cases c1
    · have e1 : ¬ v.n ≤ x := by simpa using hc1
      go_wp2_with fail
      go_ret
      exact ⟨rfl, hw1⟩
    · have e1 : v.n ≤ x := by simpa using hc1
      cases c2
      · have e2 : ¬ x < v.u := by simpa using hc2
        go_wp2_with fail
        go_ret
        exact ⟨rfl, hw1⟩
      · have e2 : x < v.u := by simpa using hc2
        go_wp2_with fail
        go_ret
        exact ⟨rfl, hw1⟩

set_option maxRecDepth 100000 in
set_option maxHeartbeats 1000000 in
theorem rcom_x (x y : Val) (hx : okS x = false) (w : World) :
    Calls Try.prog 13 #[.agg #[.int .u8 x.k, .int .i64 x.n, .int .i64 x.u, .string x.t], .agg #[.int .u8 y.k, .int .i64 y.n, .int .i64 y.u, .string y.t]] w fun e w' => e = .returned (.tuple #[.agg #[.int .u8 0, .int .i64 0, .int .i64 0, .string ⟨#[]⟩], .bool false]) ∧ Below w.heap.size w w' := by
  obtain ⟨W, g, hg, hW, B0, B1, B2, S2, hb0, hs⟩ := boxXX w x y
  have HG := Lib.hid hg
  have HB := Lib.hid hb0
  have H0 := Lib.hid B0
  have H1 := Lib.hid B1
  have H2 := Lib.hid B2
  have HS2 := Lib.hid S2
  have HX := Lib.hid hx
  clear hs hb0 B2 S2 hx B1
  obtain ⟨b0, b1, b2, b3, b4⟩ := B0
  go_enter Try.func13, Try.ntmps13
  go_wp2_with fail
  refine (refMay_is x _ HX.out _).mono ?_
  rintro e w2 ⟨rfl, hb2⟩
  have hw2 := below_tr HB.out hb2
  clear b0 b1 b2 b3 b4
  obtain ⟨r0, r1, r2, r3, r4⟩ := H2.out.below hb2
  obtain ⟨s0, s1, s2, s3, s4⟩ := HS2.out.below hb2
  go_wp2_with fail
  have hwz := below_put4 hw2 (by have := HG.out; omega : w.heap.size ≤ g + 2) 0 0 0 ⟨#[]⟩
  obtain ⟨q0, q1, q2, q3, q4⟩ := boxed_put4 (⟨r0, r1, r2, r3, r4⟩ : Boxed w2 (g + 2) 0 0 0 ⟨#[]⟩) 0 0 0 ⟨#[]⟩
  exact bodyPost_ret (w := put4 w2 (g + 2) 0 0 0 ⟨#[]⟩) (v := .tuple #[.agg #[.int .u8 0, .int .i64 0, .int .i64 0, .string ⟨#[]⟩], .bool false]) (by simp [results, Try.results13, go_sem, q0, q1, q2, q3]) rfl ⟨rfl, hwz⟩

set_option maxRecDepth 100000 in
set_option maxHeartbeats 1000000 in
theorem rcom_y (x y : Val) (hx : okS x = true ∧ okS y = false) (w : World) :
    Calls Try.prog 13 #[.agg #[.int .u8 x.k, .int .i64 x.n, .int .i64 x.u, .string x.t], .agg #[.int .u8 y.k, .int .i64 y.n, .int .i64 y.u, .string y.t]] w fun e w' => e = .returned (.tuple #[.agg #[.int .u8 0, .int .i64 0, .int .i64 0, .string ⟨#[]⟩], .bool false]) ∧ Below w.heap.size w w' := by
  obtain ⟨W, g, hg, hW, B0, B1, B2, S2, hb0, hs⟩ := boxXX w x y
  have HG := Lib.hid hg
  have HB := Lib.hid hb0
  have H0 := Lib.hid B0
  have H1 := Lib.hid B1
  have H2 := Lib.hid B2
  have HS2 := Lib.hid S2
  have HX := Lib.hid hx
  clear hs hb0 B2 S2 hx B1
  obtain ⟨b0, b1, b2, b3, b4⟩ := B0
  go_enter Try.func13, Try.ntmps13
  go_wp2_with fail
  refine (refMay_is x _ HX.out.1 _).mono ?_
  rintro e w2 ⟨rfl, hb2⟩
  obtain ⟨e0, e1, e2, e3, e4⟩ := H1.out.below hb2
  clear b0 b1 b2 b3 b4
  go_wp2_with fail
  refine (refMay_is y _ HX.out.2 _).mono ?_
  rintro e w3 ⟨rfl, hb3⟩
  have hw3 := below_tr hb2 hb3
  clear e0 e1 e2 e3 e4
  obtain ⟨r0, r1, r2, r3, r4⟩ := H2.out.below hw3
  obtain ⟨s0, s1, s2, s3, s4⟩ := HS2.out.below hw3
  go_wp2_with fail
  have hwz := below_put4 (below_tr HB.out hw3) (by have := HG.out; omega : w.heap.size ≤ g + 2) 0 0 0 ⟨#[]⟩
  obtain ⟨q0, q1, q2, q3, q4⟩ := boxed_put4 (⟨r0, r1, r2, r3, r4⟩ : Boxed w3 (g + 2) 0 0 0 ⟨#[]⟩) 0 0 0 ⟨#[]⟩
  exact bodyPost_ret (w := put4 w3 (g + 2) 0 0 0 ⟨#[]⟩) (v := .tuple #[.agg #[.int .u8 0, .int .i64 0, .int .i64 0, .string ⟨#[]⟩], .bool false]) (by simp [results, Try.results13, go_sem, q0, q1, q2, q3]) rfl ⟨rfl, hwz⟩

set_option maxRecDepth 100000 in
set_option maxHeartbeats 1000000 in
theorem rcom_t00 (x y : Val) (h1 : x.n < y.n) (h2 : y.u < x.u) (hx : okS x = true ∧ okS y = true ∧ y.n < y.u) (w : World) :
    Calls Try.prog 13 #[.agg #[.int .u8 x.k, .int .i64 x.n, .int .i64 x.u, .string x.t], .agg #[.int .u8 y.k, .int .i64 y.n, .int .i64 y.u, .string y.t]] w fun e w' => e = .returned (.tuple #[.agg #[.int .u8 4, .int .i64 (y.n), .int .i64 (y.u), .string ⟨#[]⟩], .bool true]) ∧ Below w.heap.size w w' := by
  obtain ⟨W, g, hg, hW, B0, B1, B2, S2, hb0, hs⟩ := boxXX w x y
  have HG := Lib.hid hg
  have HB := Lib.hid hb0
  have H0 := Lib.hid B0
  have H1 := Lib.hid B1
  have H2 := Lib.hid B2
  have HS2 := Lib.hid S2
  have HX := Lib.hid hx
  clear hs hb0 B2 S2 hx B1
  obtain ⟨b0, b1, b2, b3, b4⟩ := B0
  go_enter Try.func13, Try.ntmps13
  go_wp2_with fail
  refine (refMay_is x _ HX.out.1 _).mono ?_
  rintro e w2 ⟨rfl, hb2⟩
  obtain ⟨e0, e1, e2, e3, e4⟩ := H1.out.below hb2
  clear b0 b1 b2 b3 b4
  go_wp2_with fail
  refine (refMay_is y _ HX.out.2.1 _).mono ?_
  rintro e w3 ⟨rfl, hb3⟩
  have hw3 := below_tr hb2 hb3
  clear e0 e1 e2 e3 e4
  have K0 := H0.out.below hw3
  have K1 := H1.out.below hw3
  have K2 := H2.out.below hw3
  have KS := HS2.out.below hw3
  have KB := below_tr HB.out hw3
  have h0 := K0
  have h1' := K1
  obtain ⟨e0, e1, e2, e3, e4⟩ := h0
  obtain ⟨d0, d1, d2, d3, d4⟩ := h1'
  have HK2 := Lib.hid K2
  have HKS := Lib.hid KS
  have HKB := Lib.hid KB
  have HLT := Lib.hid HX.out.2.2
  clear K0 K1 K2 KS KB H0 H1 H2 HS2 HX hb2 hb3 hw3 HB hW
  go_wp2_with fail
  go_quiet (fail)
  go_wp2_with fail
  refine (rof_t (y.n) (y.u) HLT.out _).mono ?_
  rintro e w4 ⟨rfl, hb4⟩
  have hw4 := below_tr (drewN_below w3 nq) hb4
  obtain ⟨r0, r1, r2, r3, r4⟩ := HK2.out.below hw4
  obtain ⟨s0, s1, s2, s3, s4⟩ := HKS.out.below hw4
  clear e0 e1 e2 e3 e4 d0 d1 d2 d3 d4
  go_wp2_with fail
  have hw5 := below_put4 (below_tr HKB.out hw4) (by have := HG.out; omega : w.heap.size ≤ g + 2) 4 (y.n) (y.u) ⟨#[]⟩
  have hw6 := hw5.alloc hw5.size (.cells #[.int .u8 4, .int .i64 (y.n), .int .i64 (y.u), .string ⟨#[]⟩] 23)
  have K5 := (boxed_put4 (HK2.out.below hw4) 4 (y.n) (y.u) ⟨#[]⟩).below (Below.allocs _ (.cells #[.int .u8 4, .int .i64 (y.n), .int .i64 (y.u), .string ⟨#[]⟩] 23))
  obtain ⟨q0, q1, q2, q3, q4⟩ := K5
  exact bodyPost_ret (w := (put4 w4 (g + 2) 4 (y.n) (y.u) ⟨#[]⟩).alloc (.cells #[.int .u8 4, .int .i64 (y.n), .int .i64 (y.u), .string ⟨#[]⟩] 23)) (v := .tuple #[.agg #[.int .u8 4, .int .i64 (y.n), .int .i64 (y.u), .string ⟨#[]⟩], .bool true]) (by simp only [results, Try.results13]; simp [go_sem, q0, q1, q2, q3]) rfl ⟨rfl, hw6⟩

set_option maxRecDepth 100000 in
set_option maxHeartbeats 1000000 in
theorem rcom_n00 (x y : Val) (h1 : x.n < y.n) (h2 : y.u < x.u) (hx : okS x = true ∧ okS y = true ∧ y.u ≤ y.n) (w : World) :
    Calls Try.prog 13 #[.agg #[.int .u8 x.k, .int .i64 x.n, .int .i64 x.u, .string x.t], .agg #[.int .u8 y.k, .int .i64 y.n, .int .i64 y.u, .string y.t]] w fun e w' => e = .returned (.tuple #[.agg #[.int .u8 0, .int .i64 0, .int .i64 0, .string ⟨#[]⟩], .bool false]) ∧ Below w.heap.size w w' := by
  obtain ⟨W, g, hg, hW, B0, B1, B2, S2, hb0, hs⟩ := boxXX w x y
  have HG := Lib.hid hg
  have HB := Lib.hid hb0
  have H0 := Lib.hid B0
  have H1 := Lib.hid B1
  have H2 := Lib.hid B2
  have HS2 := Lib.hid S2
  have HX := Lib.hid hx
  clear hs hb0 B2 S2 hx B1
  obtain ⟨b0, b1, b2, b3, b4⟩ := B0
  go_enter Try.func13, Try.ntmps13
  go_wp2_with fail
  refine (refMay_is x _ HX.out.1 _).mono ?_
  rintro e w2 ⟨rfl, hb2⟩
  obtain ⟨e0, e1, e2, e3, e4⟩ := H1.out.below hb2
  clear b0 b1 b2 b3 b4
  go_wp2_with fail
  refine (refMay_is y _ HX.out.2.1 _).mono ?_
  rintro e w3 ⟨rfl, hb3⟩
  have hw3 := below_tr hb2 hb3
  clear e0 e1 e2 e3 e4
  have K0 := H0.out.below hw3
  have K1 := H1.out.below hw3
  have K2 := H2.out.below hw3
  have KS := HS2.out.below hw3
  have KB := below_tr HB.out hw3
  have h0 := K0
  have h1' := K1
  obtain ⟨e0, e1, e2, e3, e4⟩ := h0
  obtain ⟨d0, d1, d2, d3, d4⟩ := h1'
  have HK2 := Lib.hid K2
  have HKS := Lib.hid KS
  have HKB := Lib.hid KB
  have HLT := Lib.hid HX.out.2.2
  clear K0 K1 K2 KS KB H0 H1 H2 HS2 HX hb2 hb3 hw3 HB hW
  go_wp2_with fail
  go_quiet (fail)
  go_wp2_with fail
  refine (rof_f (y.n) (y.u) HLT.out _).mono ?_
  rintro e w4 ⟨rfl, hb4⟩
  have hw4 := below_tr (drewN_below w3 nq) hb4
  obtain ⟨r0, r1, r2, r3, r4⟩ := HK2.out.below hw4
  obtain ⟨s0, s1, s2, s3, s4⟩ := HKS.out.below hw4
  clear e0 e1 e2 e3 e4 d0 d1 d2 d3 d4
  go_wp2_with fail
  have hw5 := below_put4 (below_tr HKB.out hw4) (by have := HG.out; omega : w.heap.size ≤ g + 2) 0 0 0 ⟨#[]⟩
  have hw6 := hw5.alloc hw5.size (.cells #[.int .u8 0, .int .i64 0, .int .i64 0, .string ⟨#[]⟩] 23)
  have K5 := (boxed_put4 (HK2.out.below hw4) 0 0 0 ⟨#[]⟩).below (Below.allocs _ (.cells #[.int .u8 0, .int .i64 0, .int .i64 0, .string ⟨#[]⟩] 23))
  obtain ⟨q0, q1, q2, q3, q4⟩ := K5
  exact bodyPost_ret (w := (put4 w4 (g + 2) 0 0 0 ⟨#[]⟩).alloc (.cells #[.int .u8 0, .int .i64 0, .int .i64 0, .string ⟨#[]⟩] 23)) (v := .tuple #[.agg #[.int .u8 0, .int .i64 0, .int .i64 0, .string ⟨#[]⟩], .bool false]) (by simp only [results, Try.results13]; simp [go_sem, q0, q1, q2, q3]) rfl ⟨rfl, hw6⟩

set_option maxRecDepth 100000 in
set_option maxHeartbeats 1000000 in
theorem rcom_t01 (x y : Val) (h1 : x.n < y.n) (h2 : x.u ≤ y.u) (hx : okS x = true ∧ okS y = true ∧ y.n < x.u) (w : World) :
    Calls Try.prog 13 #[.agg #[.int .u8 x.k, .int .i64 x.n, .int .i64 x.u, .string x.t], .agg #[.int .u8 y.k, .int .i64 y.n, .int .i64 y.u, .string y.t]] w fun e w' => e = .returned (.tuple #[.agg #[.int .u8 4, .int .i64 (y.n), .int .i64 (x.u), .string ⟨#[]⟩], .bool true]) ∧ Below w.heap.size w w' := by
  obtain ⟨W, g, hg, hW, B0, B1, B2, S2, hb0, hs⟩ := boxXX w x y
  have HG := Lib.hid hg
  have HB := Lib.hid hb0
  have H0 := Lib.hid B0
  have H1 := Lib.hid B1
  have H2 := Lib.hid B2
  have HS2 := Lib.hid S2
  have HX := Lib.hid hx
  clear hs hb0 B2 S2 hx B1
  obtain ⟨b0, b1, b2, b3, b4⟩ := B0
  go_enter Try.func13, Try.ntmps13
  go_wp2_with fail
  refine (refMay_is x _ HX.out.1 _).mono ?_
  rintro e w2 ⟨rfl, hb2⟩
  obtain ⟨e0, e1, e2, e3, e4⟩ := H1.out.below hb2
  clear b0 b1 b2 b3 b4
  go_wp2_with fail
  refine (refMay_is y _ HX.out.2.1 _).mono ?_
  rintro e w3 ⟨rfl, hb3⟩
  have hw3 := below_tr hb2 hb3
  clear e0 e1 e2 e3 e4
  have K0 := H0.out.below hw3
  have K1 := H1.out.below hw3
  have K2 := H2.out.below hw3
  have KS := HS2.out.below hw3
  have KB := below_tr HB.out hw3
  have h0 := K0
  have h1' := K1
  obtain ⟨e0, e1, e2, e3, e4⟩ := h0
  obtain ⟨d0, d1, d2, d3, d4⟩ := h1'
  have HK2 := Lib.hid K2
  have HKS := Lib.hid KS
  have HKB := Lib.hid KB
  have HLT := Lib.hid HX.out.2.2
  clear K0 K1 K2 KS KB H0 H1 H2 HS2 HX hb2 hb3 hw3 HB hW
  go_wp2_with fail
  go_quiet (fail)
  go_wp2_with fail
  refine (rof_t (y.n) (x.u) HLT.out _).mono ?_
  rintro e w4 ⟨rfl, hb4⟩
  have hw4 := below_tr (drewN_below w3 nq) hb4
  obtain ⟨r0, r1, r2, r3, r4⟩ := HK2.out.below hw4
  obtain ⟨s0, s1, s2, s3, s4⟩ := HKS.out.below hw4
  clear e0 e1 e2 e3 e4 d0 d1 d2 d3 d4
  go_wp2_with fail
  have hw5 := below_put4 (below_tr HKB.out hw4) (by have := HG.out; omega : w.heap.size ≤ g + 2) 4 (y.n) (x.u) ⟨#[]⟩
  have hw6 := hw5.alloc hw5.size (.cells #[.int .u8 4, .int .i64 (y.n), .int .i64 (x.u), .string ⟨#[]⟩] 23)
  have K5 := (boxed_put4 (HK2.out.below hw4) 4 (y.n) (x.u) ⟨#[]⟩).below (Below.allocs _ (.cells #[.int .u8 4, .int .i64 (y.n), .int .i64 (x.u), .string ⟨#[]⟩] 23))
  obtain ⟨q0, q1, q2, q3, q4⟩ := K5
  exact bodyPost_ret (w := (put4 w4 (g + 2) 4 (y.n) (x.u) ⟨#[]⟩).alloc (.cells #[.int .u8 4, .int .i64 (y.n), .int .i64 (x.u), .string ⟨#[]⟩] 23)) (v := .tuple #[.agg #[.int .u8 4, .int .i64 (y.n), .int .i64 (x.u), .string ⟨#[]⟩], .bool true]) (by simp only [results, Try.results13]; simp [go_sem, q0, q1, q2, q3]) rfl ⟨rfl, hw6⟩

set_option maxRecDepth 100000 in
set_option maxHeartbeats 1000000 in
theorem rcom_n01 (x y : Val) (h1 : x.n < y.n) (h2 : x.u ≤ y.u) (hx : okS x = true ∧ okS y = true ∧ x.u ≤ y.n) (w : World) :
    Calls Try.prog 13 #[.agg #[.int .u8 x.k, .int .i64 x.n, .int .i64 x.u, .string x.t], .agg #[.int .u8 y.k, .int .i64 y.n, .int .i64 y.u, .string y.t]] w fun e w' => e = .returned (.tuple #[.agg #[.int .u8 0, .int .i64 0, .int .i64 0, .string ⟨#[]⟩], .bool false]) ∧ Below w.heap.size w w' := by
  obtain ⟨W, g, hg, hW, B0, B1, B2, S2, hb0, hs⟩ := boxXX w x y
  have HG := Lib.hid hg
  have HB := Lib.hid hb0
  have H0 := Lib.hid B0
  have H1 := Lib.hid B1
  have H2 := Lib.hid B2
  have HS2 := Lib.hid S2
  have HX := Lib.hid hx
  clear hs hb0 B2 S2 hx B1
  obtain ⟨b0, b1, b2, b3, b4⟩ := B0
  go_enter Try.func13, Try.ntmps13
  go_wp2_with fail
  refine (refMay_is x _ HX.out.1 _).mono ?_
  rintro e w2 ⟨rfl, hb2⟩
  obtain ⟨e0, e1, e2, e3, e4⟩ := H1.out.below hb2
  clear b0 b1 b2 b3 b4
  go_wp2_with fail
  refine (refMay_is y _ HX.out.2.1 _).mono ?_
  rintro e w3 ⟨rfl, hb3⟩
  have hw3 := below_tr hb2 hb3
  clear e0 e1 e2 e3 e4
  have K0 := H0.out.below hw3
  have K1 := H1.out.below hw3
  have K2 := H2.out.below hw3
  have KS := HS2.out.below hw3
  have KB := below_tr HB.out hw3
  have h0 := K0
  have h1' := K1
  obtain ⟨e0, e1, e2, e3, e4⟩ := h0
  obtain ⟨d0, d1, d2, d3, d4⟩ := h1'
  have HK2 := Lib.hid K2
  have HKS := Lib.hid KS
  have HKB := Lib.hid KB
  have HLT := Lib.hid HX.out.2.2
  clear K0 K1 K2 KS KB H0 H1 H2 HS2 HX hb2 hb3 hw3 HB hW
  go_wp2_with fail
  go_quiet (fail)
  go_wp2_with fail
  refine (rof_f (y.n) (x.u) HLT.out _).mono ?_
  rintro e w4 ⟨rfl, hb4⟩
  have hw4 := below_tr (drewN_below w3 nq) hb4
  obtain ⟨r0, r1, r2, r3, r4⟩ := HK2.out.below hw4
  obtain ⟨s0, s1, s2, s3, s4⟩ := HKS.out.below hw4
  clear e0 e1 e2 e3 e4 d0 d1 d2 d3 d4
  go_wp2_with fail
  have hw5 := below_put4 (below_tr HKB.out hw4) (by have := HG.out; omega : w.heap.size ≤ g + 2) 0 0 0 ⟨#[]⟩
  have hw6 := hw5.alloc hw5.size (.cells #[.int .u8 0, .int .i64 0, .int .i64 0, .string ⟨#[]⟩] 23)
  have K5 := (boxed_put4 (HK2.out.below hw4) 0 0 0 ⟨#[]⟩).below (Below.allocs _ (.cells #[.int .u8 0, .int .i64 0, .int .i64 0, .string ⟨#[]⟩] 23))
  obtain ⟨q0, q1, q2, q3, q4⟩ := K5
  exact bodyPost_ret (w := (put4 w4 (g + 2) 0 0 0 ⟨#[]⟩).alloc (.cells #[.int .u8 0, .int .i64 0, .int .i64 0, .string ⟨#[]⟩] 23)) (v := .tuple #[.agg #[.int .u8 0, .int .i64 0, .int .i64 0, .string ⟨#[]⟩], .bool false]) (by simp only [results, Try.results13]; simp [go_sem, q0, q1, q2, q3]) rfl ⟨rfl, hw6⟩

set_option maxRecDepth 100000 in
set_option maxHeartbeats 1000000 in
theorem rcom_t10 (x y : Val) (h1 : y.n ≤ x.n) (h2 : y.u < x.u) (hx : okS x = true ∧ okS y = true ∧ x.n < y.u) (w : World) :
    Calls Try.prog 13 #[.agg #[.int .u8 x.k, .int .i64 x.n, .int .i64 x.u, .string x.t], .agg #[.int .u8 y.k, .int .i64 y.n, .int .i64 y.u, .string y.t]] w fun e w' => e = .returned (.tuple #[.agg #[.int .u8 4, .int .i64 (x.n), .int .i64 (y.u), .string ⟨#[]⟩], .bool true]) ∧ Below w.heap.size w w' := by
  obtain ⟨W, g, hg, hW, B0, B1, B2, S2, hb0, hs⟩ := boxXX w x y
  have HG := Lib.hid hg
  have HB := Lib.hid hb0
  have H0 := Lib.hid B0
  have H1 := Lib.hid B1
  have H2 := Lib.hid B2
  have HS2 := Lib.hid S2
  have HX := Lib.hid hx
  clear hs hb0 B2 S2 hx B1
  obtain ⟨b0, b1, b2, b3, b4⟩ := B0
  go_enter Try.func13, Try.ntmps13
  go_wp2_with fail
  refine (refMay_is x _ HX.out.1 _).mono ?_
  rintro e w2 ⟨rfl, hb2⟩
  obtain ⟨e0, e1, e2, e3, e4⟩ := H1.out.below hb2
  clear b0 b1 b2 b3 b4
  go_wp2_with fail
  refine (refMay_is y _ HX.out.2.1 _).mono ?_
  rintro e w3 ⟨rfl, hb3⟩
  have hw3 := below_tr hb2 hb3
  clear e0 e1 e2 e3 e4
  have K0 := H0.out.below hw3
  have K1 := H1.out.below hw3
  have K2 := H2.out.below hw3
  have KS := HS2.out.below hw3
  have KB := below_tr HB.out hw3
  have h0 := K0
  have h1' := K1
  obtain ⟨e0, e1, e2, e3, e4⟩ := h0
  obtain ⟨d0, d1, d2, d3, d4⟩ := h1'
  have HK2 := Lib.hid K2
  have HKS := Lib.hid KS
  have HKB := Lib.hid KB
  have HLT := Lib.hid HX.out.2.2
  clear K0 K1 K2 KS KB H0 H1 H2 HS2 HX hb2 hb3 hw3 HB hW
  go_wp2_with fail
  go_quiet (fail)
  go_wp2_with fail
  refine (rof_t (x.n) (y.u) HLT.out _).mono ?_
  rintro e w4 ⟨rfl, hb4⟩
  have hw4 := below_tr (drewN_below w3 nq) hb4
  obtain ⟨r0, r1, r2, r3, r4⟩ := HK2.out.below hw4
  obtain ⟨s0, s1, s2, s3, s4⟩ := HKS.out.below hw4
  clear e0 e1 e2 e3 e4 d0 d1 d2 d3 d4
  go_wp2_with fail
  have hw5 := below_put4 (below_tr HKB.out hw4) (by have := HG.out; omega : w.heap.size ≤ g + 2) 4 (x.n) (y.u) ⟨#[]⟩
  have hw6 := hw5.alloc hw5.size (.cells #[.int .u8 4, .int .i64 (x.n), .int .i64 (y.u), .string ⟨#[]⟩] 23)
  have K5 := (boxed_put4 (HK2.out.below hw4) 4 (x.n) (y.u) ⟨#[]⟩).below (Below.allocs _ (.cells #[.int .u8 4, .int .i64 (x.n), .int .i64 (y.u), .string ⟨#[]⟩] 23))
  obtain ⟨q0, q1, q2, q3, q4⟩ := K5
  exact bodyPost_ret (w := (put4 w4 (g + 2) 4 (x.n) (y.u) ⟨#[]⟩).alloc (.cells #[.int .u8 4, .int .i64 (x.n), .int .i64 (y.u), .string ⟨#[]⟩] 23)) (v := .tuple #[.agg #[.int .u8 4, .int .i64 (x.n), .int .i64 (y.u), .string ⟨#[]⟩], .bool true]) (by simp only [results, Try.results13]; simp [go_sem, q0, q1, q2, q3]) rfl ⟨rfl, hw6⟩

set_option maxRecDepth 100000 in
set_option maxHeartbeats 1000000 in
theorem rcom_n10 (x y : Val) (h1 : y.n ≤ x.n) (h2 : y.u < x.u) (hx : okS x = true ∧ okS y = true ∧ y.u ≤ x.n) (w : World) :
    Calls Try.prog 13 #[.agg #[.int .u8 x.k, .int .i64 x.n, .int .i64 x.u, .string x.t], .agg #[.int .u8 y.k, .int .i64 y.n, .int .i64 y.u, .string y.t]] w fun e w' => e = .returned (.tuple #[.agg #[.int .u8 0, .int .i64 0, .int .i64 0, .string ⟨#[]⟩], .bool false]) ∧ Below w.heap.size w w' := by
  obtain ⟨W, g, hg, hW, B0, B1, B2, S2, hb0, hs⟩ := boxXX w x y
  have HG := Lib.hid hg
  have HB := Lib.hid hb0
  have H0 := Lib.hid B0
  have H1 := Lib.hid B1
  have H2 := Lib.hid B2
  have HS2 := Lib.hid S2
  have HX := Lib.hid hx
  clear hs hb0 B2 S2 hx B1
  obtain ⟨b0, b1, b2, b3, b4⟩ := B0
  go_enter Try.func13, Try.ntmps13
  go_wp2_with fail
  refine (refMay_is x _ HX.out.1 _).mono ?_
  rintro e w2 ⟨rfl, hb2⟩
  obtain ⟨e0, e1, e2, e3, e4⟩ := H1.out.below hb2
  clear b0 b1 b2 b3 b4
  go_wp2_with fail
  refine (refMay_is y _ HX.out.2.1 _).mono ?_
  rintro e w3 ⟨rfl, hb3⟩
  have hw3 := below_tr hb2 hb3
  clear e0 e1 e2 e3 e4
  have K0 := H0.out.below hw3
  have K1 := H1.out.below hw3
  have K2 := H2.out.below hw3
  have KS := HS2.out.below hw3
  have KB := below_tr HB.out hw3
  have h0 := K0
  have h1' := K1
  obtain ⟨e0, e1, e2, e3, e4⟩ := h0
  obtain ⟨d0, d1, d2, d3, d4⟩ := h1'
  have HK2 := Lib.hid K2
  have HKS := Lib.hid KS
  have HKB := Lib.hid KB
  have HLT := Lib.hid HX.out.2.2
  clear K0 K1 K2 KS KB H0 H1 H2 HS2 HX hb2 hb3 hw3 HB hW
  go_wp2_with fail
  go_quiet (fail)
  go_wp2_with fail
  refine (rof_f (x.n) (y.u) HLT.out _).mono ?_
  rintro e w4 ⟨rfl, hb4⟩
  have hw4 := below_tr (drewN_below w3 nq) hb4
  obtain ⟨r0, r1, r2, r3, r4⟩ := HK2.out.below hw4
  obtain ⟨s0, s1, s2, s3, s4⟩ := HKS.out.below hw4
  clear e0 e1 e2 e3 e4 d0 d1 d2 d3 d4
  go_wp2_with fail
  have hw5 := below_put4 (below_tr HKB.out hw4) (by have := HG.out; omega : w.heap.size ≤ g + 2) 0 0 0 ⟨#[]⟩
  have hw6 := hw5.alloc hw5.size (.cells #[.int .u8 0, .int .i64 0, .int .i64 0, .string ⟨#[]⟩] 23)
  have K5 := (boxed_put4 (HK2.out.below hw4) 0 0 0 ⟨#[]⟩).below (Below.allocs _ (.cells #[.int .u8 0, .int .i64 0, .int .i64 0, .string ⟨#[]⟩] 23))
  obtain ⟨q0, q1, q2, q3, q4⟩ := K5
  exact bodyPost_ret (w := (put4 w4 (g + 2) 0 0 0 ⟨#[]⟩).alloc (.cells #[.int .u8 0, .int .i64 0, .int .i64 0, .string ⟨#[]⟩] 23)) (v := .tuple #[.agg #[.int .u8 0, .int .i64 0, .int .i64 0, .string ⟨#[]⟩], .bool false]) (by simp only [results, Try.results13]; simp [go_sem, q0, q1, q2, q3]) rfl ⟨rfl, hw6⟩

set_option maxRecDepth 100000 in
set_option maxHeartbeats 1000000 in
theorem rcom_t11 (x y : Val) (h1 : y.n ≤ x.n) (h2 : x.u ≤ y.u) (hx : okS x = true ∧ okS y = true ∧ x.n < x.u) (w : World) :
    Calls Try.prog 13 #[.agg #[.int .u8 x.k, .int .i64 x.n, .int .i64 x.u, .string x.t], .agg #[.int .u8 y.k, .int .i64 y.n, .int .i64 y.u, .string y.t]] w fun e w' => e = .returned (.tuple #[.agg #[.int .u8 4, .int .i64 (x.n), .int .i64 (x.u), .string ⟨#[]⟩], .bool true]) ∧ Below w.heap.size w w' := by
  obtain ⟨W, g, hg, hW, B0, B1, B2, S2, hb0, hs⟩ := boxXX w x y
  have HG := Lib.hid hg
  have HB := Lib.hid hb0
  have H0 := Lib.hid B0
  have H1 := Lib.hid B1
  have H2 := Lib.hid B2
  have HS2 := Lib.hid S2
  have HX := Lib.hid hx
  clear hs hb0 B2 S2 hx B1
  obtain ⟨b0, b1, b2, b3, b4⟩ := B0
  go_enter Try.func13, Try.ntmps13
  go_wp2_with fail
  refine (refMay_is x _ HX.out.1 _).mono ?_
  rintro e w2 ⟨rfl, hb2⟩
  obtain ⟨e0, e1, e2, e3, e4⟩ := H1.out.below hb2
  clear b0 b1 b2 b3 b4
  go_wp2_with fail
  refine (refMay_is y _ HX.out.2.1 _).mono ?_
  rintro e w3 ⟨rfl, hb3⟩
  have hw3 := below_tr hb2 hb3
  clear e0 e1 e2 e3 e4
  have K0 := H0.out.below hw3
  have K1 := H1.out.below hw3
  have K2 := H2.out.below hw3
  have KS := HS2.out.below hw3
  have KB := below_tr HB.out hw3
  have h0 := K0
  have h1' := K1
  obtain ⟨e0, e1, e2, e3, e4⟩ := h0
  obtain ⟨d0, d1, d2, d3, d4⟩ := h1'
  have HK2 := Lib.hid K2
  have HKS := Lib.hid KS
  have HKB := Lib.hid KB
  have HLT := Lib.hid HX.out.2.2
  clear K0 K1 K2 KS KB H0 H1 H2 HS2 HX hb2 hb3 hw3 HB hW
  go_wp2_with fail
  go_quiet (fail)
  go_wp2_with fail
  refine (rof_t (x.n) (x.u) HLT.out _).mono ?_
  rintro e w4 ⟨rfl, hb4⟩
  have hw4 := below_tr (drewN_below w3 nq) hb4
  obtain ⟨r0, r1, r2, r3, r4⟩ := HK2.out.below hw4
  obtain ⟨s0, s1, s2, s3, s4⟩ := HKS.out.below hw4
  clear e0 e1 e2 e3 e4 d0 d1 d2 d3 d4
  go_wp2_with fail
  have hw5 := below_put4 (below_tr HKB.out hw4) (by have := HG.out; omega : w.heap.size ≤ g + 2) 4 (x.n) (x.u) ⟨#[]⟩
  have hw6 := hw5.alloc hw5.size (.cells #[.int .u8 4, .int .i64 (x.n), .int .i64 (x.u), .string ⟨#[]⟩] 23)
  have K5 := (boxed_put4 (HK2.out.below hw4) 4 (x.n) (x.u) ⟨#[]⟩).below (Below.allocs _ (.cells #[.int .u8 4, .int .i64 (x.n), .int .i64 (x.u), .string ⟨#[]⟩] 23))
  obtain ⟨q0, q1, q2, q3, q4⟩ := K5
  exact bodyPost_ret (w := (put4 w4 (g + 2) 4 (x.n) (x.u) ⟨#[]⟩).alloc (.cells #[.int .u8 4, .int .i64 (x.n), .int .i64 (x.u), .string ⟨#[]⟩] 23)) (v := .tuple #[.agg #[.int .u8 4, .int .i64 (x.n), .int .i64 (x.u), .string ⟨#[]⟩], .bool true]) (by simp only [results, Try.results13]; simp [go_sem, q0, q1, q2, q3]) rfl ⟨rfl, hw6⟩

set_option maxRecDepth 100000 in
set_option maxHeartbeats 1000000 in
theorem rcom_n11 (x y : Val) (h1 : y.n ≤ x.n) (h2 : x.u ≤ y.u) (hx : okS x = true ∧ okS y = true ∧ x.u ≤ x.n) (w : World) :
    Calls Try.prog 13 #[.agg #[.int .u8 x.k, .int .i64 x.n, .int .i64 x.u, .string x.t], .agg #[.int .u8 y.k, .int .i64 y.n, .int .i64 y.u, .string y.t]] w fun e w' => e = .returned (.tuple #[.agg #[.int .u8 0, .int .i64 0, .int .i64 0, .string ⟨#[]⟩], .bool false]) ∧ Below w.heap.size w w' := by
  obtain ⟨W, g, hg, hW, B0, B1, B2, S2, hb0, hs⟩ := boxXX w x y
  have HG := Lib.hid hg
  have HB := Lib.hid hb0
  have H0 := Lib.hid B0
  have H1 := Lib.hid B1
  have H2 := Lib.hid B2
  have HS2 := Lib.hid S2
  have HX := Lib.hid hx
  clear hs hb0 B2 S2 hx B1
  obtain ⟨b0, b1, b2, b3, b4⟩ := B0
  go_enter Try.func13, Try.ntmps13
  go_wp2_with fail
  refine (refMay_is x _ HX.out.1 _).mono ?_
  rintro e w2 ⟨rfl, hb2⟩
  obtain ⟨e0, e1, e2, e3, e4⟩ := H1.out.below hb2
  clear b0 b1 b2 b3 b4
  go_wp2_with fail
  refine (refMay_is y _ HX.out.2.1 _).mono ?_
  rintro e w3 ⟨rfl, hb3⟩
  have hw3 := below_tr hb2 hb3
  clear e0 e1 e2 e3 e4
  have K0 := H0.out.below hw3
  have K1 := H1.out.below hw3
  have K2 := H2.out.below hw3
  have KS := HS2.out.below hw3
  have KB := below_tr HB.out hw3
  have h0 := K0
  have h1' := K1
  obtain ⟨e0, e1, e2, e3, e4⟩ := h0
  obtain ⟨d0, d1, d2, d3, d4⟩ := h1'
  have HK2 := Lib.hid K2
  have HKS := Lib.hid KS
  have HKB := Lib.hid KB
  have HLT := Lib.hid HX.out.2.2
  clear K0 K1 K2 KS KB H0 H1 H2 HS2 HX hb2 hb3 hw3 HB hW
  go_wp2_with fail
  go_quiet (fail)
  go_wp2_with fail
  refine (rof_f (x.n) (x.u) HLT.out _).mono ?_
  rintro e w4 ⟨rfl, hb4⟩
  have hw4 := below_tr (drewN_below w3 nq) hb4
  obtain ⟨r0, r1, r2, r3, r4⟩ := HK2.out.below hw4
  obtain ⟨s0, s1, s2, s3, s4⟩ := HKS.out.below hw4
  clear e0 e1 e2 e3 e4 d0 d1 d2 d3 d4
  go_wp2_with fail
  have hw5 := below_put4 (below_tr HKB.out hw4) (by have := HG.out; omega : w.heap.size ≤ g + 2) 0 0 0 ⟨#[]⟩
  have hw6 := hw5.alloc hw5.size (.cells #[.int .u8 0, .int .i64 0, .int .i64 0, .string ⟨#[]⟩] 23)
  have K5 := (boxed_put4 (HK2.out.below hw4) 0 0 0 ⟨#[]⟩).below (Below.allocs _ (.cells #[.int .u8 0, .int .i64 0, .int .i64 0, .string ⟨#[]⟩] 23))
  obtain ⟨q0, q1, q2, q3, q4⟩ := K5
  exact bodyPost_ret (w := (put4 w4 (g + 2) 0 0 0 ⟨#[]⟩).alloc (.cells #[.int .u8 0, .int .i64 0, .int .i64 0, .string ⟨#[]⟩] 23)) (v := .tuple #[.agg #[.int .u8 0, .int .i64 0, .int .i64 0, .string ⟨#[]⟩], .bool false]) (by simp only [results, Try.results13]; simp [go_sem, q0, q1, q2, q3]) rfl ⟨rfl, hw6⟩

theorem rcom_is (x y : Val) (w : World) :
    Calls Try.prog 13 #[.agg #[.int .u8 x.k, .int .i64 x.n, .int .i64 x.u, .string x.t], .agg #[.int .u8 y.k, .int .i64 y.n, .int .i64 y.u, .string y.t]] w fun e w' => e = .returned (.tuple #[.agg #[.int .u8 (comS x y).k, .int .i64 (comS x y).n, .int .i64 (comS x y).u, .string (comS x y).t], .bool (meetS x y)]) ∧ Below w.heap.size w w' := by
  cases ox : okS x
  · have hm : meetS x y = false := by simp [meetS, ox]
    rw [comS_no hm, hm]
    exact rcom_x x y ox w
  cases oy : okS y
  · have hm : meetS x y = false := by simp [meetS, oy]
    rw [comS_no hm, hm]
    exact rcom_y x y ⟨ox, oy⟩ w
  have hm : meetS x y = decide (max x.n y.n < min x.u y.u) := by simp [meetS, ox, oy]
  by_cases om : max x.n y.n < min x.u y.u
  · rw [decide_eq_true om] at hm
    have hc : comS x y = spanV (max x.n y.n) (min x.u y.u) := by unfold comS; rw [hm]; rfl
    rw [hc, hm]
    rcases Int.lt_or_le x.n y.n with h1 | h1 <;> rcases Int.lt_or_le y.u x.u with h2 | h2
    · rw [Int.max_eq_right (by omega), Int.min_eq_right (by omega)] at om ⊢
      exact rcom_t00 x y h1 h2 ⟨ox, oy, om⟩ w
    · rw [Int.max_eq_right (by omega), Int.min_eq_left (by omega)] at om ⊢
      exact rcom_t01 x y h1 h2 ⟨ox, oy, om⟩ w
    · rw [Int.max_eq_left (by omega), Int.min_eq_right (by omega)] at om ⊢
      exact rcom_t10 x y h1 h2 ⟨ox, oy, om⟩ w
    · rw [Int.max_eq_left (by omega), Int.min_eq_left (by omega)] at om ⊢
      exact rcom_t11 x y h1 h2 ⟨ox, oy, om⟩ w
  · rw [decide_eq_false om] at hm
    rw [comS_no hm, hm]
    rcases Int.lt_or_le x.n y.n with h1 | h1 <;> rcases Int.lt_or_le y.u x.u with h2 | h2
    · exact rcom_n00 x y h1 h2 ⟨ox, oy, by omega⟩ w
    · exact rcom_n01 x y h1 h2 ⟨ox, oy, by omega⟩ w
    · exact rcom_n10 x y h1 h2 ⟨ox, oy, by omega⟩ w
    · exact rcom_n11 x y h1 h2 ⟨ox, oy, by omega⟩ w

set_option maxRecDepth 100000 in
theorem rmeets_is (x y : Val) (b : Bool) (h : meetS x y = b) (w : World) :
    Calls Try.prog 19 #[.agg #[.int .u8 x.k, .int .i64 x.n, .int .i64 x.u, .string x.t], .agg #[.int .u8 y.k, .int .i64 y.n, .int .i64 y.u, .string y.t]] w fun e w' => e = .returned (.bool b) ∧ Below w.heap.size w w' := by
  subst h
  obtain ⟨W0, g0, hW0, hg0, A0, ha0, hs0⟩ := boxX w x
  obtain ⟨W, g, hW, hg, B0, hb0, hs⟩ := boxX W0 y
  have hcon := fun w => rcom_is x y w
  obtain ⟨c, hc⟩ : ∃ c, comS x y = c := ⟨_, rfl⟩
  rw [hc] at hcon
  have HC := Lib.hid hcon
  have HB := Lib.hid (below_tr ha0 hb0)
  obtain ⟨a0, a1, a2, a3, a4⟩ := A0.below hb0
  obtain ⟨b0, b1, b2, b3, b4⟩ := B0
  clear hs0 hs hcon hc ha0 hb0 A0
  go_enter Try.func19, Try.ntmps19
  go_wp2_with fail
  refine (HC.out _).mono ?_
  rintro e w1 ⟨rfl, hb1⟩
  go_wp2_with fail
  go_ret
  exact ⟨rfl, (below_tr HB.out hb1).alloc (below_tr HB.out hb1).size _⟩

end Go.Proofs.Ytnifpphimodonaa
