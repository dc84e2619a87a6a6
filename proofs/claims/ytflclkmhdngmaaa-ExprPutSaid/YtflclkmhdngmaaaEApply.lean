/-
  expr.meet and expr.apply: the result of an operation, from the results of its Args.
-/
import Derived.Test.YtflclkmhdngmaaaQCmp
import Derived.Test.YtflclkmhdngmaaaEBase
namespace Go.Proofs.Ytflclkmhdngmaaa
open Go.RowKit

def meetB (n u n' u' : Int) : Bool := decide (max n n' < min u u')
def meetR (x y : Val) : Res := cond (nullB x.k || nullB y.k) ⟨0, 0, 0⟩ (cond (decide (x.k = 4) && decide (y.k = 4)) ⟨2, ofN (meetB x.n x.u y.n y.u), 0⟩ ⟨0, 0, 60⟩)

/-- What comes of an operation. -/
def appR (op : Int) (x y : Val) : Res :=
  if op = 3 then calcR 1 x.k (0 - x.n) else if op = 4 then notR x.k x.n else if op = 5 then ⟨2, ofN (nullB x.k), 0⟩
  else if op = 6 then calcR x.k y.k (x.n + y.n) else if op = 7 then calcR x.k y.k (x.n - y.n) else if op = 8 then calcR x.k y.k (x.n * y.n)
  else if op = 9 then equalR x.k x.n x.u x.t y.k y.n y.u y.t else if op = 10 then lessR x.k x.n x.u x.t y.k y.n y.u y.t
  else if op = 11 then connectR x.k x.n y.k y.n false else if op = 12 then connectR x.k x.n y.k y.n true else meetR x y

/-- The world in which apply stands: both Args in one block, the result's block behind it. -/
theorem boxes8 (w : World) (x y : Val) : ∃ W g, w.heap.size = g ∧ (w.alloc (.cells #[.int .u8 x.k, .int .i64 x.n, .int .i64 x.u, .string x.t, .int .u8 y.k, .int .i64 y.n, .int .i64 y.u, .string y.t] 85)).alloc (.cells #[.int .u8 0, .int .i64 0, .int .i64 0, .string ⟨#[]⟩] 23) = W ∧
    Two W g x.k x.n x.u x.t y.k y.n y.u y.t ∧ Boxed W (g + 1) 0 0 0 ⟨#[]⟩ ∧ Soft W (g + 1) ∧ Below w.heap.size w W ∧ g ≤ W.heap.size := by
  refine ⟨_, _, rfl, rfl, (Two.new w _ _ _ _ _ _ _ _ _).below (Below.allocs _ _), ?_, ?_, ((Below.refl _ _).alloc (Nat.le_refl _) _).alloc (by simp) _, by simp; omega⟩
  · have := Boxed.new (w.alloc (.cells #[.int .u8 x.k, .int .i64 x.n, .int .i64 x.u, .string x.t, .int .u8 y.k, .int .i64 y.n, .int .i64 y.u, .string y.t] 85)) 0 0 0 ⟨#[]⟩ 23
    rw [show (w.alloc (.cells #[.int .u8 x.k, .int .i64 x.n, .int .i64 x.u, .string x.t, .int .u8 y.k, .int .i64 y.n, .int .i64 y.u, .string y.t] 85)).heap.size = w.heap.size + 1 by simp] at this
    exact this
  · have := Soft.new (w.alloc (.cells #[.int .u8 x.k, .int .i64 x.n, .int .i64 x.u, .string x.t, .int .u8 y.k, .int .i64 y.n, .int .i64 y.u, .string y.t] 85)) 0 0 0 ⟨#[]⟩ 23
    rw [show (w.alloc (.cells #[.int .u8 x.k, .int .i64 x.n, .int .i64 x.u, .string x.t, .int .u8 y.k, .int .i64 y.n, .int .i64 y.u, .string y.t] 85)).heap.size = w.heap.size + 1 by simp] at this
    exact this

theorem boxesXY (w : World) (x y : Val) : ∃ W g, w.heap.size = g ∧ ((w.alloc (.cells #[.int .u8 x.k, .int .i64 x.n, .int .i64 x.u, .string x.t] 23)).alloc (.cells #[.int .u8 y.k, .int .i64 y.n, .int .i64 y.u, .string y.t] 23)).alloc (.cells #[.int .u8 0, .int .i64 0, .int .i64 0, .string ⟨#[]⟩] 23) = W ∧
    Boxed W g x.k x.n x.u x.t ∧ Boxed W (g + 1) y.k y.n y.u y.t ∧ Boxed W (g + 1 + 1) 0 0 0 ⟨#[]⟩ ∧ Soft W (g + 1 + 1) ∧ Below w.heap.size w W ∧ g ≤ W.heap.size := by
  obtain ⟨W, hW, a, b, c, d, e, f⟩ := boxes3 w x.k x.n x.u x.t y.k y.n y.u y.t
  exact ⟨W, _, rfl, hW.symm, a, b, c, d, e, by omega⟩

set_option maxRecDepth 100000 in
set_option maxHeartbeats 2000000 in
theorem meet_z1 (x y : Val) (h : x.k = 0) (w : World) :
    Calls Try.prog 65 #[.agg #[.int .u8 x.k, .int .i64 x.n, .int .i64 x.u, .string x.t], .agg #[.int .u8 y.k, .int .i64 y.n, .int .i64 y.u, .string y.t]] w fun e w' => e = .returned (.tuple #[.agg #[.int .u8 0, .int .i64 0, .int .i64 0, .string ⟨#[]⟩], .int .i64 0]) ∧ Below w.heap.size w w' := by
  have h1 : (x.k == 0) = true := by simpa using h
  clear h
  obtain ⟨W, g, hg, hW, A0, B0, R0, S0, hb0, hle⟩ := boxesXY w x y
  obtain ⟨a0, a1, a2, a3, a4⟩ := A0
  obtain ⟨b0, b1, b2, b3, b4⟩ := B0
  have HR0 := Lib.hid R0
  have HB0 := Lib.hid hb0
  have HG := Lib.hid hg
  obtain ⟨r0, r1, r2, r3, r4⟩ := R0
  obtain ⟨s0, s1, s2, s3, s4⟩ := S0
  clear hb0 hle
  go_enter Try.func65, Try.ntmps65
  go_wp2_with fail
  have hwz := below_put4 HB0.out (by have := HG.out; omega : w.heap.size ≤ g + 1 + 1) 0 0 0 ⟨#[]⟩
  obtain ⟨q0, q1, q2, q3, q4⟩ := boxed_put4 HR0.out 0 0 0 ⟨#[]⟩
  exact bodyPost_ret (w := put4 W (g + 1 + 1) 0 0 0 ⟨#[]⟩) (v := .tuple #[.agg #[.int .u8 0, .int .i64 0, .int .i64 0, .string ⟨#[]⟩], .int .i64 0]) (by simp [results, Try.results65, go_sem, q0, q1, q2, q3]) rfl ⟨rfl, hwz⟩

set_option maxRecDepth 100000 in
set_option maxHeartbeats 2000000 in
theorem meet_z2 (x y : Val) (h0 : x.k ≠ 0) (h : y.k = 0) (w : World) :
    Calls Try.prog 65 #[.agg #[.int .u8 x.k, .int .i64 x.n, .int .i64 x.u, .string x.t], .agg #[.int .u8 y.k, .int .i64 y.n, .int .i64 y.u, .string y.t]] w fun e w' => e = .returned (.tuple #[.agg #[.int .u8 0, .int .i64 0, .int .i64 0, .string ⟨#[]⟩], .int .i64 0]) ∧ Below w.heap.size w w' := by
  have h1 : (x.k == 0) = false := by simpa using h0
  have h2 : (y.k == 0) = true := by simpa using h
  clear h h0
  obtain ⟨W, g, hg, hW, A0, B0, R0, S0, hb0, hle⟩ := boxesXY w x y
  obtain ⟨a0, a1, a2, a3, a4⟩ := A0
  obtain ⟨b0, b1, b2, b3, b4⟩ := B0
  have HR0 := Lib.hid R0
  have HB0 := Lib.hid hb0
  have HG := Lib.hid hg
  obtain ⟨r0, r1, r2, r3, r4⟩ := R0
  obtain ⟨s0, s1, s2, s3, s4⟩ := S0
  clear hb0 hle
  go_enter Try.func65, Try.ntmps65
  go_wp2_with fail
  have hwz := below_put4 HB0.out (by have := HG.out; omega : w.heap.size ≤ g + 1 + 1) 0 0 0 ⟨#[]⟩
  obtain ⟨q0, q1, q2, q3, q4⟩ := boxed_put4 HR0.out 0 0 0 ⟨#[]⟩
  exact bodyPost_ret (w := put4 W (g + 1 + 1) 0 0 0 ⟨#[]⟩) (v := .tuple #[.agg #[.int .u8 0, .int .i64 0, .int .i64 0, .string ⟨#[]⟩], .int .i64 0]) (by simp [results, Try.results65, go_sem, q0, q1, q2, q3]) rfl ⟨rfl, hwz⟩

set_option maxRecDepth 100000 in
set_option maxHeartbeats 2000000 in
theorem meet_t1 (x y : Val) (h0 : x.k ≠ 0) (h1 : y.k ≠ 0) (h : x.k ≠ 4) (w : World) :
    Calls Try.prog 65 #[.agg #[.int .u8 x.k, .int .i64 x.n, .int .i64 x.u, .string x.t], .agg #[.int .u8 y.k, .int .i64 y.n, .int .i64 y.u, .string y.t]] w fun e w' => e = .returned (.tuple #[.agg #[.int .u8 0, .int .i64 0, .int .i64 0, .string ⟨#[]⟩], .int .i64 60]) ∧ Below w.heap.size w w' := by
  have h3 : (x.k == 0) = false := by simpa using h0
  have h2 : (y.k == 0) = false := by simpa using h1
  have h4 : (x.k != 4) = true := by simpa using h
  clear h h0 h1
  obtain ⟨W, g, hg, hW, A0, B0, R0, S0, hb0, hle⟩ := boxesXY w x y
  obtain ⟨a0, a1, a2, a3, a4⟩ := A0
  obtain ⟨b0, b1, b2, b3, b4⟩ := B0
  have HR0 := Lib.hid R0
  have HB0 := Lib.hid hb0
  have HG := Lib.hid hg
  obtain ⟨r0, r1, r2, r3, r4⟩ := R0
  obtain ⟨s0, s1, s2, s3, s4⟩ := S0
  clear hb0 hle
  go_enter Try.func65, Try.ntmps65
  go_wp2_with fail
  have hwz := below_put4 HB0.out (by have := HG.out; omega : w.heap.size ≤ g + 1 + 1) 0 0 0 ⟨#[]⟩
  obtain ⟨q0, q1, q2, q3, q4⟩ := boxed_put4 HR0.out 0 0 0 ⟨#[]⟩
  exact bodyPost_ret (w := put4 W (g + 1 + 1) 0 0 0 ⟨#[]⟩) (v := .tuple #[.agg #[.int .u8 0, .int .i64 0, .int .i64 0, .string ⟨#[]⟩], .int .i64 60]) (by simp [results, Try.results65, go_sem, q0, q1, q2, q3]) rfl ⟨rfl, hwz⟩

set_option maxRecDepth 100000 in
set_option maxHeartbeats 2000000 in
theorem meet_t2 (x y : Val) (h0 : x.k = 4) (h1 : y.k ≠ 0) (h : y.k ≠ 4) (w : World) :
    Calls Try.prog 65 #[.agg #[.int .u8 x.k, .int .i64 x.n, .int .i64 x.u, .string x.t], .agg #[.int .u8 y.k, .int .i64 y.n, .int .i64 y.u, .string y.t]] w fun e w' => e = .returned (.tuple #[.agg #[.int .u8 0, .int .i64 0, .int .i64 0, .string ⟨#[]⟩], .int .i64 60]) ∧ Below w.heap.size w w' := by
  have h3 : (x.k == 0) = false := by rw [h0]; rfl
  have h2 : (y.k == 0) = false := by simpa using h1
  have h4 : (x.k != 4) = false := by rw [h0]; rfl
  have h5 : (y.k != 4) = true := by simpa using h
  clear h h0 h1
  obtain ⟨W, g, hg, hW, A0, B0, R0, S0, hb0, hle⟩ := boxesXY w x y
  obtain ⟨a0, a1, a2, a3, a4⟩ := A0
  obtain ⟨b0, b1, b2, b3, b4⟩ := B0
  have HR0 := Lib.hid R0
  have HB0 := Lib.hid hb0
  have HG := Lib.hid hg
  obtain ⟨r0, r1, r2, r3, r4⟩ := R0
  obtain ⟨s0, s1, s2, s3, s4⟩ := S0
  clear hb0 hle
  go_enter Try.func65, Try.ntmps65
  go_wp2_with fail
  have hwz := below_put4 HB0.out (by have := HG.out; omega : w.heap.size ≤ g + 1 + 1) 0 0 0 ⟨#[]⟩
  obtain ⟨q0, q1, q2, q3, q4⟩ := boxed_put4 HR0.out 0 0 0 ⟨#[]⟩
  exact bodyPost_ret (w := put4 W (g + 1 + 1) 0 0 0 ⟨#[]⟩) (v := .tuple #[.agg #[.int .u8 0, .int .i64 0, .int .i64 0, .string ⟨#[]⟩], .int .i64 60]) (by simp [results, Try.results65, go_sem, q0, q1, q2, q3]) rfl ⟨rfl, hwz⟩

set_option maxRecDepth 100000 in
set_option maxHeartbeats 2000000 in
theorem meet_yes (x y : Val) (h0 : x.k = 4) (h1 : y.k = 4) (w : World) :
    Calls Try.prog 65 #[.agg #[.int .u8 x.k, .int .i64 x.n, .int .i64 x.u, .string x.t], .agg #[.int .u8 y.k, .int .i64 y.n, .int .i64 y.u, .string y.t]] w fun e w' => e = .returned (.tuple #[.agg #[.int .u8 2, .int .i64 (ofN (meetB x.n x.u y.n y.u)), .int .i64 0, .string ⟨#[]⟩], .int .i64 0]) ∧ Below w.heap.size w w' := by
  have h3 : (x.k == 0) = false := by rw [h0]; rfl
  have h2 : (y.k == 0) = false := by rw [h1]; rfl
  have h4 : (x.k != 4) = false := by rw [h0]; rfl
  have h5 : (y.k != 4) = false := by rw [h1]; rfl
  clear h0 h1
  obtain ⟨W, g, hg, hW, A0, B0, R0, S0, hb0, hle⟩ := boxesXY w x y
  obtain ⟨a0, a1, a2, a3, a4⟩ := A0
  obtain ⟨b0, b1, b2, b3, b4⟩ := B0
  have HR0 := Lib.hid R0
  have HB0 := Lib.hid hb0
  have HG := Lib.hid hg
  have HS0 := Lib.hid S0
  clear hb0 hle R0 S0
  go_enter Try.func65, Try.ntmps65
  go_wp2_with fail
  all_goals
    first
      | rw [show decide (y.n < y.u) = meetB x.n x.u y.n y.u by unfold meetB; rw [decide_eq_decide]; omega]
      | rw [show decide (y.n < x.u) = meetB x.n x.u y.n y.u by unfold meetB; rw [decide_eq_decide]; omega]
      | rw [show decide (x.n < y.u) = meetB x.n x.u y.n y.u by unfold meetB; rw [decide_eq_decide]; omega]
      | rw [show decide (x.n < x.u) = meetB x.n x.u y.n y.u by unfold meetB; rw [decide_eq_decide]; omega]
    refine (of_is (meetB x.n x.u y.n y.u) _).mono ?_
    rintro e w2 ⟨rfl, hb2⟩
    have hw2 := below_tr HB0.out hb2
    obtain ⟨r0, r1, r2, r3, r4⟩ := HR0.out.below hb2
    obtain ⟨s0, s1, s2, s3, s4⟩ := HS0.out.below hb2
    clear hb2
    go_wp2_with fail
    have hwz := below_put4 hw2 (by have := HG.out; omega : w.heap.size ≤ g + 1 + 1) 2 (ofN (meetB x.n x.u y.n y.u)) 0 ⟨#[]⟩
    obtain ⟨q0, q1, q2, q3, q4⟩ := boxed_put4 (⟨r0, r1, r2, r3, r4⟩ : Boxed w2 (g + 1 + 1) 0 0 0 ⟨#[]⟩) 2 (ofN (meetB x.n x.u y.n y.u)) 0 ⟨#[]⟩
    exact bodyPost_ret (w := put4 w2 (g + 1 + 1) 2 (ofN (meetB x.n x.u y.n y.u)) 0 ⟨#[]⟩) (v := .tuple #[.agg #[.int .u8 2, .int .i64 (ofN (meetB x.n x.u y.n y.u)), .int .i64 0, .string ⟨#[]⟩], .int .i64 0]) (by simp [results, Try.results65, go_sem, q0, q1, q2, q3]) rfl ⟨rfl, hwz⟩

theorem meet_is (x y : Val) (r : Res) (hr : meetR x y = r) (w : World) :
    Calls Try.prog 65 #[.agg #[.int .u8 x.k, .int .i64 x.n, .int .i64 x.u, .string x.t], .agg #[.int .u8 y.k, .int .i64 y.n, .int .i64 y.u, .string y.t]] w fun e w' => e = .returned (.tuple #[.agg #[.int .u8 r.k, .int .i64 r.n, .int .i64 0, .string ⟨#[]⟩], .int .i64 r.e]) ∧ Below w.heap.size w w' := by
  subst hr
  by_cases h0 : x.k = 0
  · have e : meetR x y = ⟨0, 0, 0⟩ := by simp [meetR, nullB, h0]
    rw [e]; exact meet_z1 x y h0 w
  by_cases h1 : y.k = 0
  · have e : meetR x y = ⟨0, 0, 0⟩ := by simp [meetR, nullB, h1]
    rw [e]; exact meet_z2 x y h0 h1 w
  by_cases h2 : x.k = 4
  · by_cases h3 : y.k = 4
    · have e : meetR x y = ⟨2, ofN (meetB x.n x.u y.n y.u), 0⟩ := by simp [meetR, nullB, h2, h3]
      rw [e]; exact meet_yes x y h2 h3 w
    · have e : meetR x y = ⟨0, 0, 60⟩ := by simp [meetR, nullB, h0, h1, h3]
      rw [e]; exact meet_t2 x y h2 h1 h3 w
  · have e : meetR x y = ⟨0, 0, 60⟩ := by simp [meetR, nullB, h0, h1, h2]
    rw [e]; exact meet_t1 x y h0 h1 h2 w

set_option maxRecDepth 100000 in
set_option maxHeartbeats 2000000 in
theorem apply_3 (x y : Val) (r : Res) (hr : appR 3 x y = r) (hx : I64 x.n) (hy : I64 y.n) (w : World) :
    Calls Try.prog 36 #[.int .u8 3, .agg #[.int .u8 x.k, .int .i64 x.n, .int .i64 x.u, .string x.t, .int .u8 y.k, .int .i64 y.n, .int .i64 y.u, .string y.t]] w fun e w' => e = .returned (.tuple #[.agg #[.int .u8 r.k, .int .i64 r.n, .int .i64 0, .string ⟨#[]⟩], .int .i64 r.e]) ∧ Below w.heap.size w w' := by
  have hr' : calcR 1 x.k (0 - x.n) = r := hr
  have HR := Lib.hid hr'
  clear hr'
  have HX := Lib.hid hx
  have HY := Lib.hid hy
  clear hr hx hy
  obtain ⟨W, g, hg, hW, A0, R0, S0, hb0, hle⟩ := boxes8 w x y
  obtain ⟨⟨a0, a1, a2, a3, a8⟩, a4, a5, a6, a7⟩ := A0
  have HR0 := Lib.hid R0
  have HB0 := Lib.hid hb0
  have HG := Lib.hid hg
  have HS0 := Lib.hid S0
  clear hb0 hle R0 S0
  go_enter Try.func36, Try.ntmps36
  go_wp2_with fail
  refine (neg_is x.k x.n x.u x.t r HR.out HX.out _).mono ?_
  rintro e w2 ⟨rfl, hb2⟩
  have hw2 := below_tr HB0.out hb2
  obtain ⟨r0, r1, r2, r3, r4⟩ := HR0.out.below hb2
  obtain ⟨s0, s1, s2, s3, s4⟩ := HS0.out.below hb2
  clear hb2 a0 a1 a2 a3 a4 a5 a6 a7 a8 hW
  go_wp2_with fail
  have hwz := below_put4 hw2 (by have := HG.out; omega : w.heap.size ≤ g + 1) r.k r.n 0 ⟨#[]⟩
  obtain ⟨q0, q1, q2, q3, q4⟩ := boxed_put4 (⟨r0, r1, r2, r3, r4⟩ : Boxed w2 (g + 1) 0 0 0 ⟨#[]⟩) r.k r.n 0 ⟨#[]⟩
  exact bodyPost_ret (w := put4 w2 (g + 1) r.k r.n 0 ⟨#[]⟩) (v := .tuple #[.agg #[.int .u8 r.k, .int .i64 r.n, .int .i64 0, .string ⟨#[]⟩], .int .i64 r.e]) (by simp [results, Try.results36, go_sem, q0, q1, q2, q3]) rfl ⟨rfl, hwz⟩

set_option maxRecDepth 100000 in
set_option maxHeartbeats 2000000 in
theorem apply_4 (x y : Val) (r : Res) (hr : appR 4 x y = r) (hx : I64 x.n) (hy : I64 y.n) (w : World) :
    Calls Try.prog 36 #[.int .u8 4, .agg #[.int .u8 x.k, .int .i64 x.n, .int .i64 x.u, .string x.t, .int .u8 y.k, .int .i64 y.n, .int .i64 y.u, .string y.t]] w fun e w' => e = .returned (.tuple #[.agg #[.int .u8 r.k, .int .i64 r.n, .int .i64 0, .string ⟨#[]⟩], .int .i64 r.e]) ∧ Below w.heap.size w w' := by
  have hr' : notR x.k x.n = r := hr
  have HR := Lib.hid hr'
  clear hr'
  have HX := Lib.hid hx
  have HY := Lib.hid hy
  clear hr hx hy
  obtain ⟨W, g, hg, hW, A0, R0, S0, hb0, hle⟩ := boxes8 w x y
  obtain ⟨⟨a0, a1, a2, a3, a8⟩, a4, a5, a6, a7⟩ := A0
  have HR0 := Lib.hid R0
  have HB0 := Lib.hid hb0
  have HG := Lib.hid hg
  have HS0 := Lib.hid S0
  clear hb0 hle R0 S0
  go_enter Try.func36, Try.ntmps36
  go_wp2_with fail
  refine (not_is x.k x.n x.u x.t r HR.out _).mono ?_
  rintro e w2 ⟨rfl, hb2⟩
  have hw2 := below_tr HB0.out hb2
  obtain ⟨r0, r1, r2, r3, r4⟩ := HR0.out.below hb2
  obtain ⟨s0, s1, s2, s3, s4⟩ := HS0.out.below hb2
  clear hb2 a0 a1 a2 a3 a4 a5 a6 a7 a8 hW
  go_wp2_with fail
  have hwz := below_put4 hw2 (by have := HG.out; omega : w.heap.size ≤ g + 1) r.k r.n 0 ⟨#[]⟩
  obtain ⟨q0, q1, q2, q3, q4⟩ := boxed_put4 (⟨r0, r1, r2, r3, r4⟩ : Boxed w2 (g + 1) 0 0 0 ⟨#[]⟩) r.k r.n 0 ⟨#[]⟩
  exact bodyPost_ret (w := put4 w2 (g + 1) r.k r.n 0 ⟨#[]⟩) (v := .tuple #[.agg #[.int .u8 r.k, .int .i64 r.n, .int .i64 0, .string ⟨#[]⟩], .int .i64 r.e]) (by simp [results, Try.results36, go_sem, q0, q1, q2, q3]) rfl ⟨rfl, hwz⟩

set_option maxRecDepth 100000 in
set_option maxHeartbeats 2000000 in
theorem apply_5b (x y : Val) (b : Bool) (hb : nullB x.k = b) (w : World) :
    Calls Try.prog 36 #[.int .u8 5, .agg #[.int .u8 x.k, .int .i64 x.n, .int .i64 x.u, .string x.t, .int .u8 y.k, .int .i64 y.n, .int .i64 y.u, .string y.t]] w fun e w' => e = .returned (.tuple #[.agg #[.int .u8 2, .int .i64 (ofN b), .int .i64 0, .string ⟨#[]⟩], .int .i64 0]) ∧ Below w.heap.size w w' := by
  have HR := Lib.hid hb
  clear hb
  obtain ⟨W, g, hg, hW, A0, R0, S0, hb0, hle⟩ := boxes8 w x y
  obtain ⟨⟨a0, a1, a2, a3, a8⟩, a4, a5, a6, a7⟩ := A0
  have HR0 := Lib.hid R0
  have HB0 := Lib.hid hb0
  have HG := Lib.hid hg
  have HS0 := Lib.hid S0
  clear hb0 hle R0 S0
  go_enter Try.func36, Try.ntmps36
  go_wp2_with fail
  refine (isnull_is x.k x.n x.u x.t b HR.out _).mono ?_
  rintro e w2 ⟨rfl, hb2⟩
  have hw2 := below_tr HB0.out hb2
  obtain ⟨r0, r1, r2, r3, r4⟩ := HR0.out.below hb2
  obtain ⟨s0, s1, s2, s3, s4⟩ := HS0.out.below hb2
  clear hb2 a0 a1 a2 a3 a4 a5 a6 a7 a8 hW
  go_wp2_with fail
  have hwz := below_put4 hw2 (by have := HG.out; omega : w.heap.size ≤ g + 1) 2 (ofN b) 0 ⟨#[]⟩
  obtain ⟨q0, q1, q2, q3, q4⟩ := boxed_put4 (⟨r0, r1, r2, r3, r4⟩ : Boxed w2 (g + 1) 0 0 0 ⟨#[]⟩) 2 (ofN b) 0 ⟨#[]⟩
  exact bodyPost_ret (w := put4 w2 (g + 1) 2 (ofN b) 0 ⟨#[]⟩) (v := .tuple #[.agg #[.int .u8 2, .int .i64 (ofN b), .int .i64 0, .string ⟨#[]⟩], .int .i64 0]) (by simp [results, Try.results36, go_sem, q0, q1, q2, q3]) rfl ⟨rfl, hwz⟩

theorem apply_5 (x y : Val) (r : Res) (hr : appR 5 x y = r) (_hx : I64 x.n) (_hy : I64 y.n) (w : World) :
    Calls Try.prog 36 #[.int .u8 5, .agg #[.int .u8 x.k, .int .i64 x.n, .int .i64 x.u, .string x.t, .int .u8 y.k, .int .i64 y.n, .int .i64 y.u, .string y.t]] w fun e w' => e = .returned (.tuple #[.agg #[.int .u8 r.k, .int .i64 r.n, .int .i64 0, .string ⟨#[]⟩], .int .i64 r.e]) ∧ Below w.heap.size w w' := by
  have hr' : (⟨2, ofN (nullB x.k), 0⟩ : Res) = r := hr
  rw [← hr']
  exact apply_5b x y _ rfl w

set_option maxRecDepth 100000 in
set_option maxHeartbeats 2000000 in
theorem apply_6 (x y : Val) (r : Res) (hr : appR 6 x y = r) (hx : I64 x.n) (hy : I64 y.n) (w : World) :
    Calls Try.prog 36 #[.int .u8 6, .agg #[.int .u8 x.k, .int .i64 x.n, .int .i64 x.u, .string x.t, .int .u8 y.k, .int .i64 y.n, .int .i64 y.u, .string y.t]] w fun e w' => e = .returned (.tuple #[.agg #[.int .u8 r.k, .int .i64 r.n, .int .i64 0, .string ⟨#[]⟩], .int .i64 r.e]) ∧ Below w.heap.size w w' := by
  have hr' : calcR x.k y.k (x.n + y.n) = r := hr
  have HR := Lib.hid hr'
  clear hr'
  have HX := Lib.hid hx
  have HY := Lib.hid hy
  clear hr hx hy
  obtain ⟨W, g, hg, hW, A0, R0, S0, hb0, hle⟩ := boxes8 w x y
  obtain ⟨⟨a0, a1, a2, a3, a8⟩, a4, a5, a6, a7⟩ := A0
  have HR0 := Lib.hid R0
  have HB0 := Lib.hid hb0
  have HG := Lib.hid hg
  have HS0 := Lib.hid S0
  clear hb0 hle R0 S0
  go_enter Try.func36, Try.ntmps36
  go_wp2_with fail
  refine (add_is x.k x.n x.u x.t y.k y.n y.u y.t r HR.out HX.out HY.out _).mono ?_
  rintro e w2 ⟨rfl, hb2⟩
  have hw2 := below_tr HB0.out hb2
  obtain ⟨r0, r1, r2, r3, r4⟩ := HR0.out.below hb2
  obtain ⟨s0, s1, s2, s3, s4⟩ := HS0.out.below hb2
  clear hb2 a0 a1 a2 a3 a4 a5 a6 a7 a8 hW
  go_wp2_with fail
  have hwz := below_put4 hw2 (by have := HG.out; omega : w.heap.size ≤ g + 1) r.k r.n 0 ⟨#[]⟩
  obtain ⟨q0, q1, q2, q3, q4⟩ := boxed_put4 (⟨r0, r1, r2, r3, r4⟩ : Boxed w2 (g + 1) 0 0 0 ⟨#[]⟩) r.k r.n 0 ⟨#[]⟩
  exact bodyPost_ret (w := put4 w2 (g + 1) r.k r.n 0 ⟨#[]⟩) (v := .tuple #[.agg #[.int .u8 r.k, .int .i64 r.n, .int .i64 0, .string ⟨#[]⟩], .int .i64 r.e]) (by simp [results, Try.results36, go_sem, q0, q1, q2, q3]) rfl ⟨rfl, hwz⟩

set_option maxRecDepth 100000 in
set_option maxHeartbeats 2000000 in
theorem apply_7 (x y : Val) (r : Res) (hr : appR 7 x y = r) (hx : I64 x.n) (hy : I64 y.n) (w : World) :
    Calls Try.prog 36 #[.int .u8 7, .agg #[.int .u8 x.k, .int .i64 x.n, .int .i64 x.u, .string x.t, .int .u8 y.k, .int .i64 y.n, .int .i64 y.u, .string y.t]] w fun e w' => e = .returned (.tuple #[.agg #[.int .u8 r.k, .int .i64 r.n, .int .i64 0, .string ⟨#[]⟩], .int .i64 r.e]) ∧ Below w.heap.size w w' := by
  have hr' : calcR x.k y.k (x.n - y.n) = r := hr
  have HR := Lib.hid hr'
  clear hr'
  have HX := Lib.hid hx
  have HY := Lib.hid hy
  clear hr hx hy
  obtain ⟨W, g, hg, hW, A0, R0, S0, hb0, hle⟩ := boxes8 w x y
  obtain ⟨⟨a0, a1, a2, a3, a8⟩, a4, a5, a6, a7⟩ := A0
  have HR0 := Lib.hid R0
  have HB0 := Lib.hid hb0
  have HG := Lib.hid hg
  have HS0 := Lib.hid S0
  clear hb0 hle R0 S0
  go_enter Try.func36, Try.ntmps36
  go_wp2_with fail
  refine (sub_is x.k x.n x.u x.t y.k y.n y.u y.t r HR.out HX.out HY.out _).mono ?_
  rintro e w2 ⟨rfl, hb2⟩
  have hw2 := below_tr HB0.out hb2
  obtain ⟨r0, r1, r2, r3, r4⟩ := HR0.out.below hb2
  obtain ⟨s0, s1, s2, s3, s4⟩ := HS0.out.below hb2
  clear hb2 a0 a1 a2 a3 a4 a5 a6 a7 a8 hW
  go_wp2_with fail
  have hwz := below_put4 hw2 (by have := HG.out; omega : w.heap.size ≤ g + 1) r.k r.n 0 ⟨#[]⟩
  obtain ⟨q0, q1, q2, q3, q4⟩ := boxed_put4 (⟨r0, r1, r2, r3, r4⟩ : Boxed w2 (g + 1) 0 0 0 ⟨#[]⟩) r.k r.n 0 ⟨#[]⟩
  exact bodyPost_ret (w := put4 w2 (g + 1) r.k r.n 0 ⟨#[]⟩) (v := .tuple #[.agg #[.int .u8 r.k, .int .i64 r.n, .int .i64 0, .string ⟨#[]⟩], .int .i64 r.e]) (by simp [results, Try.results36, go_sem, q0, q1, q2, q3]) rfl ⟨rfl, hwz⟩

set_option maxRecDepth 100000 in
set_option maxHeartbeats 2000000 in
theorem apply_8 (x y : Val) (r : Res) (hr : appR 8 x y = r) (hx : I64 x.n) (hy : I64 y.n) (w : World) :
    Calls Try.prog 36 #[.int .u8 8, .agg #[.int .u8 x.k, .int .i64 x.n, .int .i64 x.u, .string x.t, .int .u8 y.k, .int .i64 y.n, .int .i64 y.u, .string y.t]] w fun e w' => e = .returned (.tuple #[.agg #[.int .u8 r.k, .int .i64 r.n, .int .i64 0, .string ⟨#[]⟩], .int .i64 r.e]) ∧ Below w.heap.size w w' := by
  have hr' : calcR x.k y.k (x.n * y.n) = r := hr
  have HR := Lib.hid hr'
  clear hr'
  have HX := Lib.hid hx
  have HY := Lib.hid hy
  clear hr hx hy
  obtain ⟨W, g, hg, hW, A0, R0, S0, hb0, hle⟩ := boxes8 w x y
  obtain ⟨⟨a0, a1, a2, a3, a8⟩, a4, a5, a6, a7⟩ := A0
  have HR0 := Lib.hid R0
  have HB0 := Lib.hid hb0
  have HG := Lib.hid hg
  have HS0 := Lib.hid S0
  clear hb0 hle R0 S0
  go_enter Try.func36, Try.ntmps36
  go_wp2_with fail
  refine (mul_is x.k x.n x.u x.t y.k y.n y.u y.t r HR.out HX.out HY.out _).mono ?_
  rintro e w2 ⟨rfl, hb2⟩
  have hw2 := below_tr HB0.out hb2
  obtain ⟨r0, r1, r2, r3, r4⟩ := HR0.out.below hb2
  obtain ⟨s0, s1, s2, s3, s4⟩ := HS0.out.below hb2
  clear hb2 a0 a1 a2 a3 a4 a5 a6 a7 a8 hW
  go_wp2_with fail
  have hwz := below_put4 hw2 (by have := HG.out; omega : w.heap.size ≤ g + 1) r.k r.n 0 ⟨#[]⟩
  obtain ⟨q0, q1, q2, q3, q4⟩ := boxed_put4 (⟨r0, r1, r2, r3, r4⟩ : Boxed w2 (g + 1) 0 0 0 ⟨#[]⟩) r.k r.n 0 ⟨#[]⟩
  exact bodyPost_ret (w := put4 w2 (g + 1) r.k r.n 0 ⟨#[]⟩) (v := .tuple #[.agg #[.int .u8 r.k, .int .i64 r.n, .int .i64 0, .string ⟨#[]⟩], .int .i64 r.e]) (by simp [results, Try.results36, go_sem, q0, q1, q2, q3]) rfl ⟨rfl, hwz⟩

set_option maxRecDepth 100000 in
set_option maxHeartbeats 2000000 in
theorem apply_9 (x y : Val) (r : Res) (hr : appR 9 x y = r) (hx : I64 x.n) (hy : I64 y.n) (w : World) :
    Calls Try.prog 36 #[.int .u8 9, .agg #[.int .u8 x.k, .int .i64 x.n, .int .i64 x.u, .string x.t, .int .u8 y.k, .int .i64 y.n, .int .i64 y.u, .string y.t]] w fun e w' => e = .returned (.tuple #[.agg #[.int .u8 r.k, .int .i64 r.n, .int .i64 0, .string ⟨#[]⟩], .int .i64 r.e]) ∧ Below w.heap.size w w' := by
  have hr' : equalR x.k x.n x.u x.t y.k y.n y.u y.t = r := hr
  have HR := Lib.hid hr'
  clear hr'
  have HX := Lib.hid hx
  have HY := Lib.hid hy
  clear hr hx hy
  obtain ⟨W, g, hg, hW, A0, R0, S0, hb0, hle⟩ := boxes8 w x y
  obtain ⟨⟨a0, a1, a2, a3, a8⟩, a4, a5, a6, a7⟩ := A0
  have HR0 := Lib.hid R0
  have HB0 := Lib.hid hb0
  have HG := Lib.hid hg
  have HS0 := Lib.hid S0
  clear hb0 hle R0 S0
  go_enter Try.func36, Try.ntmps36
  go_wp2_with fail
  refine (equal_is x.k x.n x.u x.t y.k y.n y.u y.t r HR.out _).mono ?_
  rintro e w2 ⟨rfl, hb2⟩
  have hw2 := below_tr HB0.out hb2
  obtain ⟨r0, r1, r2, r3, r4⟩ := HR0.out.below hb2
  obtain ⟨s0, s1, s2, s3, s4⟩ := HS0.out.below hb2
  clear hb2 a0 a1 a2 a3 a4 a5 a6 a7 a8 hW
  go_wp2_with fail
  have hwz := below_put4 hw2 (by have := HG.out; omega : w.heap.size ≤ g + 1) r.k r.n 0 ⟨#[]⟩
  obtain ⟨q0, q1, q2, q3, q4⟩ := boxed_put4 (⟨r0, r1, r2, r3, r4⟩ : Boxed w2 (g + 1) 0 0 0 ⟨#[]⟩) r.k r.n 0 ⟨#[]⟩
  exact bodyPost_ret (w := put4 w2 (g + 1) r.k r.n 0 ⟨#[]⟩) (v := .tuple #[.agg #[.int .u8 r.k, .int .i64 r.n, .int .i64 0, .string ⟨#[]⟩], .int .i64 r.e]) (by simp [results, Try.results36, go_sem, q0, q1, q2, q3]) rfl ⟨rfl, hwz⟩

set_option maxRecDepth 100000 in
set_option maxHeartbeats 2000000 in
theorem apply_10 (x y : Val) (r : Res) (hr : appR 10 x y = r) (hx : I64 x.n) (hy : I64 y.n) (w : World) :
    Calls Try.prog 36 #[.int .u8 10, .agg #[.int .u8 x.k, .int .i64 x.n, .int .i64 x.u, .string x.t, .int .u8 y.k, .int .i64 y.n, .int .i64 y.u, .string y.t]] w fun e w' => e = .returned (.tuple #[.agg #[.int .u8 r.k, .int .i64 r.n, .int .i64 0, .string ⟨#[]⟩], .int .i64 r.e]) ∧ Below w.heap.size w w' := by
  have hr' : lessR x.k x.n x.u x.t y.k y.n y.u y.t = r := hr
  have HR := Lib.hid hr'
  clear hr'
  have HX := Lib.hid hx
  have HY := Lib.hid hy
  clear hr hx hy
  obtain ⟨W, g, hg, hW, A0, R0, S0, hb0, hle⟩ := boxes8 w x y
  obtain ⟨⟨a0, a1, a2, a3, a8⟩, a4, a5, a6, a7⟩ := A0
  have HR0 := Lib.hid R0
  have HB0 := Lib.hid hb0
  have HG := Lib.hid hg
  have HS0 := Lib.hid S0
  clear hb0 hle R0 S0
  go_enter Try.func36, Try.ntmps36
  go_wp2_with fail
  refine (less_is x.k x.n x.u x.t y.k y.n y.u y.t r HR.out _).mono ?_
  rintro e w2 ⟨rfl, hb2⟩
  have hw2 := below_tr HB0.out hb2
  obtain ⟨r0, r1, r2, r3, r4⟩ := HR0.out.below hb2
  obtain ⟨s0, s1, s2, s3, s4⟩ := HS0.out.below hb2
  clear hb2 a0 a1 a2 a3 a4 a5 a6 a7 a8 hW
  go_wp2_with fail
  have hwz := below_put4 hw2 (by have := HG.out; omega : w.heap.size ≤ g + 1) r.k r.n 0 ⟨#[]⟩
  obtain ⟨q0, q1, q2, q3, q4⟩ := boxed_put4 (⟨r0, r1, r2, r3, r4⟩ : Boxed w2 (g + 1) 0 0 0 ⟨#[]⟩) r.k r.n 0 ⟨#[]⟩
  exact bodyPost_ret (w := put4 w2 (g + 1) r.k r.n 0 ⟨#[]⟩) (v := .tuple #[.agg #[.int .u8 r.k, .int .i64 r.n, .int .i64 0, .string ⟨#[]⟩], .int .i64 r.e]) (by simp [results, Try.results36, go_sem, q0, q1, q2, q3]) rfl ⟨rfl, hwz⟩

set_option maxRecDepth 100000 in
set_option maxHeartbeats 2000000 in
theorem apply_11 (x y : Val) (r : Res) (hr : appR 11 x y = r) (hx : I64 x.n) (hy : I64 y.n) (w : World) :
    Calls Try.prog 36 #[.int .u8 11, .agg #[.int .u8 x.k, .int .i64 x.n, .int .i64 x.u, .string x.t, .int .u8 y.k, .int .i64 y.n, .int .i64 y.u, .string y.t]] w fun e w' => e = .returned (.tuple #[.agg #[.int .u8 r.k, .int .i64 r.n, .int .i64 0, .string ⟨#[]⟩], .int .i64 r.e]) ∧ Below w.heap.size w w' := by
  have hr' : connectR x.k x.n y.k y.n false = r := hr
  have HR := Lib.hid hr'
  clear hr'
  have HX := Lib.hid hx
  have HY := Lib.hid hy
  clear hr hx hy
  obtain ⟨W, g, hg, hW, A0, R0, S0, hb0, hle⟩ := boxes8 w x y
  obtain ⟨⟨a0, a1, a2, a3, a8⟩, a4, a5, a6, a7⟩ := A0
  have HR0 := Lib.hid R0
  have HB0 := Lib.hid hb0
  have HG := Lib.hid hg
  have HS0 := Lib.hid S0
  clear hb0 hle R0 S0
  go_enter Try.func36, Try.ntmps36
  go_wp2_with fail
  refine (and_is x.k x.n x.u x.t y.k y.n y.u y.t r HR.out _).mono ?_
  rintro e w2 ⟨rfl, hb2⟩
  have hw2 := below_tr HB0.out hb2
  obtain ⟨r0, r1, r2, r3, r4⟩ := HR0.out.below hb2
  obtain ⟨s0, s1, s2, s3, s4⟩ := HS0.out.below hb2
  clear hb2 a0 a1 a2 a3 a4 a5 a6 a7 a8 hW
  go_wp2_with fail
  have hwz := below_put4 hw2 (by have := HG.out; omega : w.heap.size ≤ g + 1) r.k r.n 0 ⟨#[]⟩
  obtain ⟨q0, q1, q2, q3, q4⟩ := boxed_put4 (⟨r0, r1, r2, r3, r4⟩ : Boxed w2 (g + 1) 0 0 0 ⟨#[]⟩) r.k r.n 0 ⟨#[]⟩
  exact bodyPost_ret (w := put4 w2 (g + 1) r.k r.n 0 ⟨#[]⟩) (v := .tuple #[.agg #[.int .u8 r.k, .int .i64 r.n, .int .i64 0, .string ⟨#[]⟩], .int .i64 r.e]) (by simp [results, Try.results36, go_sem, q0, q1, q2, q3]) rfl ⟨rfl, hwz⟩

set_option maxRecDepth 100000 in
set_option maxHeartbeats 2000000 in
theorem apply_12 (x y : Val) (r : Res) (hr : appR 12 x y = r) (hx : I64 x.n) (hy : I64 y.n) (w : World) :
    Calls Try.prog 36 #[.int .u8 12, .agg #[.int .u8 x.k, .int .i64 x.n, .int .i64 x.u, .string x.t, .int .u8 y.k, .int .i64 y.n, .int .i64 y.u, .string y.t]] w fun e w' => e = .returned (.tuple #[.agg #[.int .u8 r.k, .int .i64 r.n, .int .i64 0, .string ⟨#[]⟩], .int .i64 r.e]) ∧ Below w.heap.size w w' := by
  have hr' : connectR x.k x.n y.k y.n true = r := hr
  have HR := Lib.hid hr'
  clear hr'
  have HX := Lib.hid hx
  have HY := Lib.hid hy
  clear hr hx hy
  obtain ⟨W, g, hg, hW, A0, R0, S0, hb0, hle⟩ := boxes8 w x y
  obtain ⟨⟨a0, a1, a2, a3, a8⟩, a4, a5, a6, a7⟩ := A0
  have HR0 := Lib.hid R0
  have HB0 := Lib.hid hb0
  have HG := Lib.hid hg
  have HS0 := Lib.hid S0
  clear hb0 hle R0 S0
  go_enter Try.func36, Try.ntmps36
  go_wp2_with fail
  refine (or_is x.k x.n x.u x.t y.k y.n y.u y.t r HR.out _).mono ?_
  rintro e w2 ⟨rfl, hb2⟩
  have hw2 := below_tr HB0.out hb2
  obtain ⟨r0, r1, r2, r3, r4⟩ := HR0.out.below hb2
  obtain ⟨s0, s1, s2, s3, s4⟩ := HS0.out.below hb2
  clear hb2 a0 a1 a2 a3 a4 a5 a6 a7 a8 hW
  go_wp2_with fail
  have hwz := below_put4 hw2 (by have := HG.out; omega : w.heap.size ≤ g + 1) r.k r.n 0 ⟨#[]⟩
  obtain ⟨q0, q1, q2, q3, q4⟩ := boxed_put4 (⟨r0, r1, r2, r3, r4⟩ : Boxed w2 (g + 1) 0 0 0 ⟨#[]⟩) r.k r.n 0 ⟨#[]⟩
  exact bodyPost_ret (w := put4 w2 (g + 1) r.k r.n 0 ⟨#[]⟩) (v := .tuple #[.agg #[.int .u8 r.k, .int .i64 r.n, .int .i64 0, .string ⟨#[]⟩], .int .i64 r.e]) (by simp [results, Try.results36, go_sem, q0, q1, q2, q3]) rfl ⟨rfl, hwz⟩

set_option maxRecDepth 100000 in
set_option maxHeartbeats 2000000 in
theorem apply_13 (x y : Val) (r : Res) (hr : appR 13 x y = r) (hx : I64 x.n) (hy : I64 y.n) (w : World) :
    Calls Try.prog 36 #[.int .u8 13, .agg #[.int .u8 x.k, .int .i64 x.n, .int .i64 x.u, .string x.t, .int .u8 y.k, .int .i64 y.n, .int .i64 y.u, .string y.t]] w fun e w' => e = .returned (.tuple #[.agg #[.int .u8 r.k, .int .i64 r.n, .int .i64 0, .string ⟨#[]⟩], .int .i64 r.e]) ∧ Below w.heap.size w w' := by
  have hr' : meetR x y = r := hr
  have HR := Lib.hid hr'
  clear hr'
  have HX := Lib.hid hx
  have HY := Lib.hid hy
  clear hr hx hy
  obtain ⟨W, g, hg, hW, A0, R0, S0, hb0, hle⟩ := boxes8 w x y
  obtain ⟨⟨a0, a1, a2, a3, a8⟩, a4, a5, a6, a7⟩ := A0
  have HR0 := Lib.hid R0
  have HB0 := Lib.hid hb0
  have HG := Lib.hid hg
  have HS0 := Lib.hid S0
  clear hb0 hle R0 S0
  go_enter Try.func36, Try.ntmps36
  go_wp2_with fail
  refine (meet_is x y r HR.out _).mono ?_
  rintro e w2 ⟨rfl, hb2⟩
  have hw2 := below_tr HB0.out hb2
  obtain ⟨r0, r1, r2, r3, r4⟩ := HR0.out.below hb2
  obtain ⟨s0, s1, s2, s3, s4⟩ := HS0.out.below hb2
  clear hb2 a0 a1 a2 a3 a4 a5 a6 a7 a8 hW
  go_wp2_with fail
  have hwz := below_put4 hw2 (by have := HG.out; omega : w.heap.size ≤ g + 1) r.k r.n 0 ⟨#[]⟩
  obtain ⟨q0, q1, q2, q3, q4⟩ := boxed_put4 (⟨r0, r1, r2, r3, r4⟩ : Boxed w2 (g + 1) 0 0 0 ⟨#[]⟩) r.k r.n 0 ⟨#[]⟩
  exact bodyPost_ret (w := put4 w2 (g + 1) r.k r.n 0 ⟨#[]⟩) (v := .tuple #[.agg #[.int .u8 r.k, .int .i64 r.n, .int .i64 0, .string ⟨#[]⟩], .int .i64 r.e]) (by simp [results, Try.results36, go_sem, q0, q1, q2, q3]) rfl ⟨rfl, hwz⟩

theorem apply_is (op : Int) (x y : Val) (r : Res) (hr : appR op x y = r) (ha : arity op ≠ 0) (hx : I64 x.n) (hy : I64 y.n) (w : World) :
    Calls Try.prog 36 #[.int .u8 op, .agg #[.int .u8 x.k, .int .i64 x.n, .int .i64 x.u, .string x.t, .int .u8 y.k, .int .i64 y.n, .int .i64 y.u, .string y.t]] w fun e w' => e = .returned (.tuple #[.agg #[.int .u8 r.k, .int .i64 r.n, .int .i64 0, .string ⟨#[]⟩], .int .i64 r.e]) ∧ Below w.heap.size w w' := by
  by_cases h3 : op = 3
  · subst h3; exact apply_3 x y r hr hx hy w
  by_cases h4 : op = 4
  · subst h4; exact apply_4 x y r hr hx hy w
  by_cases h5 : op = 5
  · subst h5; exact apply_5 x y r hr hx hy w
  by_cases h6 : op = 6
  · subst h6; exact apply_6 x y r hr hx hy w
  by_cases h7 : op = 7
  · subst h7; exact apply_7 x y r hr hx hy w
  by_cases h8 : op = 8
  · subst h8; exact apply_8 x y r hr hx hy w
  by_cases h9 : op = 9
  · subst h9; exact apply_9 x y r hr hx hy w
  by_cases h10 : op = 10
  · subst h10; exact apply_10 x y r hr hx hy w
  by_cases h11 : op = 11
  · subst h11; exact apply_11 x y r hr hx hy w
  by_cases h12 : op = 12
  · subst h12; exact apply_12 x y r hr hx hy w
  by_cases h13 : op = 13
  · subst h13; exact apply_13 x y r hr hx hy w
  exact absurd (by unfold arity; rw [if_neg (by omega), if_neg (by omega)]) ha
end Go.Proofs.Ytflclkmhdngmaaa
