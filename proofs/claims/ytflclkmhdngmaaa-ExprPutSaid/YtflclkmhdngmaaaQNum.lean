/-
  The functions of package logic on numbers: Neg, Add, Sub, Mul (by calculate, and what it is handed).
-/
import Derived.Test.YtflclkmhdngmaaaQOps
import Derived.Test.YtflclkmhdngmaaaQMath
import Derived.BigQuiet
import Derived.Deep.QuietTactic
namespace Go.Proofs.Ytflclkmhdngmaaa
open Go.RowKit

theorem below_drewN (w : World) (n : Nat) : Below w.heap.size w (w.drewN n) := ⟨rfl, rfl, rfl, Nat.le_refl _, fun _ _ => rfl⟩

theorem add_lit (x y : Int) (w : World) :
    Calls Try.prog 77 #[.int .i64 x, .int .i64 y] w fun e w' => e = .returned (.tuple #[.int .i64 (wrap64 (x + y)), .bool (decide (x < wrap64 (x + y)) == decide (0 < y))]) ∧ Below w.heap.size w w' := by
  go_enter Try.func77, Try.ntmps77
  go_wp2
  go_ret2
  exact ⟨rfl, Below.refl _ _⟩

theorem sub_lit (x y : Int) (w : World) :
    Calls Try.prog 78 #[.int .i64 x, .int .i64 y] w fun e w' => e = .returned (.tuple #[.int .i64 (wrap64 (x - y)), .bool (decide (wrap64 (x - y) < x) == decide (0 < y))]) ∧ Below w.heap.size w w' := by
  go_enter Try.func78, Try.ntmps78
  go_wp2
  go_ret2
  exact ⟨rfl, Below.refl _ _⟩

theorem mul_lit0 (y : Int) (w : World) :
    Calls Try.prog 79 #[.int .i64 0, .int .i64 y] w fun e w' => e = .returned (.tuple #[.int .i64 0, .bool true]) ∧ Below w.heap.size w w' := by
  go_enter Try.func79, Try.ntmps79
  go_wp2
  go_ret2
  exact ⟨rfl, Below.refl _ _⟩

theorem mul_lit1 (x y : Int) (w : World) (h : x = -1) (hy : y = -9223372036854775808) :
    Calls Try.prog 79 #[.int .i64 x, .int .i64 y] w fun e w' => e = .returned (.tuple #[.int .i64 (wrap64 (x * y)), .bool false]) ∧ Below w.heap.size w w' := by
  have h1 : (y == -9223372036854775808) = true := by rw [hy]; rfl
  have h2 : (x == -1) = true := by rw [h]; rfl
  have h3 : (x == 0) = false := by rw [h]; rfl
  clear h hy
  go_enter Try.func79, Try.ntmps79
  go_wp2_with fail
  go_quiet (fail)
  go_wp2_with fail
  go_ret2
  exact ⟨rfl, below_drewN _ _⟩

theorem mul_lit2 (x y : Int) (w : World) (h : (x == -1) = false) (hz : (x == 0) = false) (hz2 : ¬ x = 0) :
    Calls Try.prog 79 #[.int .i64 x, .int .i64 y] w fun e w' => e = .returned (.tuple #[.int .i64 (wrap64 (x * y)), .bool (wrap64 ((wrap64 (x * y)).tdiv x) == y)]) ∧ Below w.heap.size w w' := by
  go_enter Try.func79, Try.ntmps79
  go_wp2_with fail
  go_quiet (fail)
  go_wp2_with fail
  go_ret2
  exact ⟨rfl, below_drewN _ _⟩

theorem mul_lit3 (x y : Int) (w : World) (h : (x == -1) = true) (hz : (x == 0) = false) (hz2 : ¬ x = 0) (hy : (y == -9223372036854775808) = false) :
    Calls Try.prog 79 #[.int .i64 x, .int .i64 y] w fun e w' => e = .returned (.tuple #[.int .i64 (wrap64 (x * y)), .bool (wrap64 ((wrap64 (x * y)).tdiv x) == y)]) ∧ Below w.heap.size w w' := by
  go_enter Try.func79, Try.ntmps79
  go_wp2_with fail
  go_quiet (fail)
  go_wp2_with fail
  go_ret2
  exact ⟨rfl, below_drewN _ _⟩

theorem add_lit_is (x y : Int) (hx : I64 x) (hy : I64 y) (p : Int) (b : Bool) (hp : wrap64 (x + y) = p) (hb : inR (x + y) = b) (w : World) :
    Calls Try.prog 77 #[.int .i64 x, .int .i64 y] w fun e w' => e = .returned (.tuple #[.int .i64 p, .bool b]) ∧ Below w.heap.size w w' := by
  rw [← hp, ← hb, ← add_ok hx hy]; exact add_lit x y w

theorem sub_lit_is (x y : Int) (hx : I64 x) (hy : I64 y) (p : Int) (b : Bool) (hp : wrap64 (x - y) = p) (hb : inR (x - y) = b) (w : World) :
    Calls Try.prog 78 #[.int .i64 x, .int .i64 y] w fun e w' => e = .returned (.tuple #[.int .i64 p, .bool b]) ∧ Below w.heap.size w w' := by
  rw [← hp, ← hb, ← sub_ok hx hy]; exact sub_lit x y w

theorem mul_lit_is (x y : Int) (hx : I64 x) (hy : I64 y) (p : Int) (b : Bool) (hp : wrap64 (x * y) = p) (hb : inR (x * y) = b) (w : World) :
    Calls Try.prog 79 #[.int .i64 x, .int .i64 y] w fun e w' => e = .returned (.tuple #[.int .i64 p, .bool b]) ∧ Below w.heap.size w w' := by
  rw [← hp, ← hb]
  by_cases h0 : x = 0
  · subst h0
    rw [Int.zero_mul, show wrap64 0 = 0 from wrap_in (by decide), show inR 0 = true from by decide]
    exact mul_lit0 y w
  · have hz : (x == 0) = false := by simpa using h0
    by_cases h1 : x = -1
    · have h2 : (x == -1) = true := by simpa using h1
      by_cases hy1 : y = -9223372036854775808
      · rw [show inR (x * y) = false by rw [h1, hy1]; decide]
        exact mul_lit1 x y w h1 hy1
      · have h3 : (y == -9223372036854775808) = false := by simpa using hy1
        rw [← mul_ok hx hy h0 (fun h => hy1 h.2)]
        exact mul_lit3 x y w h2 hz h0 h3
    · have h2 : (x == -1) = false := by simpa using h1
      rw [← mul_ok hx hy h0 (fun h => h1 h.1)]
      exact mul_lit2 x y w h2 hz h0

def calcR (k k' s : Int) : Res := cond (fitB 1 k && fitB 1 k') (cond (nullB k || nullB k') ⟨0, 0, 0⟩ (cond (inR s) ⟨1, s, 0⟩ ⟨0, 0, 61⟩)) ⟨0, 0, 60⟩

set_option maxHeartbeats 2000000 in
theorem calc_add_no (k n u : Int) (t : ByteArray) (k' n' u' : Int) (t' : ByteArray) (hf : (fitB 1 k && fitB 1 k') = false) (w : World) :
    Calls Try.prog 76 #[.agg #[.int .u8 k, .int .i64 n, .int .i64 u, .string t], .agg #[.int .u8 k', .int .i64 n', .int .i64 u', .string t'], .func (.func 77) #[] #[]] w fun e w' => e = .returned (.tuple #[.agg #[.int .u8 0, .int .i64 0, .int .i64 0, .string ⟨#[]⟩], .int .i64 60]) ∧ Below w.heap.size w w' := by
  have Hhf := Lib.hid hf
  clear hf
  obtain ⟨W, hW, A0, B0, R0, SR0, hw, hs⟩ := boxes3 w k n u t k' n' u' t'
  obtain ⟨g, hg⟩ : ∃ g, w.heap.size = g := ⟨_, rfl⟩
  rw [hg] at A0 B0 R0 SR0 hs
  have hbS := Below.allocs W (.cells #[.int .u8 k, .int .i64 n, .int .i64 u, .string t, .int .u8 k', .int .i64 n', .int .i64 u', .string t'] 23)
  have D0 := Two.new W k n u t k' n' u' t' 23
  rw [hs] at D0
  have HS := Lib.hid hs
  clear hs
  have hw0 := below_tr hw hbS
  replace A0 := A0.below hbS
  replace B0 := B0.below hbS
  replace R0 := R0.below hbS
  replace SR0 := SR0.below hbS
  go_enter Try.func76, Try.ntmps76
  go_wp2_with fail
  rw [← hW]
  clear hW
  refine (fit2_is 1 k n u t k' n' u' t' (g + 3) false Hhf.out _ D0).mono ?_
  rintro e w1 ⟨rfl, hb1⟩
  have hw1 := below_tr hw0 hb1
  have A1 := A0.below hb1
  have B1 := B0.below hb1
  have R1 := R0.below hb1
  have SR1 := SR0.below hb1
  have A1' := A1
  obtain ⟨a0, a1, a2, a3, a4⟩ := A1'
  have B1' := B1
  obtain ⟨b0, b1, b2, b3, b4⟩ := B1'
  have R1' := R1
  obtain ⟨r0, r1, r2, r3, r4⟩ := R1'
  obtain ⟨s0, s1, s2, s3, s4⟩ := SR1
  go_wp2_with fail
  have hwz := below_put4 hw1 (by omega : w.heap.size ≤ g + 2) 0 0 0 ⟨#[]⟩
  obtain ⟨q0, q1, q2, q3, q4⟩ := boxed_put4 R1 0 0 0 ⟨#[]⟩
  exact bodyPost_ret (w := put4 w1 (g + 2) 0 0 0 ⟨#[]⟩) (v := .tuple #[.agg #[.int .u8 0, .int .i64 0, .int .i64 0, .string ⟨#[]⟩], .int .i64 60]) (by simp [results, Try.results76, go_sem, q0, q1, q2, q3]) rfl ⟨rfl, hwz⟩
set_option maxHeartbeats 2000000 in
theorem calc_add_z (k n u : Int) (t : ByteArray) (k' n' u' : Int) (t' : ByteArray) (hf : (fitB 1 k && fitB 1 k') = true) (hz : nullB k = true) (w : World) :
    Calls Try.prog 76 #[.agg #[.int .u8 k, .int .i64 n, .int .i64 u, .string t], .agg #[.int .u8 k', .int .i64 n', .int .i64 u', .string t'], .func (.func 77) #[] #[]] w fun e w' => e = .returned (.tuple #[.agg #[.int .u8 0, .int .i64 0, .int .i64 0, .string ⟨#[]⟩], .int .i64 0]) ∧ Below w.heap.size w w' := by
  have Hhf := Lib.hid hf
  clear hf
  have Hhz := Lib.hid hz
  clear hz
  obtain ⟨W, hW, A0, B0, R0, SR0, hw, hs⟩ := boxes3 w k n u t k' n' u' t'
  obtain ⟨g, hg⟩ : ∃ g, w.heap.size = g := ⟨_, rfl⟩
  rw [hg] at A0 B0 R0 SR0 hs
  have hbS := Below.allocs W (.cells #[.int .u8 k, .int .i64 n, .int .i64 u, .string t, .int .u8 k', .int .i64 n', .int .i64 u', .string t'] 23)
  have D0 := Two.new W k n u t k' n' u' t' 23
  rw [hs] at D0
  have HS := Lib.hid hs
  clear hs
  have hw0 := below_tr hw hbS
  replace A0 := A0.below hbS
  replace B0 := B0.below hbS
  replace R0 := R0.below hbS
  replace SR0 := SR0.below hbS
  go_enter Try.func76, Try.ntmps76
  go_wp2_with fail
  rw [← hW]
  clear hW
  refine (fit2_is 1 k n u t k' n' u' t' (g + 3) true Hhf.out _ D0).mono ?_
  rintro e w1 ⟨rfl, hb1⟩
  have hw1 := below_tr hw0 hb1
  have A1 := A0.below hb1
  have B1 := B0.below hb1
  have R1 := R0.below hb1
  have SR1 := SR0.below hb1
  have A1' := A1
  obtain ⟨a0, a1, a2, a3, a4⟩ := A1'
  have B1' := B1
  obtain ⟨b0, b1, b2, b3, b4⟩ := B1'
  have R1' := R1
  obtain ⟨r0, r1, r2, r3, r4⟩ := R1'
  go_wp2_with fail
  refine (null_is k n u t true Hhz.out _).mono ?_
  rintro e w2 ⟨rfl, hb2⟩
  have hw2 := below_tr hw1 hb2
  have A2 := A1.below hb2
  have B2 := B1.below hb2
  have R2 := R1.below hb2
  have SR2 := SR1.below hb2
  clear a0 a1 a2 a3 a4 b0 b1 b2 b3 b4 r0 r1 r2 r3 r4
  have A2' := A2
  obtain ⟨a0, a1, a2, a3, a4⟩ := A2'
  have B2' := B2
  obtain ⟨b0, b1, b2, b3, b4⟩ := B2'
  have R2' := R2
  obtain ⟨r0, r1, r2, r3, r4⟩ := R2'
  obtain ⟨s0, s1, s2, s3, s4⟩ := SR2
  go_wp2_with fail
  have hwz := below_put4 hw2 (by omega : w.heap.size ≤ g + 2) 0 0 0 ⟨#[]⟩
  obtain ⟨q0, q1, q2, q3, q4⟩ := boxed_put4 R2 0 0 0 ⟨#[]⟩
  exact bodyPost_ret (w := put4 w2 (g + 2) 0 0 0 ⟨#[]⟩) (v := .tuple #[.agg #[.int .u8 0, .int .i64 0, .int .i64 0, .string ⟨#[]⟩], .int .i64 0]) (by simp [results, Try.results76, go_sem, q0, q1, q2, q3]) rfl ⟨rfl, hwz⟩
set_option maxHeartbeats 2000000 in
theorem calc_add_y (k n u : Int) (t : ByteArray) (k' n' u' : Int) (t' : ByteArray) (hf : (fitB 1 k && fitB 1 k') = true) (hz : nullB k = false) (hy : nullB k' = true) (w : World) :
    Calls Try.prog 76 #[.agg #[.int .u8 k, .int .i64 n, .int .i64 u, .string t], .agg #[.int .u8 k', .int .i64 n', .int .i64 u', .string t'], .func (.func 77) #[] #[]] w fun e w' => e = .returned (.tuple #[.agg #[.int .u8 0, .int .i64 0, .int .i64 0, .string ⟨#[]⟩], .int .i64 0]) ∧ Below w.heap.size w w' := by
  have Hhf := Lib.hid hf
  clear hf
  have Hhz := Lib.hid hz
  clear hz
  have Hhy := Lib.hid hy
  clear hy
  obtain ⟨W, hW, A0, B0, R0, SR0, hw, hs⟩ := boxes3 w k n u t k' n' u' t'
  obtain ⟨g, hg⟩ : ∃ g, w.heap.size = g := ⟨_, rfl⟩
  rw [hg] at A0 B0 R0 SR0 hs
  have hbS := Below.allocs W (.cells #[.int .u8 k, .int .i64 n, .int .i64 u, .string t, .int .u8 k', .int .i64 n', .int .i64 u', .string t'] 23)
  have D0 := Two.new W k n u t k' n' u' t' 23
  rw [hs] at D0
  have HS := Lib.hid hs
  clear hs
  have hw0 := below_tr hw hbS
  replace A0 := A0.below hbS
  replace B0 := B0.below hbS
  replace R0 := R0.below hbS
  replace SR0 := SR0.below hbS
  go_enter Try.func76, Try.ntmps76
  go_wp2_with fail
  rw [← hW]
  clear hW
  refine (fit2_is 1 k n u t k' n' u' t' (g + 3) true Hhf.out _ D0).mono ?_
  rintro e w1 ⟨rfl, hb1⟩
  have hw1 := below_tr hw0 hb1
  have A1 := A0.below hb1
  have B1 := B0.below hb1
  have R1 := R0.below hb1
  have SR1 := SR0.below hb1
  have A1' := A1
  obtain ⟨a0, a1, a2, a3, a4⟩ := A1'
  have B1' := B1
  obtain ⟨b0, b1, b2, b3, b4⟩ := B1'
  have R1' := R1
  obtain ⟨r0, r1, r2, r3, r4⟩ := R1'
  go_wp2_with fail
  refine (null_is k n u t false Hhz.out _).mono ?_
  rintro e w2 ⟨rfl, hb2⟩
  have hw2 := below_tr hw1 hb2
  have A2 := A1.below hb2
  have B2 := B1.below hb2
  have R2 := R1.below hb2
  have SR2 := SR1.below hb2
  clear a0 a1 a2 a3 a4 b0 b1 b2 b3 b4 r0 r1 r2 r3 r4
  have A2' := A2
  obtain ⟨a0, a1, a2, a3, a4⟩ := A2'
  have B2' := B2
  obtain ⟨b0, b1, b2, b3, b4⟩ := B2'
  have R2' := R2
  obtain ⟨r0, r1, r2, r3, r4⟩ := R2'
  go_wp2_with fail
  refine (null_is k' n' u' t' true Hhy.out _).mono ?_
  rintro e w3 ⟨rfl, hb3⟩
  have hw3 := below_tr hw2 hb3
  have A3 := A2.below hb3
  have B3 := B2.below hb3
  have R3 := R2.below hb3
  have SR3 := SR2.below hb3
  clear a0 a1 a2 a3 a4 b0 b1 b2 b3 b4 r0 r1 r2 r3 r4
  have A3' := A3
  obtain ⟨a0, a1, a2, a3, a4⟩ := A3'
  have B3' := B3
  obtain ⟨b0, b1, b2, b3, b4⟩ := B3'
  have R3' := R3
  obtain ⟨r0, r1, r2, r3, r4⟩ := R3'
  obtain ⟨s0, s1, s2, s3, s4⟩ := SR3
  go_wp2_with fail
  have hwz := below_put4 hw3 (by omega : w.heap.size ≤ g + 2) 0 0 0 ⟨#[]⟩
  obtain ⟨q0, q1, q2, q3, q4⟩ := boxed_put4 R3 0 0 0 ⟨#[]⟩
  exact bodyPost_ret (w := put4 w3 (g + 2) 0 0 0 ⟨#[]⟩) (v := .tuple #[.agg #[.int .u8 0, .int .i64 0, .int .i64 0, .string ⟨#[]⟩], .int .i64 0]) (by simp [results, Try.results76, go_sem, q0, q1, q2, q3]) rfl ⟨rfl, hwz⟩
set_option maxHeartbeats 2000000 in
theorem calc_add_in (k n u : Int) (t : ByteArray) (k' n' u' : Int) (t' : ByteArray) (hf : (fitB 1 k && fitB 1 k') = true) (hz : nullB k = false) (hy : nullB k' = false) (hn : I64 n) (hm : I64 n') (p : Int) (hp : wrap64 (n + n') = p) (hb : inR (n + n') = true) (w : World) :
    Calls Try.prog 76 #[.agg #[.int .u8 k, .int .i64 n, .int .i64 u, .string t], .agg #[.int .u8 k', .int .i64 n', .int .i64 u', .string t'], .func (.func 77) #[] #[]] w fun e w' => e = .returned (.tuple #[.agg #[.int .u8 1, .int .i64 p, .int .i64 0, .string ⟨#[]⟩], .int .i64 0]) ∧ Below w.heap.size w w' := by
  have Hhf := Lib.hid hf
  clear hf
  have Hhz := Lib.hid hz
  clear hz
  have Hhy := Lib.hid hy
  clear hy
  have Hhn := Lib.hid hn
  clear hn
  have Hhm := Lib.hid hm
  clear hm
  have Hhb := Lib.hid hb
  clear hb
  have Hhp := Lib.hid hp
  clear hp
  obtain ⟨W, hW, A0, B0, R0, SR0, hw, hs⟩ := boxes3 w k n u t k' n' u' t'
  obtain ⟨g, hg⟩ : ∃ g, w.heap.size = g := ⟨_, rfl⟩
  rw [hg] at A0 B0 R0 SR0 hs
  have hbS := Below.allocs W (.cells #[.int .u8 k, .int .i64 n, .int .i64 u, .string t, .int .u8 k', .int .i64 n', .int .i64 u', .string t'] 23)
  have D0 := Two.new W k n u t k' n' u' t' 23
  rw [hs] at D0
  have HS := Lib.hid hs
  clear hs
  have hw0 := below_tr hw hbS
  replace A0 := A0.below hbS
  replace B0 := B0.below hbS
  replace R0 := R0.below hbS
  replace SR0 := SR0.below hbS
  go_enter Try.func76, Try.ntmps76
  go_wp2_with fail
  rw [← hW]
  clear hW
  refine (fit2_is 1 k n u t k' n' u' t' (g + 3) true Hhf.out _ D0).mono ?_
  rintro e w1 ⟨rfl, hb1⟩
  have hw1 := below_tr hw0 hb1
  have A1 := A0.below hb1
  have B1 := B0.below hb1
  have R1 := R0.below hb1
  have SR1 := SR0.below hb1
  have A1' := A1
  obtain ⟨a0, a1, a2, a3, a4⟩ := A1'
  have B1' := B1
  obtain ⟨b0, b1, b2, b3, b4⟩ := B1'
  have R1' := R1
  obtain ⟨r0, r1, r2, r3, r4⟩ := R1'
  go_wp2_with fail
  refine (null_is k n u t false Hhz.out _).mono ?_
  rintro e w2 ⟨rfl, hb2⟩
  have hw2 := below_tr hw1 hb2
  have A2 := A1.below hb2
  have B2 := B1.below hb2
  have R2 := R1.below hb2
  have SR2 := SR1.below hb2
  clear a0 a1 a2 a3 a4 b0 b1 b2 b3 b4 r0 r1 r2 r3 r4
  have A2' := A2
  obtain ⟨a0, a1, a2, a3, a4⟩ := A2'
  have B2' := B2
  obtain ⟨b0, b1, b2, b3, b4⟩ := B2'
  have R2' := R2
  obtain ⟨r0, r1, r2, r3, r4⟩ := R2'
  go_wp2_with fail
  refine (null_is k' n' u' t' false Hhy.out _).mono ?_
  rintro e w3 ⟨rfl, hb3⟩
  have hw3 := below_tr hw2 hb3
  have A3 := A2.below hb3
  have B3 := B2.below hb3
  have R3 := R2.below hb3
  have SR3 := SR2.below hb3
  clear a0 a1 a2 a3 a4 b0 b1 b2 b3 b4 r0 r1 r2 r3 r4
  have A3' := A3
  obtain ⟨a0, a1, a2, a3, a4⟩ := A3'
  have B3' := B3
  obtain ⟨b0, b1, b2, b3, b4⟩ := B3'
  have R3' := R3
  obtain ⟨r0, r1, r2, r3, r4⟩ := R3'
  go_wp2_with fail
  refine (add_lit_is n n' Hhn.out Hhm.out p true Hhp.out Hhb.out _).mono ?_
  rintro e w4 ⟨rfl, hb4⟩
  have hw4 := below_tr hw3 hb4
  have A4 := A3.below hb4
  have B4 := B3.below hb4
  have R4 := R3.below hb4
  have SR4 := SR3.below hb4
  clear a0 a1 a2 a3 a4 b0 b1 b2 b3 b4 r0 r1 r2 r3 r4
  have A4' := A4
  obtain ⟨a0, a1, a2, a3, a4⟩ := A4'
  have B4' := B4
  obtain ⟨b0, b1, b2, b3, b4⟩ := B4'
  have R4' := R4
  obtain ⟨r0, r1, r2, r3, r4⟩ := R4'
  go_wp2_with fail
  refine (int_is p _).mono ?_
  rintro e w5 ⟨rfl, hb5⟩
  have hw5 := below_tr hw4 hb5
  have A5 := A4.below hb5
  have B5 := B4.below hb5
  have R5 := R4.below hb5
  have SR5 := SR4.below hb5
  clear a0 a1 a2 a3 a4 b0 b1 b2 b3 b4 r0 r1 r2 r3 r4
  have A5' := A5
  obtain ⟨a0, a1, a2, a3, a4⟩ := A5'
  have B5' := B5
  obtain ⟨b0, b1, b2, b3, b4⟩ := B5'
  have R5' := R5
  obtain ⟨r0, r1, r2, r3, r4⟩ := R5'
  obtain ⟨s0, s1, s2, s3, s4⟩ := SR5
  go_wp2_with fail
  have hwz := below_put4 hw5 (by omega : w.heap.size ≤ g + 2) 1 p 0 ⟨#[]⟩
  obtain ⟨q0, q1, q2, q3, q4⟩ := boxed_put4 R5 1 p 0 ⟨#[]⟩
  exact bodyPost_ret (w := put4 w5 (g + 2) 1 p 0 ⟨#[]⟩) (v := .tuple #[.agg #[.int .u8 1, .int .i64 p, .int .i64 0, .string ⟨#[]⟩], .int .i64 0]) (by simp [results, Try.results76, go_sem, q0, q1, q2, q3]) rfl ⟨rfl, hwz⟩
set_option maxHeartbeats 2000000 in
theorem calc_add_out (k n u : Int) (t : ByteArray) (k' n' u' : Int) (t' : ByteArray) (hf : (fitB 1 k && fitB 1 k') = true) (hz : nullB k = false) (hy : nullB k' = false) (hn : I64 n) (hm : I64 n') (p : Int) (hp : wrap64 (n + n') = p) (hb : inR (n + n') = false) (w : World) :
    Calls Try.prog 76 #[.agg #[.int .u8 k, .int .i64 n, .int .i64 u, .string t], .agg #[.int .u8 k', .int .i64 n', .int .i64 u', .string t'], .func (.func 77) #[] #[]] w fun e w' => e = .returned (.tuple #[.agg #[.int .u8 0, .int .i64 0, .int .i64 0, .string ⟨#[]⟩], .int .i64 61]) ∧ Below w.heap.size w w' := by
  have Hhf := Lib.hid hf
  clear hf
  have Hhz := Lib.hid hz
  clear hz
  have Hhy := Lib.hid hy
  clear hy
  have Hhn := Lib.hid hn
  clear hn
  have Hhm := Lib.hid hm
  clear hm
  have Hhb := Lib.hid hb
  clear hb
  have Hhp := Lib.hid hp
  clear hp
  obtain ⟨W, hW, A0, B0, R0, SR0, hw, hs⟩ := boxes3 w k n u t k' n' u' t'
  obtain ⟨g, hg⟩ : ∃ g, w.heap.size = g := ⟨_, rfl⟩
  rw [hg] at A0 B0 R0 SR0 hs
  have hbS := Below.allocs W (.cells #[.int .u8 k, .int .i64 n, .int .i64 u, .string t, .int .u8 k', .int .i64 n', .int .i64 u', .string t'] 23)
  have D0 := Two.new W k n u t k' n' u' t' 23
  rw [hs] at D0
  have HS := Lib.hid hs
  clear hs
  have hw0 := below_tr hw hbS
  replace A0 := A0.below hbS
  replace B0 := B0.below hbS
  replace R0 := R0.below hbS
  replace SR0 := SR0.below hbS
  go_enter Try.func76, Try.ntmps76
  go_wp2_with fail
  rw [← hW]
  clear hW
  refine (fit2_is 1 k n u t k' n' u' t' (g + 3) true Hhf.out _ D0).mono ?_
  rintro e w1 ⟨rfl, hb1⟩
  have hw1 := below_tr hw0 hb1
  have A1 := A0.below hb1
  have B1 := B0.below hb1
  have R1 := R0.below hb1
  have SR1 := SR0.below hb1
  have A1' := A1
  obtain ⟨a0, a1, a2, a3, a4⟩ := A1'
  have B1' := B1
  obtain ⟨b0, b1, b2, b3, b4⟩ := B1'
  have R1' := R1
  obtain ⟨r0, r1, r2, r3, r4⟩ := R1'
  go_wp2_with fail
  refine (null_is k n u t false Hhz.out _).mono ?_
  rintro e w2 ⟨rfl, hb2⟩
  have hw2 := below_tr hw1 hb2
  have A2 := A1.below hb2
  have B2 := B1.below hb2
  have R2 := R1.below hb2
  have SR2 := SR1.below hb2
  clear a0 a1 a2 a3 a4 b0 b1 b2 b3 b4 r0 r1 r2 r3 r4
  have A2' := A2
  obtain ⟨a0, a1, a2, a3, a4⟩ := A2'
  have B2' := B2
  obtain ⟨b0, b1, b2, b3, b4⟩ := B2'
  have R2' := R2
  obtain ⟨r0, r1, r2, r3, r4⟩ := R2'
  go_wp2_with fail
  refine (null_is k' n' u' t' false Hhy.out _).mono ?_
  rintro e w3 ⟨rfl, hb3⟩
  have hw3 := below_tr hw2 hb3
  have A3 := A2.below hb3
  have B3 := B2.below hb3
  have R3 := R2.below hb3
  have SR3 := SR2.below hb3
  clear a0 a1 a2 a3 a4 b0 b1 b2 b3 b4 r0 r1 r2 r3 r4
  have A3' := A3
  obtain ⟨a0, a1, a2, a3, a4⟩ := A3'
  have B3' := B3
  obtain ⟨b0, b1, b2, b3, b4⟩ := B3'
  have R3' := R3
  obtain ⟨r0, r1, r2, r3, r4⟩ := R3'
  go_wp2_with fail
  refine (add_lit_is n n' Hhn.out Hhm.out p false Hhp.out Hhb.out _).mono ?_
  rintro e w4 ⟨rfl, hb4⟩
  have hw4 := below_tr hw3 hb4
  have A4 := A3.below hb4
  have B4 := B3.below hb4
  have R4 := R3.below hb4
  have SR4 := SR3.below hb4
  clear a0 a1 a2 a3 a4 b0 b1 b2 b3 b4 r0 r1 r2 r3 r4
  have A4' := A4
  obtain ⟨a0, a1, a2, a3, a4⟩ := A4'
  have B4' := B4
  obtain ⟨b0, b1, b2, b3, b4⟩ := B4'
  have R4' := R4
  obtain ⟨r0, r1, r2, r3, r4⟩ := R4'
  obtain ⟨s0, s1, s2, s3, s4⟩ := SR4
  go_wp2_with fail
  have hwz := below_put4 hw4 (by omega : w.heap.size ≤ g + 2) 0 0 0 ⟨#[]⟩
  obtain ⟨q0, q1, q2, q3, q4⟩ := boxed_put4 R4 0 0 0 ⟨#[]⟩
  exact bodyPost_ret (w := put4 w4 (g + 2) 0 0 0 ⟨#[]⟩) (v := .tuple #[.agg #[.int .u8 0, .int .i64 0, .int .i64 0, .string ⟨#[]⟩], .int .i64 61]) (by simp [results, Try.results76, go_sem, q0, q1, q2, q3]) rfl ⟨rfl, hwz⟩
theorem calc_add_is (k n u : Int) (t : ByteArray) (k' n' u' : Int) (t' : ByteArray) (hn : I64 n) (hm : I64 n') (r : Res) (hr : calcR k k' (n + n') = r) (w : World) :
    Calls Try.prog 76 #[.agg #[.int .u8 k, .int .i64 n, .int .i64 u, .string t], .agg #[.int .u8 k', .int .i64 n', .int .i64 u', .string t'], .func (.func 77) #[] #[]] w fun e w' => e = .returned (.tuple #[.agg #[.int .u8 r.k, .int .i64 r.n, .int .i64 0, .string ⟨#[]⟩], .int .i64 r.e]) ∧ Below w.heap.size w w' := by
  subst hr
  unfold calcR
  cases hf : (fitB 1 k && fitB 1 k')
  · exact calc_add_no k n u t k' n' u' t' hf w
  · cases hz : nullB k
    · cases hy : nullB k'
      · cases hb : inR (n + n')
        · exact calc_add_out k n u t k' n' u' t' hf hz hy hn hm _ rfl hb w
        · exact calc_add_in k n u t k' n' u' t' hf hz hy hn hm _ (wrap_R hb) hb w
      · exact calc_add_y k n u t k' n' u' t' hf hz hy w
    · exact calc_add_z k n u t k' n' u' t' hf hz w

set_option maxHeartbeats 1000000 in
theorem add_is (k n u : Int) (t : ByteArray) (k' n' u' : Int) (t' : ByteArray) (r : Res) (hr : calcR k k' (n + n') = r) (hn : I64 n) (hm : I64 n') (w : World) :
    Calls Try.prog 58 #[.agg #[.int .u8 k, .int .i64 n, .int .i64 u, .string t], .agg #[.int .u8 k', .int .i64 n', .int .i64 u', .string t']] w fun e w' => e = .returned (.tuple #[.agg #[.int .u8 r.k, .int .i64 r.n, .int .i64 0, .string ⟨#[]⟩], .int .i64 r.e]) ∧ Below w.heap.size w w' := by
  have HR := Lib.hid hr
  clear hr
  have Hhn := Lib.hid hn
  clear hn
  have Hhm := Lib.hid hm
  clear hm
  obtain ⟨W, hW, A0, B0, R0, SR0, hw, hs⟩ := boxes3 w k n u t k' n' u' t'
  obtain ⟨g, hg⟩ : ∃ g, w.heap.size = g := ⟨_, rfl⟩
  rw [hg] at A0 B0 R0 SR0 hs
  have hw0 := hw
  have HS := Lib.hid hs
  clear hs
  go_enter Try.func58, Try.ntmps58
  go_wp2_with fail
  rw [← hW]
  clear hW
  refine (calc_add_is k n u t k' n' u' t' Hhn.out Hhm.out r HR.out _).mono ?_
  rintro e w1 ⟨rfl, hb1⟩
  have hw1 := below_tr hw0 hb1
  have A1 := A0.below hb1
  have B1 := B0.below hb1
  have R1 := R0.below hb1
  have SR1 := SR0.below hb1
  have A1' := A1
  obtain ⟨a0, a1, a2, a3, a4⟩ := A1'
  have B1' := B1
  obtain ⟨b0, b1, b2, b3, b4⟩ := B1'
  have R1' := R1
  obtain ⟨r0, r1, r2, r3, r4⟩ := R1'
  obtain ⟨s0, s1, s2, s3, s4⟩ := SR1
  go_wp2_with fail
  have hwz := below_put4 hw1 (by omega : w.heap.size ≤ g + 2) r.k r.n 0 ⟨#[]⟩
  obtain ⟨q0, q1, q2, q3, q4⟩ := boxed_put4 R1 r.k r.n 0 ⟨#[]⟩
  exact bodyPost_ret (w := put4 w1 (g + 2) r.k r.n 0 ⟨#[]⟩) (v := .tuple #[.agg #[.int .u8 r.k, .int .i64 r.n, .int .i64 0, .string ⟨#[]⟩], .int .i64 r.e]) (by simp [results, Try.results58, go_sem, q0, q1, q2, q3]) rfl ⟨rfl, hwz⟩

set_option maxHeartbeats 2000000 in
theorem calc_sub_no (k n u : Int) (t : ByteArray) (k' n' u' : Int) (t' : ByteArray) (hf : (fitB 1 k && fitB 1 k') = false) (w : World) :
    Calls Try.prog 76 #[.agg #[.int .u8 k, .int .i64 n, .int .i64 u, .string t], .agg #[.int .u8 k', .int .i64 n', .int .i64 u', .string t'], .func (.func 78) #[] #[]] w fun e w' => e = .returned (.tuple #[.agg #[.int .u8 0, .int .i64 0, .int .i64 0, .string ⟨#[]⟩], .int .i64 60]) ∧ Below w.heap.size w w' := by
  have Hhf := Lib.hid hf
  clear hf
  obtain ⟨W, hW, A0, B0, R0, SR0, hw, hs⟩ := boxes3 w k n u t k' n' u' t'
  obtain ⟨g, hg⟩ : ∃ g, w.heap.size = g := ⟨_, rfl⟩
  rw [hg] at A0 B0 R0 SR0 hs
  have hbS := Below.allocs W (.cells #[.int .u8 k, .int .i64 n, .int .i64 u, .string t, .int .u8 k', .int .i64 n', .int .i64 u', .string t'] 23)
  have D0 := Two.new W k n u t k' n' u' t' 23
  rw [hs] at D0
  have HS := Lib.hid hs
  clear hs
  have hw0 := below_tr hw hbS
  replace A0 := A0.below hbS
  replace B0 := B0.below hbS
  replace R0 := R0.below hbS
  replace SR0 := SR0.below hbS
  go_enter Try.func76, Try.ntmps76
  go_wp2_with fail
  rw [← hW]
  clear hW
  refine (fit2_is 1 k n u t k' n' u' t' (g + 3) false Hhf.out _ D0).mono ?_
  rintro e w1 ⟨rfl, hb1⟩
  have hw1 := below_tr hw0 hb1
  have A1 := A0.below hb1
  have B1 := B0.below hb1
  have R1 := R0.below hb1
  have SR1 := SR0.below hb1
  have A1' := A1
  obtain ⟨a0, a1, a2, a3, a4⟩ := A1'
  have B1' := B1
  obtain ⟨b0, b1, b2, b3, b4⟩ := B1'
  have R1' := R1
  obtain ⟨r0, r1, r2, r3, r4⟩ := R1'
  obtain ⟨s0, s1, s2, s3, s4⟩ := SR1
  go_wp2_with fail
  have hwz := below_put4 hw1 (by omega : w.heap.size ≤ g + 2) 0 0 0 ⟨#[]⟩
  obtain ⟨q0, q1, q2, q3, q4⟩ := boxed_put4 R1 0 0 0 ⟨#[]⟩
  exact bodyPost_ret (w := put4 w1 (g + 2) 0 0 0 ⟨#[]⟩) (v := .tuple #[.agg #[.int .u8 0, .int .i64 0, .int .i64 0, .string ⟨#[]⟩], .int .i64 60]) (by simp [results, Try.results76, go_sem, q0, q1, q2, q3]) rfl ⟨rfl, hwz⟩
set_option maxHeartbeats 2000000 in
theorem calc_sub_z (k n u : Int) (t : ByteArray) (k' n' u' : Int) (t' : ByteArray) (hf : (fitB 1 k && fitB 1 k') = true) (hz : nullB k = true) (w : World) :
    Calls Try.prog 76 #[.agg #[.int .u8 k, .int .i64 n, .int .i64 u, .string t], .agg #[.int .u8 k', .int .i64 n', .int .i64 u', .string t'], .func (.func 78) #[] #[]] w fun e w' => e = .returned (.tuple #[.agg #[.int .u8 0, .int .i64 0, .int .i64 0, .string ⟨#[]⟩], .int .i64 0]) ∧ Below w.heap.size w w' := by
  have Hhf := Lib.hid hf
  clear hf
  have Hhz := Lib.hid hz
  clear hz
  obtain ⟨W, hW, A0, B0, R0, SR0, hw, hs⟩ := boxes3 w k n u t k' n' u' t'
  obtain ⟨g, hg⟩ : ∃ g, w.heap.size = g := ⟨_, rfl⟩
  rw [hg] at A0 B0 R0 SR0 hs
  have hbS := Below.allocs W (.cells #[.int .u8 k, .int .i64 n, .int .i64 u, .string t, .int .u8 k', .int .i64 n', .int .i64 u', .string t'] 23)
  have D0 := Two.new W k n u t k' n' u' t' 23
  rw [hs] at D0
  have HS := Lib.hid hs
  clear hs
  have hw0 := below_tr hw hbS
  replace A0 := A0.below hbS
  replace B0 := B0.below hbS
  replace R0 := R0.below hbS
  replace SR0 := SR0.below hbS
  go_enter Try.func76, Try.ntmps76
  go_wp2_with fail
  rw [← hW]
  clear hW
  refine (fit2_is 1 k n u t k' n' u' t' (g + 3) true Hhf.out _ D0).mono ?_
  rintro e w1 ⟨rfl, hb1⟩
  have hw1 := below_tr hw0 hb1
  have A1 := A0.below hb1
  have B1 := B0.below hb1
  have R1 := R0.below hb1
  have SR1 := SR0.below hb1
  have A1' := A1
  obtain ⟨a0, a1, a2, a3, a4⟩ := A1'
  have B1' := B1
  obtain ⟨b0, b1, b2, b3, b4⟩ := B1'
  have R1' := R1
  obtain ⟨r0, r1, r2, r3, r4⟩ := R1'
  go_wp2_with fail
  refine (null_is k n u t true Hhz.out _).mono ?_
  rintro e w2 ⟨rfl, hb2⟩
  have hw2 := below_tr hw1 hb2
  have A2 := A1.below hb2
  have B2 := B1.below hb2
  have R2 := R1.below hb2
  have SR2 := SR1.below hb2
  clear a0 a1 a2 a3 a4 b0 b1 b2 b3 b4 r0 r1 r2 r3 r4
  have A2' := A2
  obtain ⟨a0, a1, a2, a3, a4⟩ := A2'
  have B2' := B2
  obtain ⟨b0, b1, b2, b3, b4⟩ := B2'
  have R2' := R2
  obtain ⟨r0, r1, r2, r3, r4⟩ := R2'
  obtain ⟨s0, s1, s2, s3, s4⟩ := SR2
  go_wp2_with fail
  have hwz := below_put4 hw2 (by omega : w.heap.size ≤ g + 2) 0 0 0 ⟨#[]⟩
  obtain ⟨q0, q1, q2, q3, q4⟩ := boxed_put4 R2 0 0 0 ⟨#[]⟩
  exact bodyPost_ret (w := put4 w2 (g + 2) 0 0 0 ⟨#[]⟩) (v := .tuple #[.agg #[.int .u8 0, .int .i64 0, .int .i64 0, .string ⟨#[]⟩], .int .i64 0]) (by simp [results, Try.results76, go_sem, q0, q1, q2, q3]) rfl ⟨rfl, hwz⟩
set_option maxHeartbeats 2000000 in
theorem calc_sub_y (k n u : Int) (t : ByteArray) (k' n' u' : Int) (t' : ByteArray) (hf : (fitB 1 k && fitB 1 k') = true) (hz : nullB k = false) (hy : nullB k' = true) (w : World) :
    Calls Try.prog 76 #[.agg #[.int .u8 k, .int .i64 n, .int .i64 u, .string t], .agg #[.int .u8 k', .int .i64 n', .int .i64 u', .string t'], .func (.func 78) #[] #[]] w fun e w' => e = .returned (.tuple #[.agg #[.int .u8 0, .int .i64 0, .int .i64 0, .string ⟨#[]⟩], .int .i64 0]) ∧ Below w.heap.size w w' := by
  have Hhf := Lib.hid hf
  clear hf
  have Hhz := Lib.hid hz
  clear hz
  have Hhy := Lib.hid hy
  clear hy
  obtain ⟨W, hW, A0, B0, R0, SR0, hw, hs⟩ := boxes3 w k n u t k' n' u' t'
  obtain ⟨g, hg⟩ : ∃ g, w.heap.size = g := ⟨_, rfl⟩
  rw [hg] at A0 B0 R0 SR0 hs
  have hbS := Below.allocs W (.cells #[.int .u8 k, .int .i64 n, .int .i64 u, .string t, .int .u8 k', .int .i64 n', .int .i64 u', .string t'] 23)
  have D0 := Two.new W k n u t k' n' u' t' 23
  rw [hs] at D0
  have HS := Lib.hid hs
  clear hs
  have hw0 := below_tr hw hbS
  replace A0 := A0.below hbS
  replace B0 := B0.below hbS
  replace R0 := R0.below hbS
  replace SR0 := SR0.below hbS
  go_enter Try.func76, Try.ntmps76
  go_wp2_with fail
  rw [← hW]
  clear hW
  refine (fit2_is 1 k n u t k' n' u' t' (g + 3) true Hhf.out _ D0).mono ?_
  rintro e w1 ⟨rfl, hb1⟩
  have hw1 := below_tr hw0 hb1
  have A1 := A0.below hb1
  have B1 := B0.below hb1
  have R1 := R0.below hb1
  have SR1 := SR0.below hb1
  have A1' := A1
  obtain ⟨a0, a1, a2, a3, a4⟩ := A1'
  have B1' := B1
  obtain ⟨b0, b1, b2, b3, b4⟩ := B1'
  have R1' := R1
  obtain ⟨r0, r1, r2, r3, r4⟩ := R1'
  go_wp2_with fail
  refine (null_is k n u t false Hhz.out _).mono ?_
  rintro e w2 ⟨rfl, hb2⟩
  have hw2 := below_tr hw1 hb2
  have A2 := A1.below hb2
  have B2 := B1.below hb2
  have R2 := R1.below hb2
  have SR2 := SR1.below hb2
  clear a0 a1 a2 a3 a4 b0 b1 b2 b3 b4 r0 r1 r2 r3 r4
  have A2' := A2
  obtain ⟨a0, a1, a2, a3, a4⟩ := A2'
  have B2' := B2
  obtain ⟨b0, b1, b2, b3, b4⟩ := B2'
  have R2' := R2
  obtain ⟨r0, r1, r2, r3, r4⟩ := R2'
  go_wp2_with fail
  refine (null_is k' n' u' t' true Hhy.out _).mono ?_
  rintro e w3 ⟨rfl, hb3⟩
  have hw3 := below_tr hw2 hb3
  have A3 := A2.below hb3
  have B3 := B2.below hb3
  have R3 := R2.below hb3
  have SR3 := SR2.below hb3
  clear a0 a1 a2 a3 a4 b0 b1 b2 b3 b4 r0 r1 r2 r3 r4
  have A3' := A3
  obtain ⟨a0, a1, a2, a3, a4⟩ := A3'
  have B3' := B3
  obtain ⟨b0, b1, b2, b3, b4⟩ := B3'
  have R3' := R3
  obtain ⟨r0, r1, r2, r3, r4⟩ := R3'
  obtain ⟨s0, s1, s2, s3, s4⟩ := SR3
  go_wp2_with fail
  have hwz := below_put4 hw3 (by omega : w.heap.size ≤ g + 2) 0 0 0 ⟨#[]⟩
  obtain ⟨q0, q1, q2, q3, q4⟩ := boxed_put4 R3 0 0 0 ⟨#[]⟩
  exact bodyPost_ret (w := put4 w3 (g + 2) 0 0 0 ⟨#[]⟩) (v := .tuple #[.agg #[.int .u8 0, .int .i64 0, .int .i64 0, .string ⟨#[]⟩], .int .i64 0]) (by simp [results, Try.results76, go_sem, q0, q1, q2, q3]) rfl ⟨rfl, hwz⟩
set_option maxHeartbeats 2000000 in
theorem calc_sub_in (k n u : Int) (t : ByteArray) (k' n' u' : Int) (t' : ByteArray) (hf : (fitB 1 k && fitB 1 k') = true) (hz : nullB k = false) (hy : nullB k' = false) (hn : I64 n) (hm : I64 n') (p : Int) (hp : wrap64 (n - n') = p) (hb : inR (n - n') = true) (w : World) :
    Calls Try.prog 76 #[.agg #[.int .u8 k, .int .i64 n, .int .i64 u, .string t], .agg #[.int .u8 k', .int .i64 n', .int .i64 u', .string t'], .func (.func 78) #[] #[]] w fun e w' => e = .returned (.tuple #[.agg #[.int .u8 1, .int .i64 p, .int .i64 0, .string ⟨#[]⟩], .int .i64 0]) ∧ Below w.heap.size w w' := by
  have Hhf := Lib.hid hf
  clear hf
  have Hhz := Lib.hid hz
  clear hz
  have Hhy := Lib.hid hy
  clear hy
  have Hhn := Lib.hid hn
  clear hn
  have Hhm := Lib.hid hm
  clear hm
  have Hhb := Lib.hid hb
  clear hb
  have Hhp := Lib.hid hp
  clear hp
  obtain ⟨W, hW, A0, B0, R0, SR0, hw, hs⟩ := boxes3 w k n u t k' n' u' t'
  obtain ⟨g, hg⟩ : ∃ g, w.heap.size = g := ⟨_, rfl⟩
  rw [hg] at A0 B0 R0 SR0 hs
  have hbS := Below.allocs W (.cells #[.int .u8 k, .int .i64 n, .int .i64 u, .string t, .int .u8 k', .int .i64 n', .int .i64 u', .string t'] 23)
  have D0 := Two.new W k n u t k' n' u' t' 23
  rw [hs] at D0
  have HS := Lib.hid hs
  clear hs
  have hw0 := below_tr hw hbS
  replace A0 := A0.below hbS
  replace B0 := B0.below hbS
  replace R0 := R0.below hbS
  replace SR0 := SR0.below hbS
  go_enter Try.func76, Try.ntmps76
  go_wp2_with fail
  rw [← hW]
  clear hW
  refine (fit2_is 1 k n u t k' n' u' t' (g + 3) true Hhf.out _ D0).mono ?_
  rintro e w1 ⟨rfl, hb1⟩
  have hw1 := below_tr hw0 hb1
  have A1 := A0.below hb1
  have B1 := B0.below hb1
  have R1 := R0.below hb1
  have SR1 := SR0.below hb1
  have A1' := A1
  obtain ⟨a0, a1, a2, a3, a4⟩ := A1'
  have B1' := B1
  obtain ⟨b0, b1, b2, b3, b4⟩ := B1'
  have R1' := R1
  obtain ⟨r0, r1, r2, r3, r4⟩ := R1'
  go_wp2_with fail
  refine (null_is k n u t false Hhz.out _).mono ?_
  rintro e w2 ⟨rfl, hb2⟩
  have hw2 := below_tr hw1 hb2
  have A2 := A1.below hb2
  have B2 := B1.below hb2
  have R2 := R1.below hb2
  have SR2 := SR1.below hb2
  clear a0 a1 a2 a3 a4 b0 b1 b2 b3 b4 r0 r1 r2 r3 r4
  have A2' := A2
  obtain ⟨a0, a1, a2, a3, a4⟩ := A2'
  have B2' := B2
  obtain ⟨b0, b1, b2, b3, b4⟩ := B2'
  have R2' := R2
  obtain ⟨r0, r1, r2, r3, r4⟩ := R2'
  go_wp2_with fail
  refine (null_is k' n' u' t' false Hhy.out _).mono ?_
  rintro e w3 ⟨rfl, hb3⟩
  have hw3 := below_tr hw2 hb3
  have A3 := A2.below hb3
  have B3 := B2.below hb3
  have R3 := R2.below hb3
  have SR3 := SR2.below hb3
  clear a0 a1 a2 a3 a4 b0 b1 b2 b3 b4 r0 r1 r2 r3 r4
  have A3' := A3
  obtain ⟨a0, a1, a2, a3, a4⟩ := A3'
  have B3' := B3
  obtain ⟨b0, b1, b2, b3, b4⟩ := B3'
  have R3' := R3
  obtain ⟨r0, r1, r2, r3, r4⟩ := R3'
  go_wp2_with fail
  refine (sub_lit_is n n' Hhn.out Hhm.out p true Hhp.out Hhb.out _).mono ?_
  rintro e w4 ⟨rfl, hb4⟩
  have hw4 := below_tr hw3 hb4
  have A4 := A3.below hb4
  have B4 := B3.below hb4
  have R4 := R3.below hb4
  have SR4 := SR3.below hb4
  clear a0 a1 a2 a3 a4 b0 b1 b2 b3 b4 r0 r1 r2 r3 r4
  have A4' := A4
  obtain ⟨a0, a1, a2, a3, a4⟩ := A4'
  have B4' := B4
  obtain ⟨b0, b1, b2, b3, b4⟩ := B4'
  have R4' := R4
  obtain ⟨r0, r1, r2, r3, r4⟩ := R4'
  go_wp2_with fail
  refine (int_is p _).mono ?_
  rintro e w5 ⟨rfl, hb5⟩
  have hw5 := below_tr hw4 hb5
  have A5 := A4.below hb5
  have B5 := B4.below hb5
  have R5 := R4.below hb5
  have SR5 := SR4.below hb5
  clear a0 a1 a2 a3 a4 b0 b1 b2 b3 b4 r0 r1 r2 r3 r4
  have A5' := A5
  obtain ⟨a0, a1, a2, a3, a4⟩ := A5'
  have B5' := B5
  obtain ⟨b0, b1, b2, b3, b4⟩ := B5'
  have R5' := R5
  obtain ⟨r0, r1, r2, r3, r4⟩ := R5'
  obtain ⟨s0, s1, s2, s3, s4⟩ := SR5
  go_wp2_with fail
  have hwz := below_put4 hw5 (by omega : w.heap.size ≤ g + 2) 1 p 0 ⟨#[]⟩
  obtain ⟨q0, q1, q2, q3, q4⟩ := boxed_put4 R5 1 p 0 ⟨#[]⟩
  exact bodyPost_ret (w := put4 w5 (g + 2) 1 p 0 ⟨#[]⟩) (v := .tuple #[.agg #[.int .u8 1, .int .i64 p, .int .i64 0, .string ⟨#[]⟩], .int .i64 0]) (by simp [results, Try.results76, go_sem, q0, q1, q2, q3]) rfl ⟨rfl, hwz⟩
set_option maxHeartbeats 2000000 in
theorem calc_sub_out (k n u : Int) (t : ByteArray) (k' n' u' : Int) (t' : ByteArray) (hf : (fitB 1 k && fitB 1 k') = true) (hz : nullB k = false) (hy : nullB k' = false) (hn : I64 n) (hm : I64 n') (p : Int) (hp : wrap64 (n - n') = p) (hb : inR (n - n') = false) (w : World) :
    Calls Try.prog 76 #[.agg #[.int .u8 k, .int .i64 n, .int .i64 u, .string t], .agg #[.int .u8 k', .int .i64 n', .int .i64 u', .string t'], .func (.func 78) #[] #[]] w fun e w' => e = .returned (.tuple #[.agg #[.int .u8 0, .int .i64 0, .int .i64 0, .string ⟨#[]⟩], .int .i64 61]) ∧ Below w.heap.size w w' := by
  have Hhf := Lib.hid hf
  clear hf
  have Hhz := Lib.hid hz
  clear hz
  have Hhy := Lib.hid hy
  clear hy
  have Hhn := Lib.hid hn
  clear hn
  have Hhm := Lib.hid hm
  clear hm
  have Hhb := Lib.hid hb
  clear hb
  have Hhp := Lib.hid hp
  clear hp
  obtain ⟨W, hW, A0, B0, R0, SR0, hw, hs⟩ := boxes3 w k n u t k' n' u' t'
  obtain ⟨g, hg⟩ : ∃ g, w.heap.size = g := ⟨_, rfl⟩
  rw [hg] at A0 B0 R0 SR0 hs
  have hbS := Below.allocs W (.cells #[.int .u8 k, .int .i64 n, .int .i64 u, .string t, .int .u8 k', .int .i64 n', .int .i64 u', .string t'] 23)
  have D0 := Two.new W k n u t k' n' u' t' 23
  rw [hs] at D0
  have HS := Lib.hid hs
  clear hs
  have hw0 := below_tr hw hbS
  replace A0 := A0.below hbS
  replace B0 := B0.below hbS
  replace R0 := R0.below hbS
  replace SR0 := SR0.below hbS
  go_enter Try.func76, Try.ntmps76
  go_wp2_with fail
  rw [← hW]
  clear hW
  refine (fit2_is 1 k n u t k' n' u' t' (g + 3) true Hhf.out _ D0).mono ?_
  rintro e w1 ⟨rfl, hb1⟩
  have hw1 := below_tr hw0 hb1
  have A1 := A0.below hb1
  have B1 := B0.below hb1
  have R1 := R0.below hb1
  have SR1 := SR0.below hb1
  have A1' := A1
  obtain ⟨a0, a1, a2, a3, a4⟩ := A1'
  have B1' := B1
  obtain ⟨b0, b1, b2, b3, b4⟩ := B1'
  have R1' := R1
  obtain ⟨r0, r1, r2, r3, r4⟩ := R1'
  go_wp2_with fail
  refine (null_is k n u t false Hhz.out _).mono ?_
  rintro e w2 ⟨rfl, hb2⟩
  have hw2 := below_tr hw1 hb2
  have A2 := A1.below hb2
  have B2 := B1.below hb2
  have R2 := R1.below hb2
  have SR2 := SR1.below hb2
  clear a0 a1 a2 a3 a4 b0 b1 b2 b3 b4 r0 r1 r2 r3 r4
  have A2' := A2
  obtain ⟨a0, a1, a2, a3, a4⟩ := A2'
  have B2' := B2
  obtain ⟨b0, b1, b2, b3, b4⟩ := B2'
  have R2' := R2
  obtain ⟨r0, r1, r2, r3, r4⟩ := R2'
  go_wp2_with fail
  refine (null_is k' n' u' t' false Hhy.out _).mono ?_
  rintro e w3 ⟨rfl, hb3⟩
  have hw3 := below_tr hw2 hb3
  have A3 := A2.below hb3
  have B3 := B2.below hb3
  have R3 := R2.below hb3
  have SR3 := SR2.below hb3
  clear a0 a1 a2 a3 a4 b0 b1 b2 b3 b4 r0 r1 r2 r3 r4
  have A3' := A3
  obtain ⟨a0, a1, a2, a3, a4⟩ := A3'
  have B3' := B3
  obtain ⟨b0, b1, b2, b3, b4⟩ := B3'
  have R3' := R3
  obtain ⟨r0, r1, r2, r3, r4⟩ := R3'
  go_wp2_with fail
  refine (sub_lit_is n n' Hhn.out Hhm.out p false Hhp.out Hhb.out _).mono ?_
  rintro e w4 ⟨rfl, hb4⟩
  have hw4 := below_tr hw3 hb4
  have A4 := A3.below hb4
  have B4 := B3.below hb4
  have R4 := R3.below hb4
  have SR4 := SR3.below hb4
  clear a0 a1 a2 a3 a4 b0 b1 b2 b3 b4 r0 r1 r2 r3 r4
  have A4' := A4
  obtain ⟨a0, a1, a2, a3, a4⟩ := A4'
  have B4' := B4
  obtain ⟨b0, b1, b2, b3, b4⟩ := B4'
  have R4' := R4
  obtain ⟨r0, r1, r2, r3, r4⟩ := R4'
  obtain ⟨s0, s1, s2, s3, s4⟩ := SR4
  go_wp2_with fail
  have hwz := below_put4 hw4 (by omega : w.heap.size ≤ g + 2) 0 0 0 ⟨#[]⟩
  obtain ⟨q0, q1, q2, q3, q4⟩ := boxed_put4 R4 0 0 0 ⟨#[]⟩
  exact bodyPost_ret (w := put4 w4 (g + 2) 0 0 0 ⟨#[]⟩) (v := .tuple #[.agg #[.int .u8 0, .int .i64 0, .int .i64 0, .string ⟨#[]⟩], .int .i64 61]) (by simp [results, Try.results76, go_sem, q0, q1, q2, q3]) rfl ⟨rfl, hwz⟩
theorem calc_sub_is (k n u : Int) (t : ByteArray) (k' n' u' : Int) (t' : ByteArray) (hn : I64 n) (hm : I64 n') (r : Res) (hr : calcR k k' (n - n') = r) (w : World) :
    Calls Try.prog 76 #[.agg #[.int .u8 k, .int .i64 n, .int .i64 u, .string t], .agg #[.int .u8 k', .int .i64 n', .int .i64 u', .string t'], .func (.func 78) #[] #[]] w fun e w' => e = .returned (.tuple #[.agg #[.int .u8 r.k, .int .i64 r.n, .int .i64 0, .string ⟨#[]⟩], .int .i64 r.e]) ∧ Below w.heap.size w w' := by
  subst hr
  unfold calcR
  cases hf : (fitB 1 k && fitB 1 k')
  · exact calc_sub_no k n u t k' n' u' t' hf w
  · cases hz : nullB k
    · cases hy : nullB k'
      · cases hb : inR (n - n')
        · exact calc_sub_out k n u t k' n' u' t' hf hz hy hn hm _ rfl hb w
        · exact calc_sub_in k n u t k' n' u' t' hf hz hy hn hm _ (wrap_R hb) hb w
      · exact calc_sub_y k n u t k' n' u' t' hf hz hy w
    · exact calc_sub_z k n u t k' n' u' t' hf hz w

set_option maxHeartbeats 1000000 in
theorem sub_is (k n u : Int) (t : ByteArray) (k' n' u' : Int) (t' : ByteArray) (r : Res) (hr : calcR k k' (n - n') = r) (hn : I64 n) (hm : I64 n') (w : World) :
    Calls Try.prog 59 #[.agg #[.int .u8 k, .int .i64 n, .int .i64 u, .string t], .agg #[.int .u8 k', .int .i64 n', .int .i64 u', .string t']] w fun e w' => e = .returned (.tuple #[.agg #[.int .u8 r.k, .int .i64 r.n, .int .i64 0, .string ⟨#[]⟩], .int .i64 r.e]) ∧ Below w.heap.size w w' := by
  have HR := Lib.hid hr
  clear hr
  have Hhn := Lib.hid hn
  clear hn
  have Hhm := Lib.hid hm
  clear hm
  obtain ⟨W, hW, A0, B0, R0, SR0, hw, hs⟩ := boxes3 w k n u t k' n' u' t'
  obtain ⟨g, hg⟩ : ∃ g, w.heap.size = g := ⟨_, rfl⟩
  rw [hg] at A0 B0 R0 SR0 hs
  have hw0 := hw
  have HS := Lib.hid hs
  clear hs
  go_enter Try.func59, Try.ntmps59
  go_wp2_with fail
  rw [← hW]
  clear hW
  refine (calc_sub_is k n u t k' n' u' t' Hhn.out Hhm.out r HR.out _).mono ?_
  rintro e w1 ⟨rfl, hb1⟩
  have hw1 := below_tr hw0 hb1
  have A1 := A0.below hb1
  have B1 := B0.below hb1
  have R1 := R0.below hb1
  have SR1 := SR0.below hb1
  have A1' := A1
  obtain ⟨a0, a1, a2, a3, a4⟩ := A1'
  have B1' := B1
  obtain ⟨b0, b1, b2, b3, b4⟩ := B1'
  have R1' := R1
  obtain ⟨r0, r1, r2, r3, r4⟩ := R1'
  obtain ⟨s0, s1, s2, s3, s4⟩ := SR1
  go_wp2_with fail
  have hwz := below_put4 hw1 (by omega : w.heap.size ≤ g + 2) r.k r.n 0 ⟨#[]⟩
  obtain ⟨q0, q1, q2, q3, q4⟩ := boxed_put4 R1 r.k r.n 0 ⟨#[]⟩
  exact bodyPost_ret (w := put4 w1 (g + 2) r.k r.n 0 ⟨#[]⟩) (v := .tuple #[.agg #[.int .u8 r.k, .int .i64 r.n, .int .i64 0, .string ⟨#[]⟩], .int .i64 r.e]) (by simp [results, Try.results59, go_sem, q0, q1, q2, q3]) rfl ⟨rfl, hwz⟩

set_option maxHeartbeats 2000000 in
theorem calc_mul_no (k n u : Int) (t : ByteArray) (k' n' u' : Int) (t' : ByteArray) (hf : (fitB 1 k && fitB 1 k') = false) (w : World) :
    Calls Try.prog 76 #[.agg #[.int .u8 k, .int .i64 n, .int .i64 u, .string t], .agg #[.int .u8 k', .int .i64 n', .int .i64 u', .string t'], .func (.func 79) #[] #[]] w fun e w' => e = .returned (.tuple #[.agg #[.int .u8 0, .int .i64 0, .int .i64 0, .string ⟨#[]⟩], .int .i64 60]) ∧ Below w.heap.size w w' := by
  have Hhf := Lib.hid hf
  clear hf
  obtain ⟨W, hW, A0, B0, R0, SR0, hw, hs⟩ := boxes3 w k n u t k' n' u' t'
  obtain ⟨g, hg⟩ : ∃ g, w.heap.size = g := ⟨_, rfl⟩
  rw [hg] at A0 B0 R0 SR0 hs
  have hbS := Below.allocs W (.cells #[.int .u8 k, .int .i64 n, .int .i64 u, .string t, .int .u8 k', .int .i64 n', .int .i64 u', .string t'] 23)
  have D0 := Two.new W k n u t k' n' u' t' 23
  rw [hs] at D0
  have HS := Lib.hid hs
  clear hs
  have hw0 := below_tr hw hbS
  replace A0 := A0.below hbS
  replace B0 := B0.below hbS
  replace R0 := R0.below hbS
  replace SR0 := SR0.below hbS
  go_enter Try.func76, Try.ntmps76
  go_wp2_with fail
  rw [← hW]
  clear hW
  refine (fit2_is 1 k n u t k' n' u' t' (g + 3) false Hhf.out _ D0).mono ?_
  rintro e w1 ⟨rfl, hb1⟩
  have hw1 := below_tr hw0 hb1
  have A1 := A0.below hb1
  have B1 := B0.below hb1
  have R1 := R0.below hb1
  have SR1 := SR0.below hb1
  have A1' := A1
  obtain ⟨a0, a1, a2, a3, a4⟩ := A1'
  have B1' := B1
  obtain ⟨b0, b1, b2, b3, b4⟩ := B1'
  have R1' := R1
  obtain ⟨r0, r1, r2, r3, r4⟩ := R1'
  obtain ⟨s0, s1, s2, s3, s4⟩ := SR1
  go_wp2_with fail
  have hwz := below_put4 hw1 (by omega : w.heap.size ≤ g + 2) 0 0 0 ⟨#[]⟩
  obtain ⟨q0, q1, q2, q3, q4⟩ := boxed_put4 R1 0 0 0 ⟨#[]⟩
  exact bodyPost_ret (w := put4 w1 (g + 2) 0 0 0 ⟨#[]⟩) (v := .tuple #[.agg #[.int .u8 0, .int .i64 0, .int .i64 0, .string ⟨#[]⟩], .int .i64 60]) (by simp [results, Try.results76, go_sem, q0, q1, q2, q3]) rfl ⟨rfl, hwz⟩
set_option maxHeartbeats 2000000 in
theorem calc_mul_z (k n u : Int) (t : ByteArray) (k' n' u' : Int) (t' : ByteArray) (hf : (fitB 1 k && fitB 1 k') = true) (hz : nullB k = true) (w : World) :
    Calls Try.prog 76 #[.agg #[.int .u8 k, .int .i64 n, .int .i64 u, .string t], .agg #[.int .u8 k', .int .i64 n', .int .i64 u', .string t'], .func (.func 79) #[] #[]] w fun e w' => e = .returned (.tuple #[.agg #[.int .u8 0, .int .i64 0, .int .i64 0, .string ⟨#[]⟩], .int .i64 0]) ∧ Below w.heap.size w w' := by
  have Hhf := Lib.hid hf
  clear hf
  have Hhz := Lib.hid hz
  clear hz
  obtain ⟨W, hW, A0, B0, R0, SR0, hw, hs⟩ := boxes3 w k n u t k' n' u' t'
  obtain ⟨g, hg⟩ : ∃ g, w.heap.size = g := ⟨_, rfl⟩
  rw [hg] at A0 B0 R0 SR0 hs
  have hbS := Below.allocs W (.cells #[.int .u8 k, .int .i64 n, .int .i64 u, .string t, .int .u8 k', .int .i64 n', .int .i64 u', .string t'] 23)
  have D0 := Two.new W k n u t k' n' u' t' 23
  rw [hs] at D0
  have HS := Lib.hid hs
  clear hs
  have hw0 := below_tr hw hbS
  replace A0 := A0.below hbS
  replace B0 := B0.below hbS
  replace R0 := R0.below hbS
  replace SR0 := SR0.below hbS
  go_enter Try.func76, Try.ntmps76
  go_wp2_with fail
  rw [← hW]
  clear hW
  refine (fit2_is 1 k n u t k' n' u' t' (g + 3) true Hhf.out _ D0).mono ?_
  rintro e w1 ⟨rfl, hb1⟩
  have hw1 := below_tr hw0 hb1
  have A1 := A0.below hb1
  have B1 := B0.below hb1
  have R1 := R0.below hb1
  have SR1 := SR0.below hb1
  have A1' := A1
  obtain ⟨a0, a1, a2, a3, a4⟩ := A1'
  have B1' := B1
  obtain ⟨b0, b1, b2, b3, b4⟩ := B1'
  have R1' := R1
  obtain ⟨r0, r1, r2, r3, r4⟩ := R1'
  go_wp2_with fail
  refine (null_is k n u t true Hhz.out _).mono ?_
  rintro e w2 ⟨rfl, hb2⟩
  have hw2 := below_tr hw1 hb2
  have A2 := A1.below hb2
  have B2 := B1.below hb2
  have R2 := R1.below hb2
  have SR2 := SR1.below hb2
  clear a0 a1 a2 a3 a4 b0 b1 b2 b3 b4 r0 r1 r2 r3 r4
  have A2' := A2
  obtain ⟨a0, a1, a2, a3, a4⟩ := A2'
  have B2' := B2
  obtain ⟨b0, b1, b2, b3, b4⟩ := B2'
  have R2' := R2
  obtain ⟨r0, r1, r2, r3, r4⟩ := R2'
  obtain ⟨s0, s1, s2, s3, s4⟩ := SR2
  go_wp2_with fail
  have hwz := below_put4 hw2 (by omega : w.heap.size ≤ g + 2) 0 0 0 ⟨#[]⟩
  obtain ⟨q0, q1, q2, q3, q4⟩ := boxed_put4 R2 0 0 0 ⟨#[]⟩
  exact bodyPost_ret (w := put4 w2 (g + 2) 0 0 0 ⟨#[]⟩) (v := .tuple #[.agg #[.int .u8 0, .int .i64 0, .int .i64 0, .string ⟨#[]⟩], .int .i64 0]) (by simp [results, Try.results76, go_sem, q0, q1, q2, q3]) rfl ⟨rfl, hwz⟩
set_option maxHeartbeats 2000000 in
theorem calc_mul_y (k n u : Int) (t : ByteArray) (k' n' u' : Int) (t' : ByteArray) (hf : (fitB 1 k && fitB 1 k') = true) (hz : nullB k = false) (hy : nullB k' = true) (w : World) :
    Calls Try.prog 76 #[.agg #[.int .u8 k, .int .i64 n, .int .i64 u, .string t], .agg #[.int .u8 k', .int .i64 n', .int .i64 u', .string t'], .func (.func 79) #[] #[]] w fun e w' => e = .returned (.tuple #[.agg #[.int .u8 0, .int .i64 0, .int .i64 0, .string ⟨#[]⟩], .int .i64 0]) ∧ Below w.heap.size w w' := by
  have Hhf := Lib.hid hf
  clear hf
  have Hhz := Lib.hid hz
  clear hz
  have Hhy := Lib.hid hy
  clear hy
  obtain ⟨W, hW, A0, B0, R0, SR0, hw, hs⟩ := boxes3 w k n u t k' n' u' t'
  obtain ⟨g, hg⟩ : ∃ g, w.heap.size = g := ⟨_, rfl⟩
  rw [hg] at A0 B0 R0 SR0 hs
  have hbS := Below.allocs W (.cells #[.int .u8 k, .int .i64 n, .int .i64 u, .string t, .int .u8 k', .int .i64 n', .int .i64 u', .string t'] 23)
  have D0 := Two.new W k n u t k' n' u' t' 23
  rw [hs] at D0
  have HS := Lib.hid hs
  clear hs
  have hw0 := below_tr hw hbS
  replace A0 := A0.below hbS
  replace B0 := B0.below hbS
  replace R0 := R0.below hbS
  replace SR0 := SR0.below hbS
  go_enter Try.func76, Try.ntmps76
  go_wp2_with fail
  rw [← hW]
  clear hW
  refine (fit2_is 1 k n u t k' n' u' t' (g + 3) true Hhf.out _ D0).mono ?_
  rintro e w1 ⟨rfl, hb1⟩
  have hw1 := below_tr hw0 hb1
  have A1 := A0.below hb1
  have B1 := B0.below hb1
  have R1 := R0.below hb1
  have SR1 := SR0.below hb1
  have A1' := A1
  obtain ⟨a0, a1, a2, a3, a4⟩ := A1'
  have B1' := B1
  obtain ⟨b0, b1, b2, b3, b4⟩ := B1'
  have R1' := R1
  obtain ⟨r0, r1, r2, r3, r4⟩ := R1'
  go_wp2_with fail
  refine (null_is k n u t false Hhz.out _).mono ?_
  rintro e w2 ⟨rfl, hb2⟩
  have hw2 := below_tr hw1 hb2
  have A2 := A1.below hb2
  have B2 := B1.below hb2
  have R2 := R1.below hb2
  have SR2 := SR1.below hb2
  clear a0 a1 a2 a3 a4 b0 b1 b2 b3 b4 r0 r1 r2 r3 r4
  have A2' := A2
  obtain ⟨a0, a1, a2, a3, a4⟩ := A2'
  have B2' := B2
  obtain ⟨b0, b1, b2, b3, b4⟩ := B2'
  have R2' := R2
  obtain ⟨r0, r1, r2, r3, r4⟩ := R2'
  go_wp2_with fail
  refine (null_is k' n' u' t' true Hhy.out _).mono ?_
  rintro e w3 ⟨rfl, hb3⟩
  have hw3 := below_tr hw2 hb3
  have A3 := A2.below hb3
  have B3 := B2.below hb3
  have R3 := R2.below hb3
  have SR3 := SR2.below hb3
  clear a0 a1 a2 a3 a4 b0 b1 b2 b3 b4 r0 r1 r2 r3 r4
  have A3' := A3
  obtain ⟨a0, a1, a2, a3, a4⟩ := A3'
  have B3' := B3
  obtain ⟨b0, b1, b2, b3, b4⟩ := B3'
  have R3' := R3
  obtain ⟨r0, r1, r2, r3, r4⟩ := R3'
  obtain ⟨s0, s1, s2, s3, s4⟩ := SR3
  go_wp2_with fail
  have hwz := below_put4 hw3 (by omega : w.heap.size ≤ g + 2) 0 0 0 ⟨#[]⟩
  obtain ⟨q0, q1, q2, q3, q4⟩ := boxed_put4 R3 0 0 0 ⟨#[]⟩
  exact bodyPost_ret (w := put4 w3 (g + 2) 0 0 0 ⟨#[]⟩) (v := .tuple #[.agg #[.int .u8 0, .int .i64 0, .int .i64 0, .string ⟨#[]⟩], .int .i64 0]) (by simp [results, Try.results76, go_sem, q0, q1, q2, q3]) rfl ⟨rfl, hwz⟩
set_option maxHeartbeats 2000000 in
theorem calc_mul_in (k n u : Int) (t : ByteArray) (k' n' u' : Int) (t' : ByteArray) (hf : (fitB 1 k && fitB 1 k') = true) (hz : nullB k = false) (hy : nullB k' = false) (hn : I64 n) (hm : I64 n') (p : Int) (hp : wrap64 (n * n') = p) (hb : inR (n * n') = true) (w : World) :
    Calls Try.prog 76 #[.agg #[.int .u8 k, .int .i64 n, .int .i64 u, .string t], .agg #[.int .u8 k', .int .i64 n', .int .i64 u', .string t'], .func (.func 79) #[] #[]] w fun e w' => e = .returned (.tuple #[.agg #[.int .u8 1, .int .i64 p, .int .i64 0, .string ⟨#[]⟩], .int .i64 0]) ∧ Below w.heap.size w w' := by
  have Hhf := Lib.hid hf
  clear hf
  have Hhz := Lib.hid hz
  clear hz
  have Hhy := Lib.hid hy
  clear hy
  have Hhn := Lib.hid hn
  clear hn
  have Hhm := Lib.hid hm
  clear hm
  have Hhb := Lib.hid hb
  clear hb
  have Hhp := Lib.hid hp
  clear hp
  obtain ⟨W, hW, A0, B0, R0, SR0, hw, hs⟩ := boxes3 w k n u t k' n' u' t'
  obtain ⟨g, hg⟩ : ∃ g, w.heap.size = g := ⟨_, rfl⟩
  rw [hg] at A0 B0 R0 SR0 hs
  have hbS := Below.allocs W (.cells #[.int .u8 k, .int .i64 n, .int .i64 u, .string t, .int .u8 k', .int .i64 n', .int .i64 u', .string t'] 23)
  have D0 := Two.new W k n u t k' n' u' t' 23
  rw [hs] at D0
  have HS := Lib.hid hs
  clear hs
  have hw0 := below_tr hw hbS
  replace A0 := A0.below hbS
  replace B0 := B0.below hbS
  replace R0 := R0.below hbS
  replace SR0 := SR0.below hbS
  go_enter Try.func76, Try.ntmps76
  go_wp2_with fail
  rw [← hW]
  clear hW
  refine (fit2_is 1 k n u t k' n' u' t' (g + 3) true Hhf.out _ D0).mono ?_
  rintro e w1 ⟨rfl, hb1⟩
  have hw1 := below_tr hw0 hb1
  have A1 := A0.below hb1
  have B1 := B0.below hb1
  have R1 := R0.below hb1
  have SR1 := SR0.below hb1
  have A1' := A1
  obtain ⟨a0, a1, a2, a3, a4⟩ := A1'
  have B1' := B1
  obtain ⟨b0, b1, b2, b3, b4⟩ := B1'
  have R1' := R1
  obtain ⟨r0, r1, r2, r3, r4⟩ := R1'
  go_wp2_with fail
  refine (null_is k n u t false Hhz.out _).mono ?_
  rintro e w2 ⟨rfl, hb2⟩
  have hw2 := below_tr hw1 hb2
  have A2 := A1.below hb2
  have B2 := B1.below hb2
  have R2 := R1.below hb2
  have SR2 := SR1.below hb2
  clear a0 a1 a2 a3 a4 b0 b1 b2 b3 b4 r0 r1 r2 r3 r4
  have A2' := A2
  obtain ⟨a0, a1, a2, a3, a4⟩ := A2'
  have B2' := B2
  obtain ⟨b0, b1, b2, b3, b4⟩ := B2'
  have R2' := R2
  obtain ⟨r0, r1, r2, r3, r4⟩ := R2'
  go_wp2_with fail
  refine (null_is k' n' u' t' false Hhy.out _).mono ?_
  rintro e w3 ⟨rfl, hb3⟩
  have hw3 := below_tr hw2 hb3
  have A3 := A2.below hb3
  have B3 := B2.below hb3
  have R3 := R2.below hb3
  have SR3 := SR2.below hb3
  clear a0 a1 a2 a3 a4 b0 b1 b2 b3 b4 r0 r1 r2 r3 r4
  have A3' := A3
  obtain ⟨a0, a1, a2, a3, a4⟩ := A3'
  have B3' := B3
  obtain ⟨b0, b1, b2, b3, b4⟩ := B3'
  have R3' := R3
  obtain ⟨r0, r1, r2, r3, r4⟩ := R3'
  go_wp2_with fail
  refine (mul_lit_is n n' Hhn.out Hhm.out p true Hhp.out Hhb.out _).mono ?_
  rintro e w4 ⟨rfl, hb4⟩
  have hw4 := below_tr hw3 hb4
  have A4 := A3.below hb4
  have B4 := B3.below hb4
  have R4 := R3.below hb4
  have SR4 := SR3.below hb4
  clear a0 a1 a2 a3 a4 b0 b1 b2 b3 b4 r0 r1 r2 r3 r4
  have A4' := A4
  obtain ⟨a0, a1, a2, a3, a4⟩ := A4'
  have B4' := B4
  obtain ⟨b0, b1, b2, b3, b4⟩ := B4'
  have R4' := R4
  obtain ⟨r0, r1, r2, r3, r4⟩ := R4'
  go_wp2_with fail
  refine (int_is p _).mono ?_
  rintro e w5 ⟨rfl, hb5⟩
  have hw5 := below_tr hw4 hb5
  have A5 := A4.below hb5
  have B5 := B4.below hb5
  have R5 := R4.below hb5
  have SR5 := SR4.below hb5
  clear a0 a1 a2 a3 a4 b0 b1 b2 b3 b4 r0 r1 r2 r3 r4
  have A5' := A5
  obtain ⟨a0, a1, a2, a3, a4⟩ := A5'
  have B5' := B5
  obtain ⟨b0, b1, b2, b3, b4⟩ := B5'
  have R5' := R5
  obtain ⟨r0, r1, r2, r3, r4⟩ := R5'
  obtain ⟨s0, s1, s2, s3, s4⟩ := SR5
  go_wp2_with fail
  have hwz := below_put4 hw5 (by omega : w.heap.size ≤ g + 2) 1 p 0 ⟨#[]⟩
  obtain ⟨q0, q1, q2, q3, q4⟩ := boxed_put4 R5 1 p 0 ⟨#[]⟩
  exact bodyPost_ret (w := put4 w5 (g + 2) 1 p 0 ⟨#[]⟩) (v := .tuple #[.agg #[.int .u8 1, .int .i64 p, .int .i64 0, .string ⟨#[]⟩], .int .i64 0]) (by simp [results, Try.results76, go_sem, q0, q1, q2, q3]) rfl ⟨rfl, hwz⟩
set_option maxHeartbeats 2000000 in
theorem calc_mul_out (k n u : Int) (t : ByteArray) (k' n' u' : Int) (t' : ByteArray) (hf : (fitB 1 k && fitB 1 k') = true) (hz : nullB k = false) (hy : nullB k' = false) (hn : I64 n) (hm : I64 n') (p : Int) (hp : wrap64 (n * n') = p) (hb : inR (n * n') = false) (w : World) :
    Calls Try.prog 76 #[.agg #[.int .u8 k, .int .i64 n, .int .i64 u, .string t], .agg #[.int .u8 k', .int .i64 n', .int .i64 u', .string t'], .func (.func 79) #[] #[]] w fun e w' => e = .returned (.tuple #[.agg #[.int .u8 0, .int .i64 0, .int .i64 0, .string ⟨#[]⟩], .int .i64 61]) ∧ Below w.heap.size w w' := by
  have Hhf := Lib.hid hf
  clear hf
  have Hhz := Lib.hid hz
  clear hz
  have Hhy := Lib.hid hy
  clear hy
  have Hhn := Lib.hid hn
  clear hn
  have Hhm := Lib.hid hm
  clear hm
  have Hhb := Lib.hid hb
  clear hb
  have Hhp := Lib.hid hp
  clear hp
  obtain ⟨W, hW, A0, B0, R0, SR0, hw, hs⟩ := boxes3 w k n u t k' n' u' t'
  obtain ⟨g, hg⟩ : ∃ g, w.heap.size = g := ⟨_, rfl⟩
  rw [hg] at A0 B0 R0 SR0 hs
  have hbS := Below.allocs W (.cells #[.int .u8 k, .int .i64 n, .int .i64 u, .string t, .int .u8 k', .int .i64 n', .int .i64 u', .string t'] 23)
  have D0 := Two.new W k n u t k' n' u' t' 23
  rw [hs] at D0
  have HS := Lib.hid hs
  clear hs
  have hw0 := below_tr hw hbS
  replace A0 := A0.below hbS
  replace B0 := B0.below hbS
  replace R0 := R0.below hbS
  replace SR0 := SR0.below hbS
  go_enter Try.func76, Try.ntmps76
  go_wp2_with fail
  rw [← hW]
  clear hW
  refine (fit2_is 1 k n u t k' n' u' t' (g + 3) true Hhf.out _ D0).mono ?_
  rintro e w1 ⟨rfl, hb1⟩
  have hw1 := below_tr hw0 hb1
  have A1 := A0.below hb1
  have B1 := B0.below hb1
  have R1 := R0.below hb1
  have SR1 := SR0.below hb1
  have A1' := A1
  obtain ⟨a0, a1, a2, a3, a4⟩ := A1'
  have B1' := B1
  obtain ⟨b0, b1, b2, b3, b4⟩ := B1'
  have R1' := R1
  obtain ⟨r0, r1, r2, r3, r4⟩ := R1'
  go_wp2_with fail
  refine (null_is k n u t false Hhz.out _).mono ?_
  rintro e w2 ⟨rfl, hb2⟩
  have hw2 := below_tr hw1 hb2
  have A2 := A1.below hb2
  have B2 := B1.below hb2
  have R2 := R1.below hb2
  have SR2 := SR1.below hb2
  clear a0 a1 a2 a3 a4 b0 b1 b2 b3 b4 r0 r1 r2 r3 r4
  have A2' := A2
  obtain ⟨a0, a1, a2, a3, a4⟩ := A2'
  have B2' := B2
  obtain ⟨b0, b1, b2, b3, b4⟩ := B2'
  have R2' := R2
  obtain ⟨r0, r1, r2, r3, r4⟩ := R2'
  go_wp2_with fail
  refine (null_is k' n' u' t' false Hhy.out _).mono ?_
  rintro e w3 ⟨rfl, hb3⟩
  have hw3 := below_tr hw2 hb3
  have A3 := A2.below hb3
  have B3 := B2.below hb3
  have R3 := R2.below hb3
  have SR3 := SR2.below hb3
  clear a0 a1 a2 a3 a4 b0 b1 b2 b3 b4 r0 r1 r2 r3 r4
  have A3' := A3
  obtain ⟨a0, a1, a2, a3, a4⟩ := A3'
  have B3' := B3
  obtain ⟨b0, b1, b2, b3, b4⟩ := B3'
  have R3' := R3
  obtain ⟨r0, r1, r2, r3, r4⟩ := R3'
  go_wp2_with fail
  refine (mul_lit_is n n' Hhn.out Hhm.out p false Hhp.out Hhb.out _).mono ?_
  rintro e w4 ⟨rfl, hb4⟩
  have hw4 := below_tr hw3 hb4
  have A4 := A3.below hb4
  have B4 := B3.below hb4
  have R4 := R3.below hb4
  have SR4 := SR3.below hb4
  clear a0 a1 a2 a3 a4 b0 b1 b2 b3 b4 r0 r1 r2 r3 r4
  have A4' := A4
  obtain ⟨a0, a1, a2, a3, a4⟩ := A4'
  have B4' := B4
  obtain ⟨b0, b1, b2, b3, b4⟩ := B4'
  have R4' := R4
  obtain ⟨r0, r1, r2, r3, r4⟩ := R4'
  obtain ⟨s0, s1, s2, s3, s4⟩ := SR4
  go_wp2_with fail
  have hwz := below_put4 hw4 (by omega : w.heap.size ≤ g + 2) 0 0 0 ⟨#[]⟩
  obtain ⟨q0, q1, q2, q3, q4⟩ := boxed_put4 R4 0 0 0 ⟨#[]⟩
  exact bodyPost_ret (w := put4 w4 (g + 2) 0 0 0 ⟨#[]⟩) (v := .tuple #[.agg #[.int .u8 0, .int .i64 0, .int .i64 0, .string ⟨#[]⟩], .int .i64 61]) (by simp [results, Try.results76, go_sem, q0, q1, q2, q3]) rfl ⟨rfl, hwz⟩
theorem calc_mul_is (k n u : Int) (t : ByteArray) (k' n' u' : Int) (t' : ByteArray) (hn : I64 n) (hm : I64 n') (r : Res) (hr : calcR k k' (n * n') = r) (w : World) :
    Calls Try.prog 76 #[.agg #[.int .u8 k, .int .i64 n, .int .i64 u, .string t], .agg #[.int .u8 k', .int .i64 n', .int .i64 u', .string t'], .func (.func 79) #[] #[]] w fun e w' => e = .returned (.tuple #[.agg #[.int .u8 r.k, .int .i64 r.n, .int .i64 0, .string ⟨#[]⟩], .int .i64 r.e]) ∧ Below w.heap.size w w' := by
  subst hr
  unfold calcR
  cases hf : (fitB 1 k && fitB 1 k')
  · exact calc_mul_no k n u t k' n' u' t' hf w
  · cases hz : nullB k
    · cases hy : nullB k'
      · cases hb : inR (n * n')
        · exact calc_mul_out k n u t k' n' u' t' hf hz hy hn hm _ rfl hb w
        · exact calc_mul_in k n u t k' n' u' t' hf hz hy hn hm _ (wrap_R hb) hb w
      · exact calc_mul_y k n u t k' n' u' t' hf hz hy w
    · exact calc_mul_z k n u t k' n' u' t' hf hz w

set_option maxHeartbeats 1000000 in
theorem mul_is (k n u : Int) (t : ByteArray) (k' n' u' : Int) (t' : ByteArray) (r : Res) (hr : calcR k k' (n * n') = r) (hn : I64 n) (hm : I64 n') (w : World) :
    Calls Try.prog 60 #[.agg #[.int .u8 k, .int .i64 n, .int .i64 u, .string t], .agg #[.int .u8 k', .int .i64 n', .int .i64 u', .string t']] w fun e w' => e = .returned (.tuple #[.agg #[.int .u8 r.k, .int .i64 r.n, .int .i64 0, .string ⟨#[]⟩], .int .i64 r.e]) ∧ Below w.heap.size w w' := by
  have HR := Lib.hid hr
  clear hr
  have Hhn := Lib.hid hn
  clear hn
  have Hhm := Lib.hid hm
  clear hm
  obtain ⟨W, hW, A0, B0, R0, SR0, hw, hs⟩ := boxes3 w k n u t k' n' u' t'
  obtain ⟨g, hg⟩ : ∃ g, w.heap.size = g := ⟨_, rfl⟩
  rw [hg] at A0 B0 R0 SR0 hs
  have hw0 := hw
  have HS := Lib.hid hs
  clear hs
  go_enter Try.func60, Try.ntmps60
  go_wp2_with fail
  rw [← hW]
  clear hW
  refine (calc_mul_is k n u t k' n' u' t' Hhn.out Hhm.out r HR.out _).mono ?_
  rintro e w1 ⟨rfl, hb1⟩
  have hw1 := below_tr hw0 hb1
  have A1 := A0.below hb1
  have B1 := B0.below hb1
  have R1 := R0.below hb1
  have SR1 := SR0.below hb1
  have A1' := A1
  obtain ⟨a0, a1, a2, a3, a4⟩ := A1'
  have B1' := B1
  obtain ⟨b0, b1, b2, b3, b4⟩ := B1'
  have R1' := R1
  obtain ⟨r0, r1, r2, r3, r4⟩ := R1'
  obtain ⟨s0, s1, s2, s3, s4⟩ := SR1
  go_wp2_with fail
  have hwz := below_put4 hw1 (by omega : w.heap.size ≤ g + 2) r.k r.n 0 ⟨#[]⟩
  obtain ⟨q0, q1, q2, q3, q4⟩ := boxed_put4 R1 r.k r.n 0 ⟨#[]⟩
  exact bodyPost_ret (w := put4 w1 (g + 2) r.k r.n 0 ⟨#[]⟩) (v := .tuple #[.agg #[.int .u8 r.k, .int .i64 r.n, .int .i64 0, .string ⟨#[]⟩], .int .i64 r.e]) (by simp [results, Try.results60, go_sem, q0, q1, q2, q3]) rfl ⟨rfl, hwz⟩

end Go.Proofs.Ytflclkmhdngmaaa
