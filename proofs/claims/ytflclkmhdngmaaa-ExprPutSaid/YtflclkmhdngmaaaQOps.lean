/-
  The functions of package logic on truths: Not, And, Or (by connect).
-/
import Derived.Test.YtflclkmhdngmaaaQFit
namespace Go.Proofs.Ytflclkmhdngmaaa
open Go.RowKit

/-- What a call of package logic answers: Kind, number, error. -/
structure Res where
  k : Int
  n : Int
  e : Int

theorem boxes3 (w : World) (k n u : Int) (t : ByteArray) (k' n' u' : Int) (t' : ByteArray) : ∃ W : World, W = ((w.alloc (.cells #[.int .u8 k, .int .i64 n, .int .i64 u, .string t] 23)).alloc (.cells #[.int .u8 k', .int .i64 n', .int .i64 u', .string t'] 23)).alloc (.cells #[.int .u8 0, .int .i64 0, .int .i64 0, .string ⟨#[]⟩] 23) ∧
    Boxed W w.heap.size k n u t ∧ Boxed W (w.heap.size + 1) k' n' u' t' ∧ Boxed W (w.heap.size + 2) 0 0 0 ⟨#[]⟩ ∧ Soft W (w.heap.size + 2) ∧ Below w.heap.size w W ∧ W.heap.size = w.heap.size + 3 := by
  refine ⟨_, rfl, ?_, ?_, ?_, ?_, (((Below.refl _ _).alloc (Nat.le_refl _) _).alloc (by simp) _).alloc (by simp; omega) _, by simp⟩
  · exact ((Boxed.new w k n u t 23).below (Below.allocs _ _)).below (Below.allocs _ _)
  · have := Boxed.new (w.alloc (.cells #[.int .u8 k, .int .i64 n, .int .i64 u, .string t] 23)) k' n' u' t' 23
    rw [show (w.alloc (.cells #[.int .u8 k, .int .i64 n, .int .i64 u, .string t] 23)).heap.size = w.heap.size + 1 by simp] at this
    exact this.below (Below.allocs _ _)
  · have := Boxed.new ((w.alloc (.cells #[.int .u8 k, .int .i64 n, .int .i64 u, .string t] 23)).alloc (.cells #[.int .u8 k', .int .i64 n', .int .i64 u', .string t'] 23)) 0 0 0 ⟨#[]⟩ 23
    rw [show ((w.alloc (.cells #[.int .u8 k, .int .i64 n, .int .i64 u, .string t] 23)).alloc (.cells #[.int .u8 k', .int .i64 n', .int .i64 u', .string t'] 23)).heap.size = w.heap.size + 2 by simp] at this
    exact this
  · have := Soft.new ((w.alloc (.cells #[.int .u8 k, .int .i64 n, .int .i64 u, .string t] 23)).alloc (.cells #[.int .u8 k', .int .i64 n', .int .i64 u', .string t'] 23)) 0 0 0 ⟨#[]⟩ 23
    rw [show ((w.alloc (.cells #[.int .u8 k, .int .i64 n, .int .i64 u, .string t] 23)).alloc (.cells #[.int .u8 k', .int .i64 n', .int .i64 u', .string t'] 23)).heap.size = w.heap.size + 2 by simp] at this
    exact this

theorem boxes2 (w : World) (k n u : Int) (t : ByteArray) : ∃ W : World, W = (w.alloc (.cells #[.int .u8 k, .int .i64 n, .int .i64 u, .string t] 23)).alloc (.cells #[.int .u8 0, .int .i64 0, .int .i64 0, .string ⟨#[]⟩] 23) ∧
    Boxed W w.heap.size k n u t ∧ Boxed W (w.heap.size + 1) 0 0 0 ⟨#[]⟩ ∧ Soft W (w.heap.size + 1) ∧ Below w.heap.size w W ∧ W.heap.size = w.heap.size + 2 := by
  refine ⟨_, rfl, ?_, ?_, ?_, ((Below.refl _ _).alloc (Nat.le_refl _) _).alloc (by simp) _, by simp⟩
  · exact (Boxed.new w k n u t 23).below (Below.allocs _ _)
  · have := Boxed.new (w.alloc (.cells #[.int .u8 k, .int .i64 n, .int .i64 u, .string t] 23)) 0 0 0 ⟨#[]⟩ 23
    rw [show (w.alloc (.cells #[.int .u8 k, .int .i64 n, .int .i64 u, .string t] 23)).heap.size = w.heap.size + 1 by simp] at this
    exact this
  · have := Soft.new (w.alloc (.cells #[.int .u8 k, .int .i64 n, .int .i64 u, .string t] 23)) 0 0 0 ⟨#[]⟩ 23
    rw [show (w.alloc (.cells #[.int .u8 k, .int .i64 n, .int .i64 u, .string t] 23)).heap.size = w.heap.size + 1 by simp] at this
    exact this

def connectR (k n k' n' : Int) (d : Bool) : Res :=
  cond (fitB 2 k && fitB 2 k') (cond (knownB k n d || knownB k' n' d) ⟨2, ofN d, 0⟩ (cond (nullB k || nullB k') ⟨0, 0, 0⟩ ⟨2, ofN (!d), 0⟩)) ⟨0, 0, 60⟩

def notR (k n : Int) : Res := cond (fitB 2 k) (cond (nullB k) ⟨0, 0, 0⟩ ⟨2, ofN (!yesB k n), 0⟩) ⟨0, 0, 60⟩

set_option maxHeartbeats 2000000 in
theorem connect_no (k n u : Int) (t : ByteArray) (k' n' u' : Int) (t' : ByteArray) (d : Bool) (hf : (fitB 2 k && fitB 2 k') = false) (w : World) :
    Calls Try.prog 83 #[.agg #[.int .u8 k, .int .i64 n, .int .i64 u, .string t], .agg #[.int .u8 k', .int .i64 n', .int .i64 u', .string t'], .bool d] w fun e w' => e = .returned (.tuple #[.agg #[.int .u8 0, .int .i64 0, .int .i64 0, .string ⟨#[]⟩], .int .i64 60]) ∧ Below w.heap.size w w' := by
  have Hhf := Lib.hid hf
  clear hf
  obtain ⟨W, hW, A0, B0, R0, SR0, hw, hs⟩ := boxes3 w k n u t k' n' u' t'
  obtain ⟨g, hg⟩ : ∃ g, w.heap.size = g := ⟨_, rfl⟩
  rw [hg] at A0 B0 R0 SR0 hs
  have hbS := Below.allocs W (.cells #[.int .u8 k, .int .i64 n, .int .i64 u, .string t, .int .u8 k', .int .i64 n', .int .i64 u', .string t'] 23)
  have D0 := Two.new W k n u t k' n' u' t' 23
  rw [hs] at D0
  have HS := Lib.hid hs
  clear hs
  have hw0 := below_tr hw hbS
  replace A0 := A0.below hbS
  replace B0 := B0.below hbS
  replace R0 := R0.below hbS
  replace SR0 := SR0.below hbS
  go_enter Try.func83, Try.ntmps83
  go_wp2_with fail
  rw [← hW]
  clear hW
  refine (fit2_is 2 k n u t k' n' u' t' (g + 3) false Hhf.out _ D0).mono ?_
  rintro e w1 ⟨rfl, hb1⟩
  have hw1 := below_tr hw0 hb1
  have A1 := A0.below hb1
  have B1 := B0.below hb1
  have R1 := R0.below hb1
  have SR1 := SR0.below hb1
  have A1' := A1
  obtain ⟨a0, a1, a2, a3, a4⟩ := A1'
  have B1' := B1
  obtain ⟨b0, b1, b2, b3, b4⟩ := B1'
  have R1' := R1
  obtain ⟨r0, r1, r2, r3, r4⟩ := R1'
  obtain ⟨s0, s1, s2, s3, s4⟩ := SR1
  go_wp2_with fail
  have hwz := below_put4 hw1 (by omega : w.heap.size ≤ g + 2) 0 0 0 ⟨#[]⟩
  obtain ⟨q0, q1, q2, q3, q4⟩ := boxed_put4 R1 0 0 0 ⟨#[]⟩
  exact bodyPost_ret (w := put4 w1 (g + 2) 0 0 0 ⟨#[]⟩) (v := .tuple #[.agg #[.int .u8 0, .int .i64 0, .int .i64 0, .string ⟨#[]⟩], .int .i64 60]) (by simp [results, Try.results83, go_sem, q0, q1, q2, q3]) rfl ⟨rfl, hwz⟩
set_option maxHeartbeats 2000000 in
theorem connect_a (k n u : Int) (t : ByteArray) (k' n' u' : Int) (t' : ByteArray) (d : Bool) (hf : (fitB 2 k && fitB 2 k') = true) (ha : knownB k n d = true) (w : World) :
    Calls Try.prog 83 #[.agg #[.int .u8 k, .int .i64 n, .int .i64 u, .string t], .agg #[.int .u8 k', .int .i64 n', .int .i64 u', .string t'], .bool d] w fun e w' => e = .returned (.tuple #[.agg #[.int .u8 2, .int .i64 (ofN d), .int .i64 0, .string ⟨#[]⟩], .int .i64 0]) ∧ Below w.heap.size w w' := by
  have Hhf := Lib.hid hf
  clear hf
  have Hha := Lib.hid ha
  clear ha
  obtain ⟨W, hW, A0, B0, R0, SR0, hw, hs⟩ := boxes3 w k n u t k' n' u' t'
  obtain ⟨g, hg⟩ : ∃ g, w.heap.size = g := ⟨_, rfl⟩
  rw [hg] at A0 B0 R0 SR0 hs
  have hbS := Below.allocs W (.cells #[.int .u8 k, .int .i64 n, .int .i64 u, .string t, .int .u8 k', .int .i64 n', .int .i64 u', .string t'] 23)
  have D0 := Two.new W k n u t k' n' u' t' 23
  rw [hs] at D0
  have HS := Lib.hid hs
  clear hs
  have hw0 := below_tr hw hbS
  replace A0 := A0.below hbS
  replace B0 := B0.below hbS
  replace R0 := R0.below hbS
  replace SR0 := SR0.below hbS
  go_enter Try.func83, Try.ntmps83
  go_wp2_with fail
  rw [← hW]
  clear hW
  refine (fit2_is 2 k n u t k' n' u' t' (g + 3) true Hhf.out _ D0).mono ?_
  rintro e w1 ⟨rfl, hb1⟩
  have hw1 := below_tr hw0 hb1
  have A1 := A0.below hb1
  have B1 := B0.below hb1
  have R1 := R0.below hb1
  have SR1 := SR0.below hb1
  have A1' := A1
  obtain ⟨a0, a1, a2, a3, a4⟩ := A1'
  have B1' := B1
  obtain ⟨b0, b1, b2, b3, b4⟩ := B1'
  have R1' := R1
  obtain ⟨r0, r1, r2, r3, r4⟩ := R1'
  go_wp2_with fail
  refine (known_is k n u t d true Hha.out _).mono ?_
  rintro e w2 ⟨rfl, hb2⟩
  have hw2 := below_tr hw1 hb2
  have A2 := A1.below hb2
  have B2 := B1.below hb2
  have R2 := R1.below hb2
  have SR2 := SR1.below hb2
  clear a0 a1 a2 a3 a4 b0 b1 b2 b3 b4 r0 r1 r2 r3 r4
  have A2' := A2
  obtain ⟨a0, a1, a2, a3, a4⟩ := A2'
  have B2' := B2
  obtain ⟨b0, b1, b2, b3, b4⟩ := B2'
  have R2' := R2
  obtain ⟨r0, r1, r2, r3, r4⟩ := R2'
  go_wp2_with fail
  refine (of_is d _).mono ?_
  rintro e w3 ⟨rfl, hb3⟩
  have hw3 := below_tr hw2 hb3
  have A3 := A2.below hb3
  have B3 := B2.below hb3
  have R3 := R2.below hb3
  have SR3 := SR2.below hb3
  clear a0 a1 a2 a3 a4 b0 b1 b2 b3 b4 r0 r1 r2 r3 r4
  have A3' := A3
  obtain ⟨a0, a1, a2, a3, a4⟩ := A3'
  have B3' := B3
  obtain ⟨b0, b1, b2, b3, b4⟩ := B3'
  have R3' := R3
  obtain ⟨r0, r1, r2, r3, r4⟩ := R3'
  obtain ⟨s0, s1, s2, s3, s4⟩ := SR3
  go_wp2_with fail
  have hwz := below_put4 hw3 (by omega : w.heap.size ≤ g + 2) 2 (ofN d) 0 ⟨#[]⟩
  obtain ⟨q0, q1, q2, q3, q4⟩ := boxed_put4 R3 2 (ofN d) 0 ⟨#[]⟩
  exact bodyPost_ret (w := put4 w3 (g + 2) 2 (ofN d) 0 ⟨#[]⟩) (v := .tuple #[.agg #[.int .u8 2, .int .i64 (ofN d), .int .i64 0, .string ⟨#[]⟩], .int .i64 0]) (by simp [results, Try.results83, go_sem, q0, q1, q2, q3]) rfl ⟨rfl, hwz⟩
set_option maxHeartbeats 2000000 in
theorem connect_b (k n u : Int) (t : ByteArray) (k' n' u' : Int) (t' : ByteArray) (d : Bool) (hf : (fitB 2 k && fitB 2 k') = true) (ha : knownB k n d = false) (hc : knownB k' n' d = true) (w : World) :
    Calls Try.prog 83 #[.agg #[.int .u8 k, .int .i64 n, .int .i64 u, .string t], .agg #[.int .u8 k', .int .i64 n', .int .i64 u', .string t'], .bool d] w fun e w' => e = .returned (.tuple #[.agg #[.int .u8 2, .int .i64 (ofN d), .int .i64 0, .string ⟨#[]⟩], .int .i64 0]) ∧ Below w.heap.size w w' := by
  have Hhf := Lib.hid hf
  clear hf
  have Hha := Lib.hid ha
  clear ha
  have Hhc := Lib.hid hc
  clear hc
  obtain ⟨W, hW, A0, B0, R0, SR0, hw, hs⟩ := boxes3 w k n u t k' n' u' t'
  obtain ⟨g, hg⟩ : ∃ g, w.heap.size = g := ⟨_, rfl⟩
  rw [hg] at A0 B0 R0 SR0 hs
  have hbS := Below.allocs W (.cells #[.int .u8 k, .int .i64 n, .int .i64 u, .string t, .int .u8 k', .int .i64 n', .int .i64 u', .string t'] 23)
  have D0 := Two.new W k n u t k' n' u' t' 23
  rw [hs] at D0
  have HS := Lib.hid hs
  clear hs
  have hw0 := below_tr hw hbS
  replace A0 := A0.below hbS
  replace B0 := B0.below hbS
  replace R0 := R0.below hbS
  replace SR0 := SR0.below hbS
  go_enter Try.func83, Try.ntmps83
  go_wp2_with fail
  rw [← hW]
  clear hW
  refine (fit2_is 2 k n u t k' n' u' t' (g + 3) true Hhf.out _ D0).mono ?_
  rintro e w1 ⟨rfl, hb1⟩
  have hw1 := below_tr hw0 hb1
  have A1 := A0.below hb1
  have B1 := B0.below hb1
  have R1 := R0.below hb1
  have SR1 := SR0.below hb1
  have A1' := A1
  obtain ⟨a0, a1, a2, a3, a4⟩ := A1'
  have B1' := B1
  obtain ⟨b0, b1, b2, b3, b4⟩ := B1'
  have R1' := R1
  obtain ⟨r0, r1, r2, r3, r4⟩ := R1'
  go_wp2_with fail
  refine (known_is k n u t d false Hha.out _).mono ?_
  rintro e w2 ⟨rfl, hb2⟩
  have hw2 := below_tr hw1 hb2
  have A2 := A1.below hb2
  have B2 := B1.below hb2
  have R2 := R1.below hb2
  have SR2 := SR1.below hb2
  clear a0 a1 a2 a3 a4 b0 b1 b2 b3 b4 r0 r1 r2 r3 r4
  have A2' := A2
  obtain ⟨a0, a1, a2, a3, a4⟩ := A2'
  have B2' := B2
  obtain ⟨b0, b1, b2, b3, b4⟩ := B2'
  have R2' := R2
  obtain ⟨r0, r1, r2, r3, r4⟩ := R2'
  go_wp2_with fail
  refine (known_is k' n' u' t' d true Hhc.out _).mono ?_
  rintro e w3 ⟨rfl, hb3⟩
  have hw3 := below_tr hw2 hb3
  have A3 := A2.below hb3
  have B3 := B2.below hb3
  have R3 := R2.below hb3
  have SR3 := SR2.below hb3
  clear a0 a1 a2 a3 a4 b0 b1 b2 b3 b4 r0 r1 r2 r3 r4
  have A3' := A3
  obtain ⟨a0, a1, a2, a3, a4⟩ := A3'
  have B3' := B3
  obtain ⟨b0, b1, b2, b3, b4⟩ := B3'
  have R3' := R3
  obtain ⟨r0, r1, r2, r3, r4⟩ := R3'
  go_wp2_with fail
  refine (of_is d _).mono ?_
  rintro e w4 ⟨rfl, hb4⟩
  have hw4 := below_tr hw3 hb4
  have A4 := A3.below hb4
  have B4 := B3.below hb4
  have R4 := R3.below hb4
  have SR4 := SR3.below hb4
  clear a0 a1 a2 a3 a4 b0 b1 b2 b3 b4 r0 r1 r2 r3 r4
  have A4' := A4
  obtain ⟨a0, a1, a2, a3, a4⟩ := A4'
  have B4' := B4
  obtain ⟨b0, b1, b2, b3, b4⟩ := B4'
  have R4' := R4
  obtain ⟨r0, r1, r2, r3, r4⟩ := R4'
  obtain ⟨s0, s1, s2, s3, s4⟩ := SR4
  go_wp2_with fail
  have hwz := below_put4 hw4 (by omega : w.heap.size ≤ g + 2) 2 (ofN d) 0 ⟨#[]⟩
  obtain ⟨q0, q1, q2, q3, q4⟩ := boxed_put4 R4 2 (ofN d) 0 ⟨#[]⟩
  exact bodyPost_ret (w := put4 w4 (g + 2) 2 (ofN d) 0 ⟨#[]⟩) (v := .tuple #[.agg #[.int .u8 2, .int .i64 (ofN d), .int .i64 0, .string ⟨#[]⟩], .int .i64 0]) (by simp [results, Try.results83, go_sem, q0, q1, q2, q3]) rfl ⟨rfl, hwz⟩
set_option maxHeartbeats 2000000 in
theorem connect_z (k n u : Int) (t : ByteArray) (k' n' u' : Int) (t' : ByteArray) (d : Bool) (hf : (fitB 2 k && fitB 2 k') = true) (ha : knownB k n d = false) (hc : knownB k' n' d = false) (hz : nullB k = true) (w : World) :
    Calls Try.prog 83 #[.agg #[.int .u8 k, .int .i64 n, .int .i64 u, .string t], .agg #[.int .u8 k', .int .i64 n', .int .i64 u', .string t'], .bool d] w fun e w' => e = .returned (.tuple #[.agg #[.int .u8 0, .int .i64 0, .int .i64 0, .string ⟨#[]⟩], .int .i64 0]) ∧ Below w.heap.size w w' := by
  have Hhf := Lib.hid hf
  clear hf
  have Hha := Lib.hid ha
  clear ha
  have Hhc := Lib.hid hc
  clear hc
  have Hhz := Lib.hid hz
  clear hz
  obtain ⟨W, hW, A0, B0, R0, SR0, hw, hs⟩ := boxes3 w k n u t k' n' u' t'
  obtain ⟨g, hg⟩ : ∃ g, w.heap.size = g := ⟨_, rfl⟩
  rw [hg] at A0 B0 R0 SR0 hs
  have hbS := Below.allocs W (.cells #[.int .u8 k, .int .i64 n, .int .i64 u, .string t, .int .u8 k', .int .i64 n', .int .i64 u', .string t'] 23)
  have D0 := Two.new W k n u t k' n' u' t' 23
  rw [hs] at D0
  have HS := Lib.hid hs
  clear hs
  have hw0 := below_tr hw hbS
  replace A0 := A0.below hbS
  replace B0 := B0.below hbS
  replace R0 := R0.below hbS
  replace SR0 := SR0.below hbS
  go_enter Try.func83, Try.ntmps83
  go_wp2_with fail
  rw [← hW]
  clear hW
  refine (fit2_is 2 k n u t k' n' u' t' (g + 3) true Hhf.out _ D0).mono ?_
  rintro e w1 ⟨rfl, hb1⟩
  have hw1 := below_tr hw0 hb1
  have A1 := A0.below hb1
  have B1 := B0.below hb1
  have R1 := R0.below hb1
  have SR1 := SR0.below hb1
  have A1' := A1
  obtain ⟨a0, a1, a2, a3, a4⟩ := A1'
  have B1' := B1
  obtain ⟨b0, b1, b2, b3, b4⟩ := B1'
  have R1' := R1
  obtain ⟨r0, r1, r2, r3, r4⟩ := R1'
  go_wp2_with fail
  refine (known_is k n u t d false Hha.out _).mono ?_
  rintro e w2 ⟨rfl, hb2⟩
  have hw2 := below_tr hw1 hb2
  have A2 := A1.below hb2
  have B2 := B1.below hb2
  have R2 := R1.below hb2
  have SR2 := SR1.below hb2
  clear a0 a1 a2 a3 a4 b0 b1 b2 b3 b4 r0 r1 r2 r3 r4
  have A2' := A2
  obtain ⟨a0, a1, a2, a3, a4⟩ := A2'
  have B2' := B2
  obtain ⟨b0, b1, b2, b3, b4⟩ := B2'
  have R2' := R2
  obtain ⟨r0, r1, r2, r3, r4⟩ := R2'
  go_wp2_with fail
  refine (known_is k' n' u' t' d false Hhc.out _).mono ?_
  rintro e w3 ⟨rfl, hb3⟩
  have hw3 := below_tr hw2 hb3
  have A3 := A2.below hb3
  have B3 := B2.below hb3
  have R3 := R2.below hb3
  have SR3 := SR2.below hb3
  clear a0 a1 a2 a3 a4 b0 b1 b2 b3 b4 r0 r1 r2 r3 r4
  have A3' := A3
  obtain ⟨a0, a1, a2, a3, a4⟩ := A3'
  have B3' := B3
  obtain ⟨b0, b1, b2, b3, b4⟩ := B3'
  have R3' := R3
  obtain ⟨r0, r1, r2, r3, r4⟩ := R3'
  go_wp2_with fail
  refine (null_is k n u t true Hhz.out _).mono ?_
  rintro e w4 ⟨rfl, hb4⟩
  have hw4 := below_tr hw3 hb4
  have A4 := A3.below hb4
  have B4 := B3.below hb4
  have R4 := R3.below hb4
  have SR4 := SR3.below hb4
  clear a0 a1 a2 a3 a4 b0 b1 b2 b3 b4 r0 r1 r2 r3 r4
  have A4' := A4
  obtain ⟨a0, a1, a2, a3, a4⟩ := A4'
  have B4' := B4
  obtain ⟨b0, b1, b2, b3, b4⟩ := B4'
  have R4' := R4
  obtain ⟨r0, r1, r2, r3, r4⟩ := R4'
  obtain ⟨s0, s1, s2, s3, s4⟩ := SR4
  go_wp2_with fail
  have hwz := below_put4 hw4 (by omega : w.heap.size ≤ g + 2) 0 0 0 ⟨#[]⟩
  obtain ⟨q0, q1, q2, q3, q4⟩ := boxed_put4 R4 0 0 0 ⟨#[]⟩
  exact bodyPost_ret (w := put4 w4 (g + 2) 0 0 0 ⟨#[]⟩) (v := .tuple #[.agg #[.int .u8 0, .int .i64 0, .int .i64 0, .string ⟨#[]⟩], .int .i64 0]) (by simp [results, Try.results83, go_sem, q0, q1, q2, q3]) rfl ⟨rfl, hwz⟩
set_option maxHeartbeats 2000000 in
theorem connect_y (k n u : Int) (t : ByteArray) (k' n' u' : Int) (t' : ByteArray) (d : Bool) (hf : (fitB 2 k && fitB 2 k') = true) (ha : knownB k n d = false) (hc : knownB k' n' d = false) (hz : nullB k = false) (hy : nullB k' = true) (w : World) :
    Calls Try.prog 83 #[.agg #[.int .u8 k, .int .i64 n, .int .i64 u, .string t], .agg #[.int .u8 k', .int .i64 n', .int .i64 u', .string t'], .bool d] w fun e w' => e = .returned (.tuple #[.agg #[.int .u8 0, .int .i64 0, .int .i64 0, .string ⟨#[]⟩], .int .i64 0]) ∧ Below w.heap.size w w' := by
  have Hhf := Lib.hid hf
  clear hf
  have Hha := Lib.hid ha
  clear ha
  have Hhc := Lib.hid hc
  clear hc
  have Hhz := Lib.hid hz
  clear hz
  have Hhy := Lib.hid hy
  clear hy
  obtain ⟨W, hW, A0, B0, R0, SR0, hw, hs⟩ := boxes3 w k n u t k' n' u' t'
  obtain ⟨g, hg⟩ : ∃ g, w.heap.size = g := ⟨_, rfl⟩
  rw [hg] at A0 B0 R0 SR0 hs
  have hbS := Below.allocs W (.cells #[.int .u8 k, .int .i64 n, .int .i64 u, .string t, .int .u8 k', .int .i64 n', .int .i64 u', .string t'] 23)
  have D0 := Two.new W k n u t k' n' u' t' 23
  rw [hs] at D0
  have HS := Lib.hid hs
  clear hs
  have hw0 := below_tr hw hbS
  replace A0 := A0.below hbS
  replace B0 := B0.below hbS
  replace R0 := R0.below hbS
  replace SR0 := SR0.below hbS
  go_enter Try.func83, Try.ntmps83
  go_wp2_with fail
  rw [← hW]
  clear hW
  refine (fit2_is 2 k n u t k' n' u' t' (g + 3) true Hhf.out _ D0).mono ?_
  rintro e w1 ⟨rfl, hb1⟩
  have hw1 := below_tr hw0 hb1
  have A1 := A0.below hb1
  have B1 := B0.below hb1
  have R1 := R0.below hb1
  have SR1 := SR0.below hb1
  have A1' := A1
  obtain ⟨a0, a1, a2, a3, a4⟩ := A1'
  have B1' := B1
  obtain ⟨b0, b1, b2, b3, b4⟩ := B1'
  have R1' := R1
  obtain ⟨r0, r1, r2, r3, r4⟩ := R1'
  go_wp2_with fail
  refine (known_is k n u t d false Hha.out _).mono ?_
  rintro e w2 ⟨rfl, hb2⟩
  have hw2 := below_tr hw1 hb2
  have A2 := A1.below hb2
  have B2 := B1.below hb2
  have R2 := R1.below hb2
  have SR2 := SR1.below hb2
  clear a0 a1 a2 a3 a4 b0 b1 b2 b3 b4 r0 r1 r2 r3 r4
  have A2' := A2
  obtain ⟨a0, a1, a2, a3, a4⟩ := A2'
  have B2' := B2
  obtain ⟨b0, b1, b2, b3, b4⟩ := B2'
  have R2' := R2
  obtain ⟨r0, r1, r2, r3, r4⟩ := R2'
  go_wp2_with fail
  refine (known_is k' n' u' t' d false Hhc.out _).mono ?_
  rintro e w3 ⟨rfl, hb3⟩
  have hw3 := below_tr hw2 hb3
  have A3 := A2.below hb3
  have B3 := B2.below hb3
  have R3 := R2.below hb3
  have SR3 := SR2.below hb3
  clear a0 a1 a2 a3 a4 b0 b1 b2 b3 b4 r0 r1 r2 r3 r4
  have A3' := A3
  obtain ⟨a0, a1, a2, a3, a4⟩ := A3'
  have B3' := B3
  obtain ⟨b0, b1, b2, b3, b4⟩ := B3'
  have R3' := R3
  obtain ⟨r0, r1, r2, r3, r4⟩ := R3'
  go_wp2_with fail
  refine (null_is k n u t false Hhz.out _).mono ?_
  rintro e w4 ⟨rfl, hb4⟩
  have hw4 := below_tr hw3 hb4
  have A4 := A3.below hb4
  have B4 := B3.below hb4
  have R4 := R3.below hb4
  have SR4 := SR3.below hb4
  clear a0 a1 a2 a3 a4 b0 b1 b2 b3 b4 r0 r1 r2 r3 r4
  have A4' := A4
  obtain ⟨a0, a1, a2, a3, a4⟩ := A4'
  have B4' := B4
  obtain ⟨b0, b1, b2, b3, b4⟩ := B4'
  have R4' := R4
  obtain ⟨r0, r1, r2, r3, r4⟩ := R4'
  go_wp2_with fail
  refine (null_is k' n' u' t' true Hhy.out _).mono ?_
  rintro e w5 ⟨rfl, hb5⟩
  have hw5 := below_tr hw4 hb5
  have A5 := A4.below hb5
  have B5 := B4.below hb5
  have R5 := R4.below hb5
  have SR5 := SR4.below hb5
  clear a0 a1 a2 a3 a4 b0 b1 b2 b3 b4 r0 r1 r2 r3 r4
  have A5' := A5
  obtain ⟨a0, a1, a2, a3, a4⟩ := A5'
  have B5' := B5
  obtain ⟨b0, b1, b2, b3, b4⟩ := B5'
  have R5' := R5
  obtain ⟨r0, r1, r2, r3, r4⟩ := R5'
  obtain ⟨s0, s1, s2, s3, s4⟩ := SR5
  go_wp2_with fail
  have hwz := below_put4 hw5 (by omega : w.heap.size ≤ g + 2) 0 0 0 ⟨#[]⟩
  obtain ⟨q0, q1, q2, q3, q4⟩ := boxed_put4 R5 0 0 0 ⟨#[]⟩
  exact bodyPost_ret (w := put4 w5 (g + 2) 0 0 0 ⟨#[]⟩) (v := .tuple #[.agg #[.int .u8 0, .int .i64 0, .int .i64 0, .string ⟨#[]⟩], .int .i64 0]) (by simp [results, Try.results83, go_sem, q0, q1, q2, q3]) rfl ⟨rfl, hwz⟩
set_option maxHeartbeats 2000000 in
theorem connect_d (k n u : Int) (t : ByteArray) (k' n' u' : Int) (t' : ByteArray) (d : Bool) (hf : (fitB 2 k && fitB 2 k') = true) (ha : knownB k n d = false) (hc : knownB k' n' d = false) (hz : nullB k = false) (hy : nullB k' = false) (w : World) :
    Calls Try.prog 83 #[.agg #[.int .u8 k, .int .i64 n, .int .i64 u, .string t], .agg #[.int .u8 k', .int .i64 n', .int .i64 u', .string t'], .bool d] w fun e w' => e = .returned (.tuple #[.agg #[.int .u8 2, .int .i64 (ofN (!d)), .int .i64 0, .string ⟨#[]⟩], .int .i64 0]) ∧ Below w.heap.size w w' := by
  have Hhf := Lib.hid hf
  clear hf
  have Hha := Lib.hid ha
  clear ha
  have Hhc := Lib.hid hc
  clear hc
  have Hhz := Lib.hid hz
  clear hz
  have Hhy := Lib.hid hy
  clear hy
  obtain ⟨W, hW, A0, B0, R0, SR0, hw, hs⟩ := boxes3 w k n u t k' n' u' t'
  obtain ⟨g, hg⟩ : ∃ g, w.heap.size = g := ⟨_, rfl⟩
  rw [hg] at A0 B0 R0 SR0 hs
  have hbS := Below.allocs W (.cells #[.int .u8 k, .int .i64 n, .int .i64 u, .string t, .int .u8 k', .int .i64 n', .int .i64 u', .string t'] 23)
  have D0 := Two.new W k n u t k' n' u' t' 23
  rw [hs] at D0
  have HS := Lib.hid hs
  clear hs
  have hw0 := below_tr hw hbS
  replace A0 := A0.below hbS
  replace B0 := B0.below hbS
  replace R0 := R0.below hbS
  replace SR0 := SR0.below hbS
  go_enter Try.func83, Try.ntmps83
  go_wp2_with fail
  rw [← hW]
  clear hW
  refine (fit2_is 2 k n u t k' n' u' t' (g + 3) true Hhf.out _ D0).mono ?_
  rintro e w1 ⟨rfl, hb1⟩
  have hw1 := below_tr hw0 hb1
  have A1 := A0.below hb1
  have B1 := B0.below hb1
  have R1 := R0.below hb1
  have SR1 := SR0.below hb1
  have A1' := A1
  obtain ⟨a0, a1, a2, a3, a4⟩ := A1'
  have B1' := B1
  obtain ⟨b0, b1, b2, b3, b4⟩ := B1'
  have R1' := R1
  obtain ⟨r0, r1, r2, r3, r4⟩ := R1'
  go_wp2_with fail
  refine (known_is k n u t d false Hha.out _).mono ?_
  rintro e w2 ⟨rfl, hb2⟩
  have hw2 := below_tr hw1 hb2
  have A2 := A1.below hb2
  have B2 := B1.below hb2
  have R2 := R1.below hb2
  have SR2 := SR1.below hb2
  clear a0 a1 a2 a3 a4 b0 b1 b2 b3 b4 r0 r1 r2 r3 r4
  have A2' := A2
  obtain ⟨a0, a1, a2, a3, a4⟩ := A2'
  have B2' := B2
  obtain ⟨b0, b1, b2, b3, b4⟩ := B2'
  have R2' := R2
  obtain ⟨r0, r1, r2, r3, r4⟩ := R2'
  go_wp2_with fail
  refine (known_is k' n' u' t' d false Hhc.out _).mono ?_
  rintro e w3 ⟨rfl, hb3⟩
  have hw3 := below_tr hw2 hb3
  have A3 := A2.below hb3
  have B3 := B2.below hb3
  have R3 := R2.below hb3
  have SR3 := SR2.below hb3
  clear a0 a1 a2 a3 a4 b0 b1 b2 b3 b4 r0 r1 r2 r3 r4
  have A3' := A3
  obtain ⟨a0, a1, a2, a3, a4⟩ := A3'
  have B3' := B3
  obtain ⟨b0, b1, b2, b3, b4⟩ := B3'
  have R3' := R3
  obtain ⟨r0, r1, r2, r3, r4⟩ := R3'
  go_wp2_with fail
  refine (null_is k n u t false Hhz.out _).mono ?_
  rintro e w4 ⟨rfl, hb4⟩
  have hw4 := below_tr hw3 hb4
  have A4 := A3.below hb4
  have B4 := B3.below hb4
  have R4 := R3.below hb4
  have SR4 := SR3.below hb4
  clear a0 a1 a2 a3 a4 b0 b1 b2 b3 b4 r0 r1 r2 r3 r4
  have A4' := A4
  obtain ⟨a0, a1, a2, a3, a4⟩ := A4'
  have B4' := B4
  obtain ⟨b0, b1, b2, b3, b4⟩ := B4'
  have R4' := R4
  obtain ⟨r0, r1, r2, r3, r4⟩ := R4'
  go_wp2_with fail
  refine (null_is k' n' u' t' false Hhy.out _).mono ?_
  rintro e w5 ⟨rfl, hb5⟩
  have hw5 := below_tr hw4 hb5
  have A5 := A4.below hb5
  have B5 := B4.below hb5
  have R5 := R4.below hb5
  have SR5 := SR4.below hb5
  clear a0 a1 a2 a3 a4 b0 b1 b2 b3 b4 r0 r1 r2 r3 r4
  have A5' := A5
  obtain ⟨a0, a1, a2, a3, a4⟩ := A5'
  have B5' := B5
  obtain ⟨b0, b1, b2, b3, b4⟩ := B5'
  have R5' := R5
  obtain ⟨r0, r1, r2, r3, r4⟩ := R5'
  go_wp2_with fail
  refine (of_is (!d) _).mono ?_
  rintro e w6 ⟨rfl, hb6⟩
  have hw6 := below_tr hw5 hb6
  have A6 := A5.below hb6
  have B6 := B5.below hb6
  have R6 := R5.below hb6
  have SR6 := SR5.below hb6
  clear a0 a1 a2 a3 a4 b0 b1 b2 b3 b4 r0 r1 r2 r3 r4
  have A6' := A6
  obtain ⟨a0, a1, a2, a3, a4⟩ := A6'
  have B6' := B6
  obtain ⟨b0, b1, b2, b3, b4⟩ := B6'
  have R6' := R6
  obtain ⟨r0, r1, r2, r3, r4⟩ := R6'
  obtain ⟨s0, s1, s2, s3, s4⟩ := SR6
  go_wp2_with fail
  have hwz := below_put4 hw6 (by omega : w.heap.size ≤ g + 2) 2 (ofN (!d)) 0 ⟨#[]⟩
  obtain ⟨q0, q1, q2, q3, q4⟩ := boxed_put4 R6 2 (ofN (!d)) 0 ⟨#[]⟩
  exact bodyPost_ret (w := put4 w6 (g + 2) 2 (ofN (!d)) 0 ⟨#[]⟩) (v := .tuple #[.agg #[.int .u8 2, .int .i64 (ofN (!d)), .int .i64 0, .string ⟨#[]⟩], .int .i64 0]) (by simp [results, Try.results83, go_sem, q0, q1, q2, q3]) rfl ⟨rfl, hwz⟩
theorem connect_is (k n u : Int) (t : ByteArray) (k' n' u' : Int) (t' : ByteArray) (d : Bool) (r : Res) (hr : connectR k n k' n' d = r) (w : World) :
    Calls Try.prog 83 #[.agg #[.int .u8 k, .int .i64 n, .int .i64 u, .string t], .agg #[.int .u8 k', .int .i64 n', .int .i64 u', .string t'], .bool d] w fun e w' => e = .returned (.tuple #[.agg #[.int .u8 r.k, .int .i64 r.n, .int .i64 0, .string ⟨#[]⟩], .int .i64 r.e]) ∧ Below w.heap.size w w' := by
  subst hr
  unfold connectR
  cases hf : (fitB 2 k && fitB 2 k')
  · exact connect_no k n u t k' n' u' t' d hf w
  · cases ha : knownB k n d
    · cases hc : knownB k' n' d
      · cases hz : nullB k
        · cases hy : nullB k'
          · exact connect_d k n u t k' n' u' t' d hf ha hc hz hy w
          · exact connect_y k n u t k' n' u' t' d hf ha hc hz hy w
        · exact connect_z k n u t k' n' u' t' d hf ha hc hz w
      · exact connect_b k n u t k' n' u' t' d hf ha hc w
    · exact connect_a k n u t k' n' u' t' d hf ha w

set_option maxHeartbeats 1000000 in
theorem and_is (k n u : Int) (t : ByteArray) (k' n' u' : Int) (t' : ByteArray) (r : Res) (hr : connectR k n k' n' false = r) (w : World) :
    Calls Try.prog 63 #[.agg #[.int .u8 k, .int .i64 n, .int .i64 u, .string t], .agg #[.int .u8 k', .int .i64 n', .int .i64 u', .string t']] w fun e w' => e = .returned (.tuple #[.agg #[.int .u8 r.k, .int .i64 r.n, .int .i64 0, .string ⟨#[]⟩], .int .i64 r.e]) ∧ Below w.heap.size w w' := by
  have HR := Lib.hid hr
  clear hr
  obtain ⟨W, hW, A0, B0, R0, SR0, hw, hs⟩ := boxes3 w k n u t k' n' u' t'
  obtain ⟨g, hg⟩ : ∃ g, w.heap.size = g := ⟨_, rfl⟩
  rw [hg] at A0 B0 R0 SR0 hs
  have hw0 := hw
  have HS := Lib.hid hs
  clear hs
  go_enter Try.func63, Try.ntmps63
  go_wp2_with fail
  rw [← hW]
  clear hW
  refine (connect_is k n u t k' n' u' t' false r HR.out _).mono ?_
  rintro e w1 ⟨rfl, hb1⟩
  have hw1 := below_tr hw0 hb1
  have A1 := A0.below hb1
  have B1 := B0.below hb1
  have R1 := R0.below hb1
  have SR1 := SR0.below hb1
  have A1' := A1
  obtain ⟨a0, a1, a2, a3, a4⟩ := A1'
  have B1' := B1
  obtain ⟨b0, b1, b2, b3, b4⟩ := B1'
  have R1' := R1
  obtain ⟨r0, r1, r2, r3, r4⟩ := R1'
  obtain ⟨s0, s1, s2, s3, s4⟩ := SR1
  go_wp2_with fail
  have hwz := below_put4 hw1 (by omega : w.heap.size ≤ g + 2) r.k r.n 0 ⟨#[]⟩
  obtain ⟨q0, q1, q2, q3, q4⟩ := boxed_put4 R1 r.k r.n 0 ⟨#[]⟩
  exact bodyPost_ret (w := put4 w1 (g + 2) r.k r.n 0 ⟨#[]⟩) (v := .tuple #[.agg #[.int .u8 r.k, .int .i64 r.n, .int .i64 0, .string ⟨#[]⟩], .int .i64 r.e]) (by simp [results, Try.results63, go_sem, q0, q1, q2, q3]) rfl ⟨rfl, hwz⟩

set_option maxHeartbeats 1000000 in
theorem or_is (k n u : Int) (t : ByteArray) (k' n' u' : Int) (t' : ByteArray) (r : Res) (hr : connectR k n k' n' true = r) (w : World) :
    Calls Try.prog 64 #[.agg #[.int .u8 k, .int .i64 n, .int .i64 u, .string t], .agg #[.int .u8 k', .int .i64 n', .int .i64 u', .string t']] w fun e w' => e = .returned (.tuple #[.agg #[.int .u8 r.k, .int .i64 r.n, .int .i64 0, .string ⟨#[]⟩], .int .i64 r.e]) ∧ Below w.heap.size w w' := by
  have HR := Lib.hid hr
  clear hr
  obtain ⟨W, hW, A0, B0, R0, SR0, hw, hs⟩ := boxes3 w k n u t k' n' u' t'
  obtain ⟨g, hg⟩ : ∃ g, w.heap.size = g := ⟨_, rfl⟩
  rw [hg] at A0 B0 R0 SR0 hs
  have hw0 := hw
  have HS := Lib.hid hs
  clear hs
  go_enter Try.func64, Try.ntmps64
  go_wp2_with fail
  rw [← hW]
  clear hW
  refine (connect_is k n u t k' n' u' t' true r HR.out _).mono ?_
  rintro e w1 ⟨rfl, hb1⟩
  have hw1 := below_tr hw0 hb1
  have A1 := A0.below hb1
  have B1 := B0.below hb1
  have R1 := R0.below hb1
  have SR1 := SR0.below hb1
  have A1' := A1
  obtain ⟨a0, a1, a2, a3, a4⟩ := A1'
  have B1' := B1
  obtain ⟨b0, b1, b2, b3, b4⟩ := B1'
  have R1' := R1
  obtain ⟨r0, r1, r2, r3, r4⟩ := R1'
  obtain ⟨s0, s1, s2, s3, s4⟩ := SR1
  go_wp2_with fail
  have hwz := below_put4 hw1 (by omega : w.heap.size ≤ g + 2) r.k r.n 0 ⟨#[]⟩
  obtain ⟨q0, q1, q2, q3, q4⟩ := boxed_put4 R1 r.k r.n 0 ⟨#[]⟩
  exact bodyPost_ret (w := put4 w1 (g + 2) r.k r.n 0 ⟨#[]⟩) (v := .tuple #[.agg #[.int .u8 r.k, .int .i64 r.n, .int .i64 0, .string ⟨#[]⟩], .int .i64 r.e]) (by simp [results, Try.results64, go_sem, q0, q1, q2, q3]) rfl ⟨rfl, hwz⟩

set_option maxHeartbeats 2000000 in
theorem not_no (k n u : Int) (t : ByteArray) (hf : fitB 2 k = false) (w : World) :
    Calls Try.prog 56 #[.agg #[.int .u8 k, .int .i64 n, .int .i64 u, .string t]] w fun e w' => e = .returned (.tuple #[.agg #[.int .u8 0, .int .i64 0, .int .i64 0, .string ⟨#[]⟩], .int .i64 60]) ∧ Below w.heap.size w w' := by
  have Hhf := Lib.hid hf
  clear hf
  obtain ⟨W, hW, A0, R0, SR0, hw, hs⟩ := boxes2 w k n u t
  obtain ⟨g, hg⟩ : ∃ g, w.heap.size = g := ⟨_, rfl⟩
  rw [hg] at A0 R0 SR0 hs
  have hbS := Below.allocs W (.cells #[.int .u8 k, .int .i64 n, .int .i64 u, .string t] 23)
  have D0 := Boxed.new W k n u t 23
  rw [hs] at D0
  have HS := Lib.hid hs
  clear hs
  have hw0 := below_tr hw hbS
  replace A0 := A0.below hbS
  replace R0 := R0.below hbS
  replace SR0 := SR0.below hbS
  go_enter Try.func56, Try.ntmps56
  go_wp2_with fail
  rw [← hW]
  clear hW
  refine (fit1_is 2 k n u t (g + 2) false Hhf.out _ D0).mono ?_
  rintro e w1 ⟨rfl, hb1⟩
  have hw1 := below_tr hw0 hb1
  have A1 := A0.below hb1
  have R1 := R0.below hb1
  have SR1 := SR0.below hb1
  have A1' := A1
  obtain ⟨a0, a1, a2, a3, a4⟩ := A1'
  have R1' := R1
  obtain ⟨r0, r1, r2, r3, r4⟩ := R1'
  obtain ⟨s0, s1, s2, s3, s4⟩ := SR1
  go_wp2_with fail
  have hwz := below_put4 hw1 (by omega : w.heap.size ≤ g + 1) 0 0 0 ⟨#[]⟩
  obtain ⟨q0, q1, q2, q3, q4⟩ := boxed_put4 R1 0 0 0 ⟨#[]⟩
  exact bodyPost_ret (w := put4 w1 (g + 1) 0 0 0 ⟨#[]⟩) (v := .tuple #[.agg #[.int .u8 0, .int .i64 0, .int .i64 0, .string ⟨#[]⟩], .int .i64 60]) (by simp [results, Try.results56, go_sem, q0, q1, q2, q3]) rfl ⟨rfl, hwz⟩
set_option maxHeartbeats 2000000 in
theorem not_z (k n u : Int) (t : ByteArray) (hf : fitB 2 k = true) (hz : nullB k = true) (w : World) :
    Calls Try.prog 56 #[.agg #[.int .u8 k, .int .i64 n, .int .i64 u, .string t]] w fun e w' => e = .returned (.tuple #[.agg #[.int .u8 0, .int .i64 0, .int .i64 0, .string ⟨#[]⟩], .int .i64 0]) ∧ Below w.heap.size w w' := by
  have Hhf := Lib.hid hf
  clear hf
  have Hhz := Lib.hid hz
  clear hz
  obtain ⟨W, hW, A0, R0, SR0, hw, hs⟩ := boxes2 w k n u t
  obtain ⟨g, hg⟩ : ∃ g, w.heap.size = g := ⟨_, rfl⟩
  rw [hg] at A0 R0 SR0 hs
  have hbS := Below.allocs W (.cells #[.int .u8 k, .int .i64 n, .int .i64 u, .string t] 23)
  have D0 := Boxed.new W k n u t 23
  rw [hs] at D0
  have HS := Lib.hid hs
  clear hs
  have hw0 := below_tr hw hbS
  replace A0 := A0.below hbS
  replace R0 := R0.below hbS
  replace SR0 := SR0.below hbS
  go_enter Try.func56, Try.ntmps56
  go_wp2_with fail
  rw [← hW]
  clear hW
  refine (fit1_is 2 k n u t (g + 2) true Hhf.out _ D0).mono ?_
  rintro e w1 ⟨rfl, hb1⟩
  have hw1 := below_tr hw0 hb1
  have A1 := A0.below hb1
  have R1 := R0.below hb1
  have SR1 := SR0.below hb1
  have A1' := A1
  obtain ⟨a0, a1, a2, a3, a4⟩ := A1'
  have R1' := R1
  obtain ⟨r0, r1, r2, r3, r4⟩ := R1'
  go_wp2_with fail
  refine (null_is k n u t true Hhz.out _).mono ?_
  rintro e w2 ⟨rfl, hb2⟩
  have hw2 := below_tr hw1 hb2
  have A2 := A1.below hb2
  have R2 := R1.below hb2
  have SR2 := SR1.below hb2
  clear a0 a1 a2 a3 a4 r0 r1 r2 r3 r4
  have A2' := A2
  obtain ⟨a0, a1, a2, a3, a4⟩ := A2'
  have R2' := R2
  obtain ⟨r0, r1, r2, r3, r4⟩ := R2'
  obtain ⟨s0, s1, s2, s3, s4⟩ := SR2
  go_wp2_with fail
  have hwz := below_put4 hw2 (by omega : w.heap.size ≤ g + 1) 0 0 0 ⟨#[]⟩
  obtain ⟨q0, q1, q2, q3, q4⟩ := boxed_put4 R2 0 0 0 ⟨#[]⟩
  exact bodyPost_ret (w := put4 w2 (g + 1) 0 0 0 ⟨#[]⟩) (v := .tuple #[.agg #[.int .u8 0, .int .i64 0, .int .i64 0, .string ⟨#[]⟩], .int .i64 0]) (by simp [results, Try.results56, go_sem, q0, q1, q2, q3]) rfl ⟨rfl, hwz⟩
set_option maxHeartbeats 2000000 in
theorem not_y (k n u : Int) (t : ByteArray) (hf : fitB 2 k = true) (hz : nullB k = false) (y : Bool) (hy : yesB k n = y) (w : World) :
    Calls Try.prog 56 #[.agg #[.int .u8 k, .int .i64 n, .int .i64 u, .string t]] w fun e w' => e = .returned (.tuple #[.agg #[.int .u8 2, .int .i64 (ofN (!y)), .int .i64 0, .string ⟨#[]⟩], .int .i64 0]) ∧ Below w.heap.size w w' := by
  have Hhf := Lib.hid hf
  clear hf
  have Hhz := Lib.hid hz
  clear hz
  have Hhy := Lib.hid hy
  clear hy
  obtain ⟨W, hW, A0, R0, SR0, hw, hs⟩ := boxes2 w k n u t
  obtain ⟨g, hg⟩ : ∃ g, w.heap.size = g := ⟨_, rfl⟩
  rw [hg] at A0 R0 SR0 hs
  have hbS := Below.allocs W (.cells #[.int .u8 k, .int .i64 n, .int .i64 u, .string t] 23)
  have D0 := Boxed.new W k n u t 23
  rw [hs] at D0
  have HS := Lib.hid hs
  clear hs
  have hw0 := below_tr hw hbS
  replace A0 := A0.below hbS
  replace R0 := R0.below hbS
  replace SR0 := SR0.below hbS
  go_enter Try.func56, Try.ntmps56
  go_wp2_with fail
  rw [← hW]
  clear hW
  refine (fit1_is 2 k n u t (g + 2) true Hhf.out _ D0).mono ?_
  rintro e w1 ⟨rfl, hb1⟩
  have hw1 := below_tr hw0 hb1
  have A1 := A0.below hb1
  have R1 := R0.below hb1
  have SR1 := SR0.below hb1
  have A1' := A1
  obtain ⟨a0, a1, a2, a3, a4⟩ := A1'
  have R1' := R1
  obtain ⟨r0, r1, r2, r3, r4⟩ := R1'
  go_wp2_with fail
  refine (null_is k n u t false Hhz.out _).mono ?_
  rintro e w2 ⟨rfl, hb2⟩
  have hw2 := below_tr hw1 hb2
  have A2 := A1.below hb2
  have R2 := R1.below hb2
  have SR2 := SR1.below hb2
  clear a0 a1 a2 a3 a4 r0 r1 r2 r3 r4
  have A2' := A2
  obtain ⟨a0, a1, a2, a3, a4⟩ := A2'
  have R2' := R2
  obtain ⟨r0, r1, r2, r3, r4⟩ := R2'
  go_wp2_with fail
  refine (yes_is k n u t y Hhy.out _).mono ?_
  rintro e w3 ⟨rfl, hb3⟩
  have hw3 := below_tr hw2 hb3
  have A3 := A2.below hb3
  have R3 := R2.below hb3
  have SR3 := SR2.below hb3
  clear a0 a1 a2 a3 a4 r0 r1 r2 r3 r4
  have A3' := A3
  obtain ⟨a0, a1, a2, a3, a4⟩ := A3'
  have R3' := R3
  obtain ⟨r0, r1, r2, r3, r4⟩ := R3'
  go_wp2_with fail
  refine (of_is (!y) _).mono ?_
  rintro e w4 ⟨rfl, hb4⟩
  have hw4 := below_tr hw3 hb4
  have A4 := A3.below hb4
  have R4 := R3.below hb4
  have SR4 := SR3.below hb4
  clear a0 a1 a2 a3 a4 r0 r1 r2 r3 r4
  have A4' := A4
  obtain ⟨a0, a1, a2, a3, a4⟩ := A4'
  have R4' := R4
  obtain ⟨r0, r1, r2, r3, r4⟩ := R4'
  obtain ⟨s0, s1, s2, s3, s4⟩ := SR4
  go_wp2_with fail
  have hwz := below_put4 hw4 (by omega : w.heap.size ≤ g + 1) 2 (ofN (!y)) 0 ⟨#[]⟩
  obtain ⟨q0, q1, q2, q3, q4⟩ := boxed_put4 R4 2 (ofN (!y)) 0 ⟨#[]⟩
  exact bodyPost_ret (w := put4 w4 (g + 1) 2 (ofN (!y)) 0 ⟨#[]⟩) (v := .tuple #[.agg #[.int .u8 2, .int .i64 (ofN (!y)), .int .i64 0, .string ⟨#[]⟩], .int .i64 0]) (by simp [results, Try.results56, go_sem, q0, q1, q2, q3]) rfl ⟨rfl, hwz⟩
theorem not_is (k n u : Int) (t : ByteArray) (r : Res) (hr : notR k n = r) (w : World) :
    Calls Try.prog 56 #[.agg #[.int .u8 k, .int .i64 n, .int .i64 u, .string t]] w fun e w' => e = .returned (.tuple #[.agg #[.int .u8 r.k, .int .i64 r.n, .int .i64 0, .string ⟨#[]⟩], .int .i64 r.e]) ∧ Below w.heap.size w w' := by
  subst hr
  unfold notR
  cases hf : fitB 2 k
  · exact not_no k n u t hf w
  · cases hz : nullB k
    · exact not_y k n u t hf hz _ rfl w
    · exact not_z k n u t hf hz w

end Go.Proofs.Ytflclkmhdngmaaa
