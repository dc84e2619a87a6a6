/-
  Whether values are of a Kind, or NULL (logic.fit, of any number of values): of one value, of two.
-/
import Derived.Test.YtflclkmhdngmaaaQBase
namespace Go.Proofs.Ytflclkmhdngmaaa
open Go.RowKit

def fitB (kind k : Int) : Bool := decide (k = kind ∨ k = 0)

/-- Two values lie in block g, one behind the other. -/
def Two (W : World) (g : Nat) (k n u : Int) (t : ByteArray) (k' n' u' : Int) (t' : ByteArray) : Prop :=
  Boxed W g k n u t ∧ W.cell? ⟨g, 4, none⟩ = some (.int .u8 k') ∧ W.cell? ⟨g, 5, none⟩ = some (.int .i64 n') ∧ W.cell? ⟨g, 6, none⟩ = some (.int .i64 u') ∧ W.cell? ⟨g, 7, none⟩ = some (.string t')

theorem Two.below {W W' : World} {g : Nat} {k n u : Int} {t : ByteArray} {k' n' u' : Int} {t' : ByteArray} (h : Two W g k n u t k' n' u' t') (hb : Below W.heap.size W W') : Two W' g k n u t k' n' u' t' := by
  obtain ⟨h0, h1, h2, h3, h4⟩ := h
  have hg := h0.2.2.2.2
  exact ⟨h0.below hb, by rw [hb.cell hg]; exact h1, by rw [hb.cell hg]; exact h2, by rw [hb.cell hg]; exact h3, by rw [hb.cell hg]; exact h4⟩

theorem Two.new (w : World) (k n u : Int) (t : ByteArray) (k' n' u' : Int) (t' : ByteArray) (ty : TypeId) : Two (w.alloc (.cells #[.int .u8 k, .int .i64 n, .int .i64 u, .string t, .int .u8 k', .int .i64 n', .int .i64 u', .string t'] ty)) w.heap.size k n u t k' n' u' t' := by
  refine ⟨⟨?_, ?_, ?_, ?_, by simp⟩, ?_, ?_, ?_, ?_⟩ <;> go_simp

set_option maxHeartbeats 1000000 in
theorem fit1_bad (kind k n u : Int) (t : ByteArray) (g : Nat) (w : World) (h : Boxed w g k n u t) (e0 : k ≠ 0) (d0 : k ≠ kind) :
    Calls Try.prog 73 #[.int .u8 kind, .slice (some ⟨g, 0, none⟩) 1 1] w fun e w' => e = .returned (.bool false) ∧ Below w.heap.size w w' := by
  have b0 : (k != kind) = true := by simpa using d0
  have y0 := Lib.hid (show nullB k = false by simp [nullB, e0])
  clear e0 d0
  obtain ⟨a0, a1, a2, a3, a4⟩ := h
  have hz : Below w.heap.size w w := Below.refl _ _
  go_enter Try.func73, Try.ntmps73
  go_wp2_with fail
  refine wp_loop_rounds 2 ?_
  rw [rounds_succ]
  go_wp2_with fail
  have hb0 := Below.allocs w (.cells #[.int .u8 k, .int .i64 n, .int .i64 u, .string t] 23)
  have hw0 := below_tr hz hb0
  refine (null_is k n u t false y0.out _).mono ?_
  rintro e v0 ⟨rfl, hv0⟩
  have hx0 := below_tr hw0 hv0
  obtain ⟨f0, f1, f2, f3, f4⟩ := (show Boxed w g k n u t from ⟨a0, a1, a2, a3, a4⟩).below hx0
  go_wp2_with fail
  go_ret
  exact ⟨rfl, hx0⟩

set_option maxHeartbeats 1000000 in
theorem fit1_eq (kind k n u : Int) (t : ByteArray) (g : Nat) (w : World) (h : Boxed w g k n u t) (e0 : k = kind) :
    Calls Try.prog 73 #[.int .u8 kind, .slice (some ⟨g, 0, none⟩) 1 1] w fun e w' => e = .returned (.bool true) ∧ Below w.heap.size w w' := by
  have b0 : (k != kind) = false := by rw [e0]; simp
  clear e0
  obtain ⟨a0, a1, a2, a3, a4⟩ := h
  have hz : Below w.heap.size w w := Below.refl _ _
  go_enter Try.func73, Try.ntmps73
  go_wp2_with fail
  refine wp_loop_rounds 2 ?_
  rw [rounds_succ]
  go_wp2_with fail
  have hb0 := Below.allocs w (.cells #[.int .u8 k, .int .i64 n, .int .i64 u, .string t] 23)
  have hw0 := below_tr hz hb0
  rw [rounds_succ]
  go_wp2_with fail
  go_ret
  exact ⟨rfl, hw0⟩

set_option maxHeartbeats 1000000 in
theorem fit1_null (kind k n u : Int) (t : ByteArray) (g : Nat) (w : World) (h : Boxed w g k n u t) (e0 : k = 0) (d0 : k ≠ kind) :
    Calls Try.prog 73 #[.int .u8 kind, .slice (some ⟨g, 0, none⟩) 1 1] w fun e w' => e = .returned (.bool true) ∧ Below w.heap.size w w' := by
  have b0 : (k != kind) = true := by simpa using d0
  have y0 := Lib.hid (show nullB k = true by simp [nullB, e0])
  clear e0 d0
  obtain ⟨a0, a1, a2, a3, a4⟩ := h
  have hz : Below w.heap.size w w := Below.refl _ _
  go_enter Try.func73, Try.ntmps73
  go_wp2_with fail
  refine wp_loop_rounds 2 ?_
  rw [rounds_succ]
  go_wp2_with fail
  have hb0 := Below.allocs w (.cells #[.int .u8 k, .int .i64 n, .int .i64 u, .string t] 23)
  have hw0 := below_tr hz hb0
  refine (null_is k n u t true y0.out _).mono ?_
  rintro e v0 ⟨rfl, hv0⟩
  have hx0 := below_tr hw0 hv0
  obtain ⟨f0, f1, f2, f3, f4⟩ := (show Boxed w g k n u t from ⟨a0, a1, a2, a3, a4⟩).below hx0
  go_wp2_with fail
  rw [rounds_succ]
  go_wp2_with fail
  go_ret
  exact ⟨rfl, hx0⟩

set_option maxHeartbeats 1000000 in
theorem fit2_bad (kind k n u : Int) (t : ByteArray) (k' n' u' : Int) (t' : ByteArray) (g : Nat) (w : World) (h : Two w g k n u t k' n' u' t') (e0 : k ≠ 0) (d0 : k ≠ kind) :
    Calls Try.prog 73 #[.int .u8 kind, .slice (some ⟨g, 0, none⟩) 2 2] w fun e w' => e = .returned (.bool false) ∧ Below w.heap.size w w' := by
  have b0 : (k != kind) = true := by simpa using d0
  have y0 := Lib.hid (show nullB k = false by simp [nullB, e0])
  clear e0 d0
  obtain ⟨⟨a0, a1, a2, a3, a4⟩, a5, a6, a7, a8⟩ := h
  have hz : Below w.heap.size w w := Below.refl _ _
  go_enter Try.func73, Try.ntmps73
  go_wp2_with fail
  refine wp_loop_rounds 3 ?_
  rw [rounds_succ]
  go_wp2_with fail
  have hb0 := Below.allocs w (.cells #[.int .u8 k, .int .i64 n, .int .i64 u, .string t] 23)
  have hw0 := below_tr hz hb0
  refine (null_is k n u t false y0.out _).mono ?_
  rintro e v0 ⟨rfl, hv0⟩
  have hx0 := below_tr hw0 hv0
  obtain ⟨⟨f0, f1, f2, f3, f4⟩, f5, f6, f7, f8⟩ := (show Two w g k n u t k' n' u' t' from ⟨⟨a0, a1, a2, a3, a4⟩, a5, a6, a7, a8⟩).below hx0
  go_wp2_with fail
  go_ret
  exact ⟨rfl, hx0⟩

set_option maxHeartbeats 1000000 in
theorem fit2_eq_eq (kind k n u : Int) (t : ByteArray) (k' n' u' : Int) (t' : ByteArray) (g : Nat) (w : World) (h : Two w g k n u t k' n' u' t') (e0 : k = kind) (e1 : k' = kind) :
    Calls Try.prog 73 #[.int .u8 kind, .slice (some ⟨g, 0, none⟩) 2 2] w fun e w' => e = .returned (.bool true) ∧ Below w.heap.size w w' := by
  have b0 : (k != kind) = false := by rw [e0]; simp
  clear e0
  have b1 : (k' != kind) = false := by rw [e1]; simp
  clear e1
  obtain ⟨⟨a0, a1, a2, a3, a4⟩, a5, a6, a7, a8⟩ := h
  have hz : Below w.heap.size w w := Below.refl _ _
  go_enter Try.func73, Try.ntmps73
  go_wp2_with fail
  refine wp_loop_rounds 3 ?_
  rw [rounds_succ]
  go_wp2_with fail
  have hb0 := Below.allocs w (.cells #[.int .u8 k, .int .i64 n, .int .i64 u, .string t] 23)
  have hw0 := below_tr hz hb0
  rw [rounds_succ]
  go_wp2_with fail
  have hb1 := Below.allocs (w.alloc (.cells #[.int .u8 k, .int .i64 n, .int .i64 u, .string t] 23)) (.cells #[.int .u8 k', .int .i64 n', .int .i64 u', .string t'] 23)
  have hw1 := below_tr hw0 hb1
  rw [rounds_succ]
  go_wp2_with fail
  go_ret
  exact ⟨rfl, hw1⟩

set_option maxHeartbeats 1000000 in
theorem fit2_eq_null (kind k n u : Int) (t : ByteArray) (k' n' u' : Int) (t' : ByteArray) (g : Nat) (w : World) (h : Two w g k n u t k' n' u' t') (e0 : k = kind) (e1 : k' = 0) (d1 : k' ≠ kind) :
    Calls Try.prog 73 #[.int .u8 kind, .slice (some ⟨g, 0, none⟩) 2 2] w fun e w' => e = .returned (.bool true) ∧ Below w.heap.size w w' := by
  have b0 : (k != kind) = false := by rw [e0]; simp
  clear e0
  have b1 : (k' != kind) = true := by simpa using d1
  have y1 := Lib.hid (show nullB k' = true by simp [nullB, e1])
  clear e1 d1
  obtain ⟨⟨a0, a1, a2, a3, a4⟩, a5, a6, a7, a8⟩ := h
  have hz : Below w.heap.size w w := Below.refl _ _
  go_enter Try.func73, Try.ntmps73
  go_wp2_with fail
  refine wp_loop_rounds 3 ?_
  rw [rounds_succ]
  go_wp2_with fail
  have hb0 := Below.allocs w (.cells #[.int .u8 k, .int .i64 n, .int .i64 u, .string t] 23)
  have hw0 := below_tr hz hb0
  rw [rounds_succ]
  go_wp2_with fail
  have hb1 := Below.allocs (w.alloc (.cells #[.int .u8 k, .int .i64 n, .int .i64 u, .string t] 23)) (.cells #[.int .u8 k', .int .i64 n', .int .i64 u', .string t'] 23)
  have hw1 := below_tr hw0 hb1
  refine (null_is k' n' u' t' true y1.out _).mono ?_
  rintro e v1 ⟨rfl, hv1⟩
  have hx1 := below_tr hw1 hv1
  obtain ⟨⟨f0, f1, f2, f3, f4⟩, f5, f6, f7, f8⟩ := (show Two w g k n u t k' n' u' t' from ⟨⟨a0, a1, a2, a3, a4⟩, a5, a6, a7, a8⟩).below hx1
  go_wp2_with fail
  rw [rounds_succ]
  go_wp2_with fail
  go_ret
  exact ⟨rfl, hx1⟩

set_option maxHeartbeats 1000000 in
theorem fit2_eq_bad (kind k n u : Int) (t : ByteArray) (k' n' u' : Int) (t' : ByteArray) (g : Nat) (w : World) (h : Two w g k n u t k' n' u' t') (e0 : k = kind) (e1 : k' ≠ 0) (d1 : k' ≠ kind) :
    Calls Try.prog 73 #[.int .u8 kind, .slice (some ⟨g, 0, none⟩) 2 2] w fun e w' => e = .returned (.bool false) ∧ Below w.heap.size w w' := by
  have b0 : (k != kind) = false := by rw [e0]; simp
  clear e0
  have b1 : (k' != kind) = true := by simpa using d1
  have y1 := Lib.hid (show nullB k' = false by simp [nullB, e1])
  clear e1 d1
  obtain ⟨⟨a0, a1, a2, a3, a4⟩, a5, a6, a7, a8⟩ := h
  have hz : Below w.heap.size w w := Below.refl _ _
  go_enter Try.func73, Try.ntmps73
  go_wp2_with fail
  refine wp_loop_rounds 3 ?_
  rw [rounds_succ]
  go_wp2_with fail
  have hb0 := Below.allocs w (.cells #[.int .u8 k, .int .i64 n, .int .i64 u, .string t] 23)
  have hw0 := below_tr hz hb0
  rw [rounds_succ]
  go_wp2_with fail
  have hb1 := Below.allocs (w.alloc (.cells #[.int .u8 k, .int .i64 n, .int .i64 u, .string t] 23)) (.cells #[.int .u8 k', .int .i64 n', .int .i64 u', .string t'] 23)
  have hw1 := below_tr hw0 hb1
  refine (null_is k' n' u' t' false y1.out _).mono ?_
  rintro e v1 ⟨rfl, hv1⟩
  have hx1 := below_tr hw1 hv1
  obtain ⟨⟨f0, f1, f2, f3, f4⟩, f5, f6, f7, f8⟩ := (show Two w g k n u t k' n' u' t' from ⟨⟨a0, a1, a2, a3, a4⟩, a5, a6, a7, a8⟩).below hx1
  go_wp2_with fail
  go_ret
  exact ⟨rfl, hx1⟩

set_option maxHeartbeats 1000000 in
theorem fit2_null_eq (kind k n u : Int) (t : ByteArray) (k' n' u' : Int) (t' : ByteArray) (g : Nat) (w : World) (h : Two w g k n u t k' n' u' t') (e0 : k = 0) (d0 : k ≠ kind) (e1 : k' = kind) :
    Calls Try.prog 73 #[.int .u8 kind, .slice (some ⟨g, 0, none⟩) 2 2] w fun e w' => e = .returned (.bool true) ∧ Below w.heap.size w w' := by
  have b0 : (k != kind) = true := by simpa using d0
  have y0 := Lib.hid (show nullB k = true by simp [nullB, e0])
  clear e0 d0
  have b1 : (k' != kind) = false := by rw [e1]; simp
  clear e1
  obtain ⟨⟨a0, a1, a2, a3, a4⟩, a5, a6, a7, a8⟩ := h
  have hz : Below w.heap.size w w := Below.refl _ _
  go_enter Try.func73, Try.ntmps73
  go_wp2_with fail
  refine wp_loop_rounds 3 ?_
  rw [rounds_succ]
  go_wp2_with fail
  have hb0 := Below.allocs w (.cells #[.int .u8 k, .int .i64 n, .int .i64 u, .string t] 23)
  have hw0 := below_tr hz hb0
  refine (null_is k n u t true y0.out _).mono ?_
  rintro e v0 ⟨rfl, hv0⟩
  have hx0 := below_tr hw0 hv0
  obtain ⟨⟨f0, f1, f2, f3, f4⟩, f5, f6, f7, f8⟩ := (show Two w g k n u t k' n' u' t' from ⟨⟨a0, a1, a2, a3, a4⟩, a5, a6, a7, a8⟩).below hx0
  go_wp2_with fail
  rw [rounds_succ]
  go_wp2_with fail
  have hb1 := Below.allocs v0 (.cells #[.int .u8 k', .int .i64 n', .int .i64 u', .string t'] 23)
  have hw1 := below_tr hx0 hb1
  rw [rounds_succ]
  go_wp2_with fail
  go_ret
  exact ⟨rfl, hw1⟩

set_option maxHeartbeats 1000000 in
theorem fit2_null_null (kind k n u : Int) (t : ByteArray) (k' n' u' : Int) (t' : ByteArray) (g : Nat) (w : World) (h : Two w g k n u t k' n' u' t') (e0 : k = 0) (d0 : k ≠ kind) (e1 : k' = 0) (d1 : k' ≠ kind) :
    Calls Try.prog 73 #[.int .u8 kind, .slice (some ⟨g, 0, none⟩) 2 2] w fun e w' => e = .returned (.bool true) ∧ Below w.heap.size w w' := by
  have b0 : (k != kind) = true := by simpa using d0
  have y0 := Lib.hid (show nullB k = true by simp [nullB, e0])
  clear e0 d0
  have b1 : (k' != kind) = true := by simpa using d1
  have y1 := Lib.hid (show nullB k' = true by simp [nullB, e1])
  clear e1 d1
  obtain ⟨⟨a0, a1, a2, a3, a4⟩, a5, a6, a7, a8⟩ := h
  have hz : Below w.heap.size w w := Below.refl _ _
  go_enter Try.func73, Try.ntmps73
  go_wp2_with fail
  refine wp_loop_rounds 3 ?_
  rw [rounds_succ]
  go_wp2_with fail
  have hb0 := Below.allocs w (.cells #[.int .u8 k, .int .i64 n, .int .i64 u, .string t] 23)
  have hw0 := below_tr hz hb0
  refine (null_is k n u t true y0.out _).mono ?_
  rintro e v0 ⟨rfl, hv0⟩
  have hx0 := below_tr hw0 hv0
  obtain ⟨⟨f0, f1, f2, f3, f4⟩, f5, f6, f7, f8⟩ := (show Two w g k n u t k' n' u' t' from ⟨⟨a0, a1, a2, a3, a4⟩, a5, a6, a7, a8⟩).below hx0
  go_wp2_with fail
  rw [rounds_succ]
  go_wp2_with fail
  have hb1 := Below.allocs v0 (.cells #[.int .u8 k', .int .i64 n', .int .i64 u', .string t'] 23)
  have hw1 := below_tr hx0 hb1
  refine (null_is k' n' u' t' true y1.out _).mono ?_
  rintro e v1 ⟨rfl, hv1⟩
  have hx1 := below_tr hw1 hv1
  obtain ⟨⟨f0, f1, f2, f3, f4⟩, f5, f6, f7, f8⟩ := (show Two w g k n u t k' n' u' t' from ⟨⟨a0, a1, a2, a3, a4⟩, a5, a6, a7, a8⟩).below hx1
  go_wp2_with fail
  rw [rounds_succ]
  go_wp2_with fail
  go_ret
  exact ⟨rfl, hx1⟩

set_option maxHeartbeats 1000000 in
theorem fit2_null_bad (kind k n u : Int) (t : ByteArray) (k' n' u' : Int) (t' : ByteArray) (g : Nat) (w : World) (h : Two w g k n u t k' n' u' t') (e0 : k = 0) (d0 : k ≠ kind) (e1 : k' ≠ 0) (d1 : k' ≠ kind) :
    Calls Try.prog 73 #[.int .u8 kind, .slice (some ⟨g, 0, none⟩) 2 2] w fun e w' => e = .returned (.bool false) ∧ Below w.heap.size w w' := by
  have b0 : (k != kind) = true := by simpa using d0
  have y0 := Lib.hid (show nullB k = true by simp [nullB, e0])
  clear e0 d0
  have b1 : (k' != kind) = true := by simpa using d1
  have y1 := Lib.hid (show nullB k' = false by simp [nullB, e1])
  clear e1 d1
  obtain ⟨⟨a0, a1, a2, a3, a4⟩, a5, a6, a7, a8⟩ := h
  have hz : Below w.heap.size w w := Below.refl _ _
  go_enter Try.func73, Try.ntmps73
  go_wp2_with fail
  refine wp_loop_rounds 3 ?_
  rw [rounds_succ]
  go_wp2_with fail
  have hb0 := Below.allocs w (.cells #[.int .u8 k, .int .i64 n, .int .i64 u, .string t] 23)
  have hw0 := below_tr hz hb0
  refine (null_is k n u t true y0.out _).mono ?_
  rintro e v0 ⟨rfl, hv0⟩
  have hx0 := below_tr hw0 hv0
  obtain ⟨⟨f0, f1, f2, f3, f4⟩, f5, f6, f7, f8⟩ := (show Two w g k n u t k' n' u' t' from ⟨⟨a0, a1, a2, a3, a4⟩, a5, a6, a7, a8⟩).below hx0
  go_wp2_with fail
  rw [rounds_succ]
  go_wp2_with fail
  have hb1 := Below.allocs v0 (.cells #[.int .u8 k', .int .i64 n', .int .i64 u', .string t'] 23)
  have hw1 := below_tr hx0 hb1
  refine (null_is k' n' u' t' false y1.out _).mono ?_
  rintro e v1 ⟨rfl, hv1⟩
  have hx1 := below_tr hw1 hv1
  obtain ⟨⟨f0, f1, f2, f3, f4⟩, f5, f6, f7, f8⟩ := (show Two w g k n u t k' n' u' t' from ⟨⟨a0, a1, a2, a3, a4⟩, a5, a6, a7, a8⟩).below hx1
  go_wp2_with fail
  go_ret
  exact ⟨rfl, hx1⟩

theorem fit1_is (kind k n u : Int) (t : ByteArray) (g : Nat) (b : Bool) (hb : fitB kind k = b) (w : World) (h : Boxed w g k n u t) :
    Calls Try.prog 73 #[.int .u8 kind, .slice (some ⟨g, 0, none⟩) 1 1] w fun e w' => e = .returned (.bool b) ∧ Below w.heap.size w w' := by
  subst hb
  by_cases e : k = kind
  · rw [show fitB kind k = true by simp [fitB, e]]; exact fit1_eq kind k n u t g w h e
  · by_cases z : k = 0
    · rw [show fitB kind k = true by simp [fitB, z]]; exact fit1_null kind k n u t g w h z e
    · rw [show fitB kind k = false by simp [fitB, z, e]]; exact fit1_bad kind k n u t g w h z e

theorem fit2_is (kind k n u : Int) (t : ByteArray) (k' n' u' : Int) (t' : ByteArray) (g : Nat) (b : Bool) (hb : (fitB kind k && fitB kind k') = b) (w : World) (h : Two w g k n u t k' n' u' t') :
    Calls Try.prog 73 #[.int .u8 kind, .slice (some ⟨g, 0, none⟩) 2 2] w fun e w' => e = .returned (.bool b) ∧ Below w.heap.size w w' := by
  subst hb
  by_cases e : k = kind
  · rw [show fitB kind k = true by simp [fitB, e], Bool.true_and]
    by_cases e' : k' = kind
    · rw [show fitB kind k' = true by simp [fitB, e']]; exact fit2_eq_eq kind k n u t k' n' u' t' g w h e e'
    · by_cases z' : k' = 0
      · rw [show fitB kind k' = true by simp [fitB, z']]; exact fit2_eq_null kind k n u t k' n' u' t' g w h e z' e'
      · rw [show fitB kind k' = false by simp [fitB, z', e']]; exact fit2_eq_bad kind k n u t k' n' u' t' g w h e z' e'
  · by_cases z : k = 0
    · rw [show fitB kind k = true by simp [fitB, z], Bool.true_and]
      by_cases e' : k' = kind
      · rw [show fitB kind k' = true by simp [fitB, e']]; exact fit2_null_eq kind k n u t k' n' u' t' g w h z e e'
      · by_cases z' : k' = 0
        · rw [show fitB kind k' = true by simp [fitB, z']]; exact fit2_null_null kind k n u t k' n' u' t' g w h z e z' e'
        · rw [show fitB kind k' = false by simp [fitB, z', e']]; exact fit2_null_bad kind k n u t k' n' u' t' g w h z e z' e'
    · rw [show fitB kind k = false by simp [fitB, z, e], Bool.false_and]; exact fit2_bad kind k n u t k' n' u' t' g w h z e
end Go.Proofs.Ytflclkmhdngmaaa
