/-
  What the walks of package logic share: a value in memory, old memory is as it was, a call by its contract; and the smallest functions (null, Yes, Of, Int, IsNull).
-/
import Derived.Test.YtflclkmhdngmaaaChecked
import Derived.WalkKit
import Derived.WalkSpells
import Derived.WalkLawsBesides
import Derived.WalkSmall
import Derived.Lib.Hide
import Derived.Lib.SmallJoins
namespace Go.Proofs.Ytflclkmhdngmaaa
open Go.RowKit

theorem below_tr {w w1 w2 : World} (h : Below w.heap.size w w1) (h2 : Below w1.heap.size w1 w2) : Below w.heap.size w w2 := h.trans (h2.mono h.size)

/-- An api.Value lies in block g. -/
def Boxed (W : World) (g : Nat) (k n hi : Int) (t : ByteArray) : Prop :=
  W.cell? ⟨g, 0, none⟩ = some (.int .u8 k) ∧ W.cell? ⟨g, 1, none⟩ = some (.int .i64 n) ∧ W.cell? ⟨g, 2, none⟩ = some (.int .i64 hi) ∧ W.cell? ⟨g, 3, none⟩ = some (.string t) ∧ g < W.heap.size

theorem Boxed.new (w : World) (k n hi : Int) (t : ByteArray) (ty : TypeId) : Boxed (w.alloc (.cells #[.int .u8 k, .int .i64 n, .int .i64 hi, .string t] ty)) w.heap.size k n hi t := by
  refine ⟨?_, ?_, ?_, ?_, by simp⟩ <;> go_simp

theorem Boxed.below {W W' : World} {g : Nat} {k n hi : Int} {t : ByteArray} (h : Boxed W g k n hi t) (hb : Below W.heap.size W W') : Boxed W' g k n hi t := by
  obtain ⟨h0, h1, h2, h3, h4⟩ := h
  exact ⟨by rw [hb.cell h4]; exact h0, by rw [hb.cell h4]; exact h1, by rw [hb.cell h4]; exact h2, by rw [hb.cell h4]; exact h3, Nat.lt_of_lt_of_le h4 hb.size⟩

/-- A block of four cells that may be written. -/
def Soft (W : World) (g : Nat) : Prop :=
  W.frozen? ⟨g, 0, none⟩ = false ∧ W.frozen? ⟨g, 1, none⟩ = false ∧ W.frozen? ⟨g, 2, none⟩ = false ∧ W.frozen? ⟨g, 3, none⟩ = false ∧ g < W.heap.size

theorem Soft.new (w : World) (k n hi : Int) (t : ByteArray) (ty : TypeId) : Soft (w.alloc (.cells #[.int .u8 k, .int .i64 n, .int .i64 hi, .string t] ty)) w.heap.size := by
  refine ⟨?_, ?_, ?_, ?_, by simp⟩ <;> go_simp

theorem Soft.below {W W' : World} {g : Nat} (h : Soft W g) (hb : Below W.heap.size W W') : Soft W' g := by
  obtain ⟨h0, h1, h2, h3, h4⟩ := h
  exact ⟨by rw [hb.frozen h4]; exact h0, by rw [hb.frozen h4]; exact h1, by rw [hb.frozen h4]; exact h2, by rw [hb.frozen h4]; exact h3, Nat.lt_of_lt_of_le h4 hb.size⟩

theorem Below.allocs (w : World) (o : Obj) : Below w.heap.size w (w.alloc o) := (Below.refl _ _).alloc (Nat.le_refl _) _

/-- A value is written into block g. -/
def put4 (W : World) (g : Nat) (k n hi : Int) (t : ByteArray) : World :=
  (((W.setCell ⟨g, 0, none⟩ (.int .u8 k)).setCell ⟨g, 1, none⟩ (.int .i64 n)).setCell ⟨g, 2, none⟩ (.int .i64 hi)).setCell ⟨g, 3, none⟩ (.string t)

theorem below_put4 {B : Nat} {a W : World} (h : Below B a W) {g : Nat} (hg : B ≤ g) (k n hi : Int) (t : ByteArray) : Below B a (put4 W g k n hi t) :=
  (((h.setCell (by exact hg) _).setCell (by exact hg) _).setCell (by exact hg) _).setCell (by exact hg) _

theorem size_put4 (W : World) (g : Nat) (k n hi : Int) (t : ByteArray) : (put4 W g k n hi t).heap.size = W.heap.size := by simp [put4, World.setCell]

theorem boxed_put4 {W : World} {g : Nat} {k0 n0 u0 : Int} {t0 : ByteArray} (h : Boxed W g k0 n0 u0 t0) (k n hi : Int) (t : ByteArray) : Boxed (put4 W g k n hi t) g k n hi t := by
  obtain ⟨h0, h1, h2, h3, h4⟩ := h
  refine ⟨?_, ?_, ?_, ?_, by rw [size_put4]; exact h4⟩ <;> (unfold put4; go_simp)

theorem boxed_put4_ne {W : World} {g g' : Nat} {k0 n0 u0 : Int} {t0 : ByteArray} (h : Boxed W g' k0 n0 u0 t0) (hne : g' ≠ g) (k n hi : Int) (t : ByteArray) : Boxed (put4 W g k n hi t) g' k0 n0 u0 t0 := by
  have hb : Below (g' + 1) W (put4 W g k n hi t) ∨ True := Or.inr trivial
  obtain ⟨h0, h1, h2, h3, h4⟩ := h
  refine ⟨?_, ?_, ?_, ?_, by rw [size_put4]; exact h4⟩ <;> (unfold put4; go_simp)

theorem soft_put4 {W : World} {g g' : Nat} (h : Soft W g') (k n hi : Int) (t : ByteArray) : Soft (put4 W g k n hi t) g' := by
  obtain ⟨h0, h1, h2, h3, h4⟩ := h
  refine ⟨?_, ?_, ?_, ?_, by rw [size_put4]; exact h4⟩ <;> (unfold put4; go_simp)

/-- A call by its contract, where what is known of the world (S) stays behind whatever leaves old memory alone. -/
theorem call_then {P : Program} {f : FuncId} {args : Array Value} {W : World} {v : Value} {Q : Ending → World → Prop} (S : World → Prop) (hS : S W) (keep : ∀ W W', S W → Below W.heap.size W W' → S W')
    (hc : ∀ W, S W → Calls P f args W fun e W' => e = .returned v ∧ Below W.heap.size W W') (hk : ∀ W', S W' → Q (.returned v) W') : Calls P f args W Q :=
  (hc W hS).mono fun _ W' ⟨he, hb⟩ => by rw [he]; exact hk W' (keep W W' hS hb)

def nullB (k : Int) : Bool := decide (k = 0)
def yesB (k n : Int) : Bool := decide (k = 2 ∧ n ≠ 0)

theorem null_is (k n hi : Int) (t : ByteArray) (b : Bool) (h : nullB k = b) (w : World) :
    Calls Try.prog 74 #[.agg #[.int .u8 k, .int .i64 n, .int .i64 hi, .string t]] w fun e w' => e = .returned (.bool b) ∧ Below w.heap.size w w' := by
  subst h
  by_cases h : k = 0
  · subst h
    go_enter Try.func74, Try.ntmps74
    go_wp2
    go_ret
    exact ⟨rfl, Below.allocs _ _⟩
  · have hd : (k == 0) = false := by simpa using h
    have e : nullB k = false := by simpa [nullB] using h
    rw [e]
    go_enter Try.func74, Try.ntmps74
    go_wp2
    go_ret
    exact ⟨rfl, Below.allocs _ _⟩

theorem yes_is (k n hi : Int) (t : ByteArray) (b : Bool) (h : yesB k n = b) (w : World) :
    Calls Try.prog 40 #[.agg #[.int .u8 k, .int .i64 n, .int .i64 hi, .string t]] w fun e w' => e = .returned (.bool b) ∧ Below w.heap.size w w' := by
  subst h
  by_cases h : k = 2
  · subst h
    by_cases hn : n = 0
    · subst hn
      go_enter Try.func40, Try.ntmps40
      go_wp2
      go_ret
      exact ⟨rfl, Below.allocs _ _⟩
    · have hd : (n != 0) = true := by simpa using hn
      have e : yesB 2 n = true := by simpa [yesB] using hn
      rw [e]
      go_enter Try.func40, Try.ntmps40
      go_wp2
      go_ret
      exact ⟨rfl, Below.allocs _ _⟩
  · have hd : (k == 2) = false := by simpa using h
    have e : yesB k n = false := by simp [yesB, h]
    rw [e]
    go_enter Try.func40, Try.ntmps40
    go_wp2
    go_ret
    exact ⟨rfl, Below.allocs _ _⟩

def ofN (b : Bool) : Int := cond b 1 0

theorem of_is (b : Bool) (w : World) :
    Calls Try.prog 75 #[.bool b] w fun e w' => e = .returned (.agg #[.int .u8 2, .int .i64 (ofN b), .int .i64 0, .string ⟨#[]⟩]) ∧ Below w.heap.size w w' := by
  cases b
  · go_enter Try.func75, Try.ntmps75
    go_wp2
    exact bodyPost_ret (v := .agg #[.int .u8 2, .int .i64 0, .int .i64 0, .string ⟨#[]⟩]) (by simp [results, Try.results75, go_sem]) rfl ⟨rfl, Below.allocs _ _⟩
  · go_enter Try.func75, Try.ntmps75
    go_wp2
    exact bodyPost_ret (v := .agg #[.int .u8 2, .int .i64 1, .int .i64 0, .string ⟨#[]⟩]) (by simp [results, Try.results75, go_sem]) rfl ⟨rfl, Below.allocs _ _⟩

theorem int_is (n : Int) (w : World) :
    Calls Try.prog 72 #[.int .i64 n] w fun e w' => e = .returned (.agg #[.int .u8 1, .int .i64 n, .int .i64 0, .string ⟨#[]⟩]) ∧ Below w.heap.size w w' := by
  go_enter Try.func72, Try.ntmps72
  go_wp2
  exact bodyPost_ret (v := .agg #[.int .u8 1, .int .i64 n, .int .i64 0, .string ⟨#[]⟩]) (by simp [results, Try.results72, go_sem]) rfl ⟨rfl, Below.allocs _ _⟩

def knownB (k n : Int) (b : Bool) : Bool := !nullB k && (yesB k n == b)

theorem known_is (k n hi : Int) (t : ByteArray) (d b : Bool) (h : knownB k n d = b) (w : World) :
    Calls Try.prog 96 #[.agg #[.int .u8 k, .int .i64 n, .int .i64 hi, .string t], .bool d] w fun e w' => e = .returned (.bool b) ∧ Below w.heap.size w w' := by
  obtain ⟨x, hx⟩ : ∃ x, nullB k = x := ⟨_, rfl⟩
  obtain ⟨y, hy⟩ : ∃ y, yesB k n = y := ⟨_, rfl⟩
  have hz : b = (!x && (y == d)) := by rw [← h, knownB, hx, hy]
  clear h
  have HX := Lib.hid hx
  have HY := Lib.hid hy
  clear hx hy
  have B0 := Boxed.new w k n hi t 23
  have hb0 := Below.allocs w (.cells #[.int .u8 k, .int .i64 n, .int .i64 hi, .string t] 23)
  obtain ⟨g, hg⟩ : ∃ g, w.heap.size = g := ⟨_, rfl⟩
  rw [hg] at B0
  have HG := Lib.hid hg
  subst hz
  go_enter Try.func96, Try.ntmps96
  go_wp2_with fail
  refine (null_is k n hi t x HX.out _).mono ?_
  rintro e w1 ⟨rfl, hb1⟩
  have B1 := B0.below hb1
  obtain ⟨c0, c1, c2, c3, c4⟩ := B1
  have hw1 := below_tr hb0 hb1
  cases x
  · go_wp2_with fail
    refine (yes_is k n hi t y HY.out _).mono ?_
    rintro e w2 ⟨rfl, hb2⟩
    go_wp2_with fail
    go_ret
    exact ⟨by simp, below_tr hw1 hb2⟩
  · go_wp2_with fail
    go_ret
    exact ⟨rfl, hw1⟩
    
theorem isnull_is (k n hi : Int) (t : ByteArray) (b : Bool) (h : nullB k = b) (w : World) :
    Calls Try.prog 57 #[.agg #[.int .u8 k, .int .i64 n, .int .i64 hi, .string t]] w fun e w' => e = .returned (.agg #[.int .u8 2, .int .i64 (ofN b), .int .i64 0, .string ⟨#[]⟩]) ∧ Below w.heap.size w w' := by
  have H := Lib.hid h
  clear h
  obtain ⟨g, hg⟩ : ∃ g, w.heap.size = g := ⟨_, rfl⟩
  have hb0 : Below w.heap.size w ((w.alloc (.cells #[.int .u8 k, .int .i64 n, .int .i64 hi, .string t] 23)).alloc (.cells #[.int .u8 0, .int .i64 0, .int .i64 0, .string ⟨#[]⟩] 23)) := ((Below.refl _ _).alloc (Nat.le_refl _) _).alloc (by simp) _
  have R0 := Boxed.new (w.alloc (.cells #[.int .u8 k, .int .i64 n, .int .i64 hi, .string t] 23)) 0 0 0 ⟨#[]⟩ 23
  have S0 := Soft.new (w.alloc (.cells #[.int .u8 k, .int .i64 n, .int .i64 hi, .string t] 23)) 0 0 0 ⟨#[]⟩ 23
  rw [show (w.alloc (.cells #[.int .u8 k, .int .i64 n, .int .i64 hi, .string t] 23)).heap.size = g + 1 by simp [hg]] at R0 S0
  go_enter Try.func57, Try.ntmps57
  go_wp2_with fail
  refine (null_is k n hi t b H.out _).mono ?_
  rintro e w1 ⟨rfl, hb1⟩
  have hw1 := below_tr hb0 hb1
  have R1 := R0.below hb1
  have S1 := S0.below hb1
  go_wp2_with fail
  refine (of_is b _).mono ?_
  rintro e w2 ⟨rfl, hb2⟩
  have hw2 := below_tr hw1 hb2
  obtain ⟨r0, r1, r2, r3, r4⟩ := R1.below hb2
  obtain ⟨s0, s1, s2, s3, s4⟩ := S1.below hb2
  go_wp2_with fail
  have hw3 := below_put4 hw2 (by omega : w.heap.size ≤ g + 1) 2 (ofN b) 0 ⟨#[]⟩
  obtain ⟨q0, q1, q2, q3, q4⟩ := boxed_put4 (⟨r0, r1, r2, r3, r4⟩ : Boxed w2 (g + 1) 0 0 0 ⟨#[]⟩) 2 (ofN b) 0 ⟨#[]⟩
  exact bodyPost_ret (w := put4 w2 (g + 1) 2 (ofN b) 0 ⟨#[]⟩) (v := .agg #[.int .u8 2, .int .i64 (ofN b), .int .i64 0, .string ⟨#[]⟩]) (by simp [results, Try.results57, go_sem, q0, q1, q2, q3]) rfl ⟨rfl, hw3⟩
end Go.Proofs.Ytflclkmhdngmaaa
