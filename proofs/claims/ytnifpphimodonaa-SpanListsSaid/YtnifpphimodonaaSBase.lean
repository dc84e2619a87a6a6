/-
  Spans in memory: a value in a block, a slice of values, old memory is as it was; values held against each other.
-/
import Derived.Test.YtnifpphimodonaaChecked
import Derived.Test.YtnifpphimodonaaSMath
import Derived.WalkKit
import Derived.WalkSpells
import Derived.WalkLawsBesides
import Derived.WalkSmall
import Derived.Lib.Hide
import Derived.Lib.SmallJoins
namespace Go.Proofs.Ytnifpphimodonaa
open Go.RowKit

theorem below_tr {w w1 w2 : World} (h : Below w.heap.size w w1) (h2 : Below w1.heap.size w1 w2) : Below w.heap.size w w2 := h.trans (h2.mono h.size)

/-- An api.Value lies in block g. -/
def Boxed (W : World) (g : Nat) (k n hi : Int) (t : ByteArray) : Prop :=
  W.cell? ⟨g, 0, none⟩ = some (.int .u8 k) ∧ W.cell? ⟨g, 1, none⟩ = some (.int .i64 n) ∧ W.cell? ⟨g, 2, none⟩ = some (.int .i64 hi) ∧ W.cell? ⟨g, 3, none⟩ = some (.string t) ∧ g < W.heap.size

theorem Boxed.new (w : World) (k n hi : Int) (t : ByteArray) (ty : TypeId) : Boxed (w.alloc (.cells #[.int .u8 k, .int .i64 n, .int .i64 hi, .string t] ty)) w.heap.size k n hi t := by
  refine ⟨?_, ?_, ?_, ?_, by simp⟩ <;> go_simp

theorem Boxed.below {W W' : World} {g : Nat} {k n hi : Int} {t : ByteArray} (h : Boxed W g k n hi t) (hb : Below W.heap.size W W') : Boxed W' g k n hi t := by
  obtain ⟨h0, h1, h2, h3, h4⟩ := h
  exact ⟨by rw [hb.cell h4]; exact h0, by rw [hb.cell h4]; exact h1, by rw [hb.cell h4]; exact h2, by rw [hb.cell h4]; exact h3, Nat.lt_of_lt_of_le h4 hb.size⟩

/-- A block of four cells that may be written. -/
def Soft (W : World) (g : Nat) : Prop :=
  W.frozen? ⟨g, 0, none⟩ = false ∧ W.frozen? ⟨g, 1, none⟩ = false ∧ W.frozen? ⟨g, 2, none⟩ = false ∧ W.frozen? ⟨g, 3, none⟩ = false ∧ g < W.heap.size

theorem Soft.new (w : World) (k n hi : Int) (t : ByteArray) (ty : TypeId) : Soft (w.alloc (.cells #[.int .u8 k, .int .i64 n, .int .i64 hi, .string t] ty)) w.heap.size := by
  refine ⟨?_, ?_, ?_, ?_, by simp⟩ <;> go_simp

theorem Soft.below {W W' : World} {g : Nat} (h : Soft W g) (hb : Below W.heap.size W W') : Soft W' g := by
  obtain ⟨h0, h1, h2, h3, h4⟩ := h
  exact ⟨by rw [hb.frozen h4]; exact h0, by rw [hb.frozen h4]; exact h1, by rw [hb.frozen h4]; exact h2, by rw [hb.frozen h4]; exact h3, Nat.lt_of_lt_of_le h4 hb.size⟩

theorem Below.allocs (w : World) (o : Obj) : Below w.heap.size w (w.alloc o) := (Below.refl _ _).alloc (Nat.le_refl _) _

/-- A value is written into block g. -/
def put4 (W : World) (g : Nat) (k n hi : Int) (t : ByteArray) : World :=
  (((W.setCell ⟨g, 0, none⟩ (.int .u8 k)).setCell ⟨g, 1, none⟩ (.int .i64 n)).setCell ⟨g, 2, none⟩ (.int .i64 hi)).setCell ⟨g, 3, none⟩ (.string t)

theorem below_put4 {B : Nat} {a W : World} (h : Below B a W) {g : Nat} (hg : B ≤ g) (k n hi : Int) (t : ByteArray) : Below B a (put4 W g k n hi t) :=
  (((h.setCell (by exact hg) _).setCell (by exact hg) _).setCell (by exact hg) _).setCell (by exact hg) _

theorem size_put4 (W : World) (g : Nat) (k n hi : Int) (t : ByteArray) : (put4 W g k n hi t).heap.size = W.heap.size := by simp [put4, World.setCell]

theorem boxed_put4 {W : World} {g : Nat} {k0 n0 u0 : Int} {t0 : ByteArray} (h : Boxed W g k0 n0 u0 t0) (k n hi : Int) (t : ByteArray) : Boxed (put4 W g k n hi t) g k n hi t := by
  obtain ⟨h0, h1, h2, h3, h4⟩ := h
  refine ⟨?_, ?_, ?_, ?_, by rw [size_put4]; exact h4⟩ <;> (unfold put4; go_simp)

theorem boxed_put4_ne {W : World} {g g' : Nat} {k0 n0 u0 : Int} {t0 : ByteArray} (h : Boxed W g' k0 n0 u0 t0) (hne : g' ≠ g) (k n hi : Int) (t : ByteArray) : Boxed (put4 W g k n hi t) g' k0 n0 u0 t0 := by
  have hb : Below (g' + 1) W (put4 W g k n hi t) ∨ True := Or.inr trivial
  obtain ⟨h0, h1, h2, h3, h4⟩ := h
  refine ⟨?_, ?_, ?_, ?_, by rw [size_put4]; exact h4⟩ <;> (unfold put4; go_simp)

theorem soft_put4 {W : World} {g g' : Nat} (h : Soft W g') (k n hi : Int) (t : ByteArray) : Soft (put4 W g k n hi t) g' := by
  obtain ⟨h0, h1, h2, h3, h4⟩ := h
  refine ⟨?_, ?_, ?_, ?_, by rw [size_put4]; exact h4⟩ <;> (unfold put4; go_simp)

/-- A call by its contract, where what is known of the world (S) stays behind whatever leaves old memory alone. -/
theorem call_then {P : Program} {f : FuncId} {args : Array Value} {W : World} {v : Value} {Q : Ending → World → Prop} (S : World → Prop) (hS : S W) (keep : ∀ W W', S W → Below W.heap.size W W' → S W')
    (hc : ∀ W, S W → Calls P f args W fun e W' => e = .returned v ∧ Below W.heap.size W W') (hk : ∀ W', S W' → Q (.returned v) W') : Calls P f args W Q :=
  (hc W hS).mono fun _ W' ⟨he, hb⟩ => by rw [he]; exact hk W' (keep W W' hS hb)

structure Val.wf (v : Val) : Prop where
  k0 : 0 ≤ v.k
  k1 : v.k ≤ 255
  n : I64 v.n
  u : I64 v.u
  t : v.t.size ≤ 140737488351232

/-- A slice of values. -/
structure Rw where
  a : Option Addr
  len : Nat
  cap : Nat
  vals : Nat → Val

def Rw.v (r : Rw) : Value := .slice r.a r.len r.cap

def AtV (W : World) (b o : Nat) (v : Val) : Prop :=
  W.cell? ⟨b, o, none⟩ = some (.int .u8 v.k) ∧ W.cell? ⟨b, o + 1, none⟩ = some (.int .i64 v.n) ∧ W.cell? ⟨b, o + 2, none⟩ = some (.int .i64 v.u) ∧ W.cell? ⟨b, o + 3, none⟩ = some (.string v.t) ∧ b < W.heap.size

theorem AtV.below {W W' : World} {b o : Nat} {v : Val} (h : AtV W b o v) (hb : Below W.heap.size W W') : AtV W' b o v := by
  obtain ⟨h0, h1, h2, h3, h7⟩ := h
  exact ⟨by rw [hb.cell h7]; exact h0, by rw [hb.cell h7]; exact h1, by rw [hb.cell h7]; exact h2, by rw [hb.cell h7]; exact h3, Nat.lt_of_lt_of_le h7 hb.size⟩

structure Rw.In (W : World) (r : Rw) : Prop where
  lc : r.len ≤ r.cap
  cm : r.cap ≤ maxLen
  at' : 0 < r.len → ∃ b o, r.a = some ⟨b, o, none⟩ ∧ ∀ i, i < r.len → AtV W b (o + i * 4) (r.vals i)
  wf : ∀ i, i < r.len → (r.vals i).wf

theorem Rw.In.below {W W' : World} {r : Rw} (h : r.In W) (hb : Below W.heap.size W W') : r.In W' :=
  ⟨h.lc, h.cm, fun hl => by obtain ⟨b, o, e, hx⟩ := h.at' hl; exact ⟨b, o, e, fun i hi => (hx i hi).below hb⟩, h.wf⟩

/-- Are two values the same? -/
def eqB (x y : Val) : Bool := decide (x.k = y.k) && (decide (x.n = y.n) && (decide (x.u = y.u) && decide (x.t.toList = y.t.toList)))

theorem toList_inj {a b : ByteArray} (h : a.toList = b.toList) : a = b := by
  rw [ByteArray.toList_eq, ByteArray.toList_eq] at h
  obtain ⟨⟨a⟩⟩ := a
  obtain ⟨⟨b⟩⟩ := b
  simpa using h

theorem eqB_iff {x y : Val} : eqB x y = true ↔ x = y := by
  obtain ⟨k, n, u, t⟩ := x
  obtain ⟨k', n', u', t'⟩ := y
  simp only [eqB, Bool.and_eq_true, decide_eq_true_eq, Val.mk.injEq]
  exact ⟨fun ⟨a, b, c, d⟩ => ⟨a, b, c, toList_inj d⟩, fun ⟨a, b, c, d⟩ => ⟨a, b, c, by rw [d]⟩⟩

set_option maxRecDepth 100000 in
set_option maxHeartbeats 1000000 in
theorem eql_any (k n u : Int) (t : ByteArray) (k' n' u' : Int) (t' : ByteArray) (w : World) :
    (Go.binOp .eql 23 (.agg #[.int .u8 k, .int .i64 n, .int .i64 u, .string t]) (.agg #[.int .u8 k', .int .i64 n', .int .i64 u', .string t'])).run Try.prog w = .ok (.bool (eqB ⟨k, n, u, t⟩ ⟨k', n', u', t'⟩)) w := by
  unfold eqB
  by_cases h1 : k = k'
  · by_cases h2 : n = n'
    · by_cases h3 : u = u'
      · by_cases h4 : t.toList = t'.toList
        · simp only [h1, h2, h3, h4]
          go_simp
        · simp only [h1, h2, h3, h4]
          go_simp
      · simp only [h1, h2, h3]
        go_simp
    · simp only [h1, h2]
      go_simp
  · simp only [h1]
    go_simp

theorem eql_is (x y : Val) (b : Bool) (h : eqB x y = b) (w : World) : (Go.binOp .eql 23 (.agg #[.int .u8 x.k, .int .i64 x.n, .int .i64 x.u, .string x.t]) (.agg #[.int .u8 y.k, .int .i64 y.n, .int .i64 y.u, .string y.t])).run Try.prog w = .ok (.bool b) w := by
  rw [← h]; exact eql_any x.k x.n x.u x.t y.k y.n y.u y.t w

end Go.Proofs.Ytnifpphimodonaa
