/-
  Rows of values in memory, as lists (stage 6's: stage 5's WBase, and of what it leans on what is not of texts).
-/
import Derived.Test.YtjjhmfpdbjflmaaChecked
import Derived.WalkKit
import Derived.WalkSpells
import Derived.WalkLawsBesides
import Derived.WalkSmall
import Derived.Lib.Hide
import Derived.Lib.SmallJoins
import Derived.Maps.AppendAt
import Derived.Deep.LoopGhost
import Derived.Deep.RegionHeld3
import Derived.Deep.DrawnRows
import Derived.OrdersHeld
import Derived.BigQuiet
import Derived.Deep.QuietTactic
namespace Go.Proofs.Ytjjhmfpdbjflmaa
open Go.RowKit

theorem below_tr {w w1 w2 : World} (h : Below w.heap.size w w1) (h2 : Below w1.heap.size w1 w2) : Below w.heap.size w w2 := h.trans (h2.mono h.size)
theorem Below.allocs (w : World) (o : Obj) : Below w.heap.size w (w.alloc o) := (Below.refl _ _).alloc (Nat.le_refl _) _

/-- A number of 64 bits. -/
def I64 (v : Int) : Prop := -9223372036854775808 ≤ v ∧ v ≤ 9223372036854775807
theorem i64_0 : I64 0 := by unfold I64; omega
theorem i64_1 : I64 1 := by unfold I64; omega

/-- An api.Value lies in block g. -/
def Boxed (W : World) (g : Nat) (k n hi : Int) (t : ByteArray) : Prop :=
  W.cell? ⟨g, 0, none⟩ = some (.int .u8 k) ∧ W.cell? ⟨g, 1, none⟩ = some (.int .i64 n) ∧ W.cell? ⟨g, 2, none⟩ = some (.int .i64 hi) ∧ W.cell? ⟨g, 3, none⟩ = some (.string t) ∧ g < W.heap.size

theorem Boxed.new (w : World) (k n hi : Int) (t : ByteArray) (ty : TypeId) : Boxed (w.alloc (.cells #[.int .u8 k, .int .i64 n, .int .i64 hi, .string t] ty)) w.heap.size k n hi t := by
  refine ⟨?_, ?_, ?_, ?_, by simp⟩ <;> go_simp

theorem Boxed.below {W W' : World} {g : Nat} {k n hi : Int} {t : ByteArray} (h : Boxed W g k n hi t) (hb : Below W.heap.size W W') : Boxed W' g k n hi t := by
  obtain ⟨h0, h1, h2, h3, h4⟩ := h
  exact ⟨by rw [hb.cell h4]; exact h0, by rw [hb.cell h4]; exact h1, by rw [hb.cell h4]; exact h2, by rw [hb.cell h4]; exact h3, Nat.lt_of_lt_of_le h4 hb.size⟩

theorem below_drw (w : World) : Below w.heap.size w w.drew := (Below.refl _ _).drew
theorem drewN_below (w : World) (n : Nat) : Below w.heap.size w (w.drewN n) := ⟨rfl, rfl, rfl, Nat.le_refl _, fun _ _ => rfl⟩

/-- An api.Value. -/
structure Val where
  k : Int
  n : Int
  u : Int
  t : ByteArray

def Val.zero : Val := ⟨0, 0, 0, ⟨#[]⟩⟩
instance : Inhabited Val := ⟨Val.zero⟩

structure Val.wf (v : Val) : Prop where
  k0 : 0 ≤ v.k
  k1 : v.k ≤ 255
  n : I64 v.n
  u : I64 v.u
  t : v.t.size ≤ 140737488351232

/-- A block of four cells that may be written. -/
def Soft (W : World) (g : Nat) : Prop :=
  W.frozen? ⟨g, 0, none⟩ = false ∧ W.frozen? ⟨g, 1, none⟩ = false ∧ W.frozen? ⟨g, 2, none⟩ = false ∧ W.frozen? ⟨g, 3, none⟩ = false ∧ g < W.heap.size

theorem Soft.new (w : World) (k n hi : Int) (t : ByteArray) (ty : TypeId) : Soft (w.alloc (.cells #[.int .u8 k, .int .i64 n, .int .i64 hi, .string t] ty)) w.heap.size := by
  refine ⟨?_, ?_, ?_, ?_, by simp⟩ <;> go_simp

theorem Soft.below {W W' : World} {g : Nat} (h : Soft W g) (hb : Below W.heap.size W W') : Soft W' g := by
  obtain ⟨h0, h1, h2, h3, h4⟩ := h
  exact ⟨by rw [hb.frozen h4]; exact h0, by rw [hb.frozen h4]; exact h1, by rw [hb.frozen h4]; exact h2, by rw [hb.frozen h4]; exact h3, Nat.lt_of_lt_of_le h4 hb.size⟩

/-- A value is written into block g. -/
def put4 (W : World) (g : Nat) (k n hi : Int) (t : ByteArray) : World :=
  (((W.setCell ⟨g, 0, none⟩ (.int .u8 k)).setCell ⟨g, 1, none⟩ (.int .i64 n)).setCell ⟨g, 2, none⟩ (.int .i64 hi)).setCell ⟨g, 3, none⟩ (.string t)

theorem below_put4 {B : Nat} {a W : World} (h : Below B a W) {g : Nat} (hg : B ≤ g) (k n hi : Int) (t : ByteArray) : Below B a (put4 W g k n hi t) :=
  (((h.setCell (by exact hg) _).setCell (by exact hg) _).setCell (by exact hg) _).setCell (by exact hg) _

theorem size_put4 (W : World) (g : Nat) (k n hi : Int) (t : ByteArray) : (put4 W g k n hi t).heap.size = W.heap.size := by simp [put4, World.setCell]

theorem boxed_put4 {W : World} {g : Nat} {k0 n0 u0 : Int} {t0 : ByteArray} (h : Boxed W g k0 n0 u0 t0) (k n hi : Int) (t : ByteArray) : Boxed (put4 W g k n hi t) g k n hi t := by
  obtain ⟨h0, h1, h2, h3, h4⟩ := h
  refine ⟨?_, ?_, ?_, ?_, by rw [size_put4]; exact h4⟩ <;> (unfold put4; go_simp)

/-- A value lies in block b from cell o on. -/
def AtV (W : World) (b o : Nat) (v : Val) : Prop :=
  W.cell? ⟨b, o, none⟩ = some (.int .u8 v.k) ∧ W.cell? ⟨b, o + 1, none⟩ = some (.int .i64 v.n) ∧ W.cell? ⟨b, o + 2, none⟩ = some (.int .i64 v.u) ∧ W.cell? ⟨b, o + 3, none⟩ = some (.string v.t) ∧ b < W.heap.size

theorem AtV.below {W W' : World} {b o : Nat} {v : Val} (h : AtV W b o v) (hb : Below W.heap.size W W') : AtV W' b o v := by
  obtain ⟨h0, h1, h2, h3, h7⟩ := h
  exact ⟨by rw [hb.cell h7]; exact h0, by rw [hb.cell h7]; exact h1, by rw [hb.cell h7]; exact h2, by rw [hb.cell h7]; exact h3, Nat.lt_of_lt_of_le h7 hb.size⟩

/-- The values l lie in block b from cell o on, one behind the other. -/
def Lst (W : World) (b o : Nat) (l : List Val) : Prop := ∀ i x, l[i]? = some x → AtV W b (o + i * 4) x

theorem Lst.below {W W' : World} {b o : Nat} {l : List Val} (h : Lst W b o l) (hb : Below W.heap.size W W') : Lst W' b o l := fun i x hx => (h i x hx).below hb

/-- A slice of the values l. -/
structure SlL (W : World) (a : Option Addr) (c : Nat) (l : List Val) : Prop where
  lc : l.length ≤ c
  cm : c ≤ maxLen
  at' : l ≠ [] → ∃ b o, a = some ⟨b, o, none⟩ ∧ Lst W b o l
  wf : ∀ x ∈ l, x.wf

theorem SlL.below {W W' : World} {a : Option Addr} {c : Nat} {l : List Val} (h : SlL W a c l) (hb : Below W.heap.size W W') : SlL W' a c l :=
  ⟨h.lc, h.cm, fun hl => by obtain ⟨b, o, e, hx⟩ := h.at' hl; exact ⟨b, o, e, hx.below hb⟩, h.wf⟩

theorem SlL.nil (W : World) (a : Option Addr) (c : Nat) (hc : c ≤ maxLen) : SlL W a c [] := ⟨Nat.zero_le _, hc, fun h => absurd rfl h, fun _ h => absurd h (List.not_mem_nil)⟩

theorem get_wf {l : List Val} (h : ∀ x ∈ l, x.wf) {i : Nat} {x : Val} (hx : l[i]? = some x) : x.wf := h x (List.mem_of_getElem? hx)

theorem get_is {l : List Val} {i : Nat} (hi : i < l.length) : ∃ x, l[i]? = some x := ⟨l[i], by simp [hi]⟩

/-- Are two values the same? -/
def eqB (x y : Val) : Bool := decide (x.k = y.k) && (decide (x.n = y.n) && (decide (x.u = y.u) && decide (x.t.toList = y.t.toList)))

theorem toList_inj {a b : ByteArray} (h : a.toList = b.toList) : a = b := by
  rw [ByteArray.toList_eq, ByteArray.toList_eq] at h
  obtain ⟨⟨a⟩⟩ := a
  obtain ⟨⟨b⟩⟩ := b
  simpa using h

theorem eqB_iff {x y : Val} : eqB x y = true ↔ x = y := by
  obtain ⟨k, n, u, t⟩ := x
  obtain ⟨k', n', u', t'⟩ := y
  simp only [eqB, Bool.and_eq_true, decide_eq_true_eq, Val.mk.injEq]
  exact ⟨fun ⟨a, b, c, d⟩ => ⟨a, b, c, toList_inj d⟩, fun ⟨a, b, c, d⟩ => ⟨a, b, c, by rw [d]⟩⟩

instance : DecidableEq Val := fun x y => if h : eqB x y = true then isTrue (eqB_iff.1 h) else isFalse fun e => h (eqB_iff.2 e)

theorem eqB_dec (x y : Val) : eqB x y = decide (x = y) := by
  rw [Bool.eq_iff_iff, eqB_iff, decide_eq_true_eq]

/-! ### A value's cells, one behind the other -/

def encV (v : Val) : List Value := [.int .u8 v.k, .int .i64 v.n, .int .i64 v.u, .string v.t]

theorem encV_one (x : Val) : ∀ v ∈ encV x, v.oneCell' = true := by
  intro v hv
  simp only [encV, List.mem_cons, List.not_mem_nil, or_false] at hv
  rcases hv with rfl | rfl | rfl | rfl <;> rfl

theorem encV_get {W : World} {b o : Nat} {v : Val} (h : AtV W b o v) {c : Nat} {u : Value} (hu : (encV v)[c]? = some u) : W.cell? ⟨b, o + c, none⟩ = some u := by
  obtain ⟨h0, h1, h2, h3, _⟩ := h
  match c, hu with
  | 0, hu => simp [encV] at hu; subst hu; exact h0
  | 1, hu => simp [encV] at hu; subst hu; exact h1
  | 2, hu => simp [encV] at hu; subst hu; exact h2
  | 3, hu => simp [encV] at hu; subst hu; exact h3
  | c + 4, hu => simp [encV] at hu

theorem atV_of {W : World} {b o : Nat} {v : Val} (h : ∀ c u, (encV v)[c]? = some u → W.cell? ⟨b, o + c, none⟩ = some u) (hb : b < W.heap.size) : AtV W b o v :=
  ⟨h 0 _ rfl, h 1 _ rfl, h 2 _ rfl, h 3 _ rfl, hb⟩

def flatL (l : List Val) : List Value := l.flatMap encV

theorem flatL_app (l m : List Val) : flatL (l ++ m) = flatL l ++ flatL m := by simp [flatL]
theorem flatL_len : ∀ l : List Val, (flatL l).length = l.length * 4
  | [] => rfl
  | x :: l => by
    have := flatL_len l
    simp only [flatL, List.flatMap_cons, List.length_append, List.length_cons] at this ⊢
    rw [this]
    simp [encV]
    omega
theorem flatL_one (l : List Val) : ∀ u ∈ flatL l, u.oneCell' = true := by
  intro u hu
  simp only [flatL, List.mem_flatMap] at hu
  obtain ⟨x, _, h⟩ := hu
  exact encV_one _ u h
theorem flatL_get : ∀ (l : List Val) (i c : Nat) (x : Val), l[i]? = some x → c < 4 → (flatL l)[i * 4 + c]? = (encV x)[c]?
  | [], i, c, x, h, _ => by simp at h
  | y :: l, 0, c, x, h, hc => by
    simp at h
    subst h
    show (encV y ++ flatL l)[0 * 4 + c]? = _
    rw [List.getElem?_append_left (by simp [encV]; omega)]
    congr 1
    omega
  | y :: l, i + 1, c, x, h, hc => by
    show (encV y ++ flatL l)[(i + 1) * 4 + c]? = _
    rw [List.getElem?_append_right (by simp [encV]; omega)]
    have := flatL_get l i c x (by simpa using h) hc
    rw [show (i + 1) * 4 + c - (encV y).length = i * 4 + c by simp [encV]; omega, this]

theorem some_lt {W : World} {k : Nat} {o : Obj} (h : W.heap[k]? = some o) : k < W.heap.size := (Array.getElem?_eq_some_iff.1 h).1

theorem grown_of_below {W W' : World} (h : Below W.heap.size W W') : W.grownBy W' none := ⟨h.os, h.tape, h.output, h.size, fun k hk _ => h.block k hk⟩

theorem info_parts {t : TypeId} {z : Value} {s b : Nat} (h : (Try.prog.info? t).map (fun i => (i.zero, i.size, i.bytes)) = some (some z, s, b)) : ∃ i, Try.prog.info? t = some i ∧ i.zero = some z ∧ i.size = s ∧ i.bytes = b := by
  cases hi : Try.prog.info? t with
  | none => rw [hi] at h; cases h
  | some i =>
    rw [hi] at h
    simp only [Option.map_some, Option.some.injEq, Prod.mk.injEq] at h
    exact ⟨i, rfl, h.1, h.2.1, h.2.2⟩

theorem append_stepW {ops : Array Oper} {rest : List Oper} {o : Oper} {a : Act} {w : World} {Q : Exit → Act → World → Prop} (hgd : o.guard = none) (s x : Operand) (t : TypeId)
    (ho : o.op = .call { callee := .builtin .append, args := #[s, x], argTypes := #[t, t] }) (v xv v' : Value) (w' : World) (hs : a.eval s = v) (hx : a.eval x = xv)
    (hrun : (Builtin.append_ #[t, t] o.type #[v, xv]).run Try.prog w = .ok v' w') (h : wpList Try.prog ops Q rest (a.put o.dst v') w') : wpList Try.prog ops Q (o :: rest) a w :=
  wpList_plain hgd fun _ hK => by
    unfold Oper.wp execOp
    simp only [ho, resolve, invoke, builtin, Sem.run_bind, Sem.run_pure, Result.andThen_ok, List.map_toArray, List.map_cons, List.map_nil, hs, hx, hrun]
    exact hK _ _ h

end Go.Proofs.Ytjjhmfpdbjflmaa
