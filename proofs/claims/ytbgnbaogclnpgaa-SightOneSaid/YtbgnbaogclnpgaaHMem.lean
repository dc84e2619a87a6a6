/-
  Maps of numbers as functions; rows of numbers, and of values, of the call's own (stage 11).
-/
import Derived.Test.YtbgnbaogclnpgaaYBase
import Derived.Maps.RangeWalk
import Derived.Maps.OwnSet
import Derived.Maps.Ext
namespace Go.Proofs.Ytbgnbaogclnpgaa
open Go.RowKit
set_option linter.unusedVariables false

def ptrV (g : Nat) : Value := .pointer (some ⟨g, 0, none⟩)
theorem wrOk {n : Int} (h : -9223372036854775808 ≤ n ∧ n ≤ 9223372036854775807) : wrap64 n = n := by first | exact wrap64_in n h | (unfold wrap64; omega)

instance (x : Int) : Decidable (I64 x) := by unfold I64; infer_instance

/-! ### Maps -/

/-- How an element reads: as itself. -/
def KR (v : Value) : Option (DataW Value × List MemPlace) := some (.held v, [])
theorem lawI : Go.Maps.Keyed Try.prog 3 := Go.Maps.int_keyed Try.underlying3
theorem wfI {x : Int} (h : I64 x) : (Lit.int .i64 x).wf = true := by unfold I64 at h; simp [Lit.wf, IntKind.min, IntKind.max, IntKind.signed, IntKind.bits, h.1, h.2]
theorem wfI' {x : Int} (h : (Lit.int .i64 x).wf = true) : I64 x := by unfold I64; simpa [Lit.wf, IntKind.min, IntKind.max, IntKind.signed, IntKind.bits] using h
theorem keyI {x : Int} (h : I64 x) : keyOf Try.prog 3 (.int .i64 x) = some (.int .i64 x) := Go.Maps.keyOf_int_mk Try.underlying3 (wfI h)

/-- The datum D says what f says. -/
def Says (D : DataW Value) (f : Int → Option Value) : Prop := ∀ x, I64 x → Maps.has D (.int .i64 x) = (f x).isSome ∧ ∀ v z, f x = some v → D.atKey (.int .i64 x) z = .held v

/-- Block b is a map by numbers, of at most n entries: what stands at x is f x. -/
def MapF (W : World) (b n : Nat) (f : Int → Option Value) : Prop := ∃ D, W.ownsMap Try.prog 3 KR b n D ∧ Says D f

section
variable {W W' : World} {b n : Nat} {f g : Int → Option Value}

theorem MapF.lt (h : MapF W b n f) : b < W.heap.size := by obtain ⟨D, h1, _⟩ := h; exact h1.lt
theorem MapF.mono (h : MapF W b n f) {n' : Nat} (hn : n ≤ n') : MapF W b n' f := by obtain ⟨D, h1, h2⟩ := h; exact ⟨D, h1.mono hn, h2⟩
theorem MapF.congr (h : MapF W b n f) (hfg : ∀ x, I64 x → g x = f x) : MapF W b n g := by
  obtain ⟨D, h1, h2⟩ := h
  exact ⟨D, h1, fun x hx => by rw [hfg x hx]; exact h2 x hx⟩
theorem MapF.of_block (h : MapF W b n f) (hb : W'.heap[b]? = W.heap[b]?) : MapF W' b n f := by
  obtain ⟨D, ⟨es, clock, h1, r⟩, h2⟩ := h
  exact ⟨D, ⟨es, clock, hb.trans h1, r⟩, h2⟩
theorem MapF.stay {G : Nat → Prop} (h : MapF W b n f) (hs : Stay G W W') (hG : G b) : MapF W' b n f := h.of_block (hs.block b h.lt hG)
theorem MapF.below (h : MapF W b n f) (hb : Below W.heap.size W W') : MapF W' b n f := h.of_block (hb.block b h.lt)

theorem MapF.new (W : World) : MapF (W.alloc (.map #[] 0)) W.heap.size 0 (fun _ => none) :=
  ⟨.map [], World.ownsMap_made W Try.prog _ _, fun x _ => ⟨rfl, fun v z h => by cases h⟩⟩

/-- m[x]: what stands there, or what is none. -/
theorem MapF.look (h : MapF W b n f) {t e : TypeId} (ht : Try.prog.underlying t = some (.map 3 e)) {z : Value} (hz : (zeroValue e).run Try.prog W = .ok z W) {x : Int} (hx : I64 x) :
    (Instr.lookup t (.map (some b)) (.int .i64 x) false).run Try.prog W = .ok ((f x).getD z) W := by
  obtain ⟨D, h1, h2⟩ := h
  obtain ⟨v, ps, hrun, hv⟩ := h1.lookup (zd := .held z) (zp := []) lawI ht hz rfl (keyI hx)
  have hv' : DataW.held v = D.atKey (.int .i64 x) (.held z) := by
    unfold KR at hv
    simp only [Option.some.injEq, Prod.mk.injEq] at hv
    exact hv.1
  obtain ⟨h3, h4⟩ := h2 x hx
  cases hf : f x with
  | none =>
    rw [hf] at h3
    rw [Maps.atKey_of_not_has (by rw [h3]; rfl)] at hv'
    have hv' := DataW.held.inj hv'
    rw [hrun, hv']
    rfl
  | some u =>
    rw [h4 u _ hf] at hv'
    have hv' := DataW.held.inj hv'
    rw [hrun, hv']
    rfl

/-- f, but at x. -/
def updM (f : Int → Option Value) (x : Int) (v : Option Value) : Int → Option Value := fun y => if y = x then v else f y

theorem litI_ne {x y : Int} (h : y ≠ x) : Lit.int .i64 y ≠ Lit.int .i64 x := fun e => h (by injection e)

/-- m[x] = v. -/
theorem MapF.put (h : MapF W b n f) {t e : TypeId} (ht : Try.prog.underlying t = some (.map 3 e)) (hn : n < maxLen) {x : Int} (hx : I64 x) (v : Value) :
    ∃ W', (Instr.mapUpdate t (.map (some b)) (.int .i64 x) v).run Try.prog W = .ok () W' ∧ MapF W' b (n + 1) (updM f x (some v)) ∧ W.grownBy W' (some b) := by
  obtain ⟨D, h1, h2⟩ := h
  obtain ⟨W', hrun, r1, r2⟩ := h1.update lawI ht hn (keyI hx) (val := v) (d := .held v) (ps := []) rfl
  have hm := h1.isMap
  refine ⟨W', hrun, ⟨_, r1, fun y hy => ?_⟩, r2⟩
  unfold updM
  by_cases hyx : y = x
  · subst hyx
    rw [if_pos rfl]
    have hk : WideAt.IsKeyLit (.int .i64 y) := lawI.key (keyI hy)
    exact ⟨Maps.has_put_same hm hk _, fun u z hu => by rw [Maps.atKey_put_same hm hk]; rw [Option.some.inj hu]⟩
  · rw [if_neg hyx]
    obtain ⟨h3, h4⟩ := h2 y hy
    exact ⟨by rw [Maps.has_put_other (litI_ne hyx)]; exact h3, fun u z hu => by rw [Maps.atKey_put_other (litI_ne hyx)]; exact h4 u z hu⟩

/-- delete(m, x). -/
theorem MapF.del (h : MapF W b n f) {t e : TypeId} (ht : Try.prog.underlying t = some (.map 3 e)) {x : Int} (hx : I64 x) (ty : TypeId) :
    ∃ W', (Builtin.delete_ #[t, 3] ty #[.map (some b), .int .i64 x]).run Try.prog W = .ok (.tuple #[]) W' ∧ MapF W' b n (updM f x none) ∧ W.grownBy W' (some b) := by
  obtain ⟨D, h1, h2⟩ := h
  obtain ⟨W', hrun, r1, r2⟩ := h1.drop lawI ht (keyI hx) ty
  refine ⟨W', hrun, ⟨_, r1, fun y hy => ?_⟩, r2.grown⟩
  unfold updM
  by_cases hyx : y = x
  · subst hyx
    rw [if_pos rfl]
    exact ⟨Maps.has_del_same, fun u z hu => by cases hu⟩
  · rw [if_neg hyx]
    obtain ⟨h3, h4⟩ := h2 y hy
    exact ⟨by rw [Maps.has_del_other (litI_ne hyx)]; exact h3, fun u z hu => by rw [Maps.atKey_del_other (litI_ne hyx)]; exact h4 u z hu⟩

/-- A key of a map by numbers is a number. -/
theorem own_keys {D : DataW Value} (h : W.ownsMap Try.prog 3 KR b n D) : ∃ es, D = .map es ∧ es.Pairwise (fun p q => p.1 ≠ q.1) ∧ ∀ p ∈ es, ∃ x, p.1 = .int .i64 x ∧ I64 x := by
  obtain ⟨es0, clock, hb, F, hs, hD⟩ := h
  obtain ⟨es, he, hp, _⟩ := World.ownsMap.entries ⟨es0, clock, hb, F, hs, hD⟩ lawI
  refine ⟨es, he, hp, fun p hpm => ?_⟩
  have hk := Go.Maps.fit_keys F
  have : p ∈ (es0.toList.map (Go.WideElems.rg Try.prog 3 KR)).foldr DataW.insert [] := by
    rw [hD] at he
    injection he with he
    rw [he]; exact hpm
  obtain ⟨v, hv⟩ := hk p (mem_sorted.1 this)
  obtain ⟨x, _, e2, e3⟩ := Go.Maps.keyOf_int_inv Try.underlying3 hv
  exact ⟨x, e2, wfI' e3⟩

/-- len(m). -/
theorem MapF.len (h : MapF W b n f) {t e : TypeId} (ht : Try.prog.underlying t = some (.map 3 e)) (ty : TypeId) :
    ∃ k : Nat, (Builtin.len_ #[t] ty #[.map (some b)]).run Try.prog W = .ok (.int .i64 k) W ∧ k ≤ n ∧ (k = 0 ↔ ∀ x, I64 x → f x = none) := by
  obtain ⟨D, h1, h2⟩ := h
  refine ⟨Maps.size D, h1.len ht ty, h1.size_le, ?_⟩
  obtain ⟨es, rfl, hp, hk⟩ := own_keys h1
  constructor
  · intro h0 x hx
    have he : es = [] := List.eq_nil_of_length_eq_zero h0
    have := (h2 x hx).1
    rw [he] at this
    cases hf : f x with
    | none => rfl
    | some u => rw [hf] at this; cases this
  · intro h0
    cases es with
    | nil => rfl
    | cons p es =>
      obtain ⟨x, e1, e2⟩ := hk p (List.mem_cons_self ..)
      have := (h2 x e2).1
      rw [h0 x e2, Maps.has_eq, List.any_cons, e1] at this
      have hs : (Lit.int .i64 x).sameKey (.int .i64 x) = true := WideAt.sameKey_self (lawI.key (keyI e2))
      rw [hs] at this
      cases this
end

/-! ### A range over a map -/

/-- Block r goes over the map in block b: left x: the entry at x is still to come; cnt: how many are. -/
def RangeF (W : World) (b r n : Nat) (f : Int → Option Value) (left : Int → Bool) (cnt : Nat) : Prop :=
  ∃ D left', W.ranges Try.prog 3 KR b r n D left' cnt ∧ Says D f ∧ ∀ x, left x = left' (.int .i64 x)

section
variable {W W' : World} {b r n cnt : Nat} {f : Int → Option Value} {left : Int → Bool}

theorem RangeF.map (h : RangeF W b r n f left cnt) : MapF W b n f := by
  obtain ⟨D, l, h1, h2, _⟩ := h
  exact ⟨D, h1.owns, h2⟩
theorem RangeF.lt (h : RangeF W b r n f left cnt) : r < W.heap.size := by obtain ⟨D, l, h1, _⟩ := h; exact h1.lt
theorem RangeF.ne (h : RangeF W b r n f left cnt) : r ≠ b := by obtain ⟨D, l, h1, _⟩ := h; exact h1.ne
theorem RangeF.kept (h : RangeF W b r n f left cnt) (hl : W.heap.size ≤ W'.heap.size) (hb : W'.heap[b]? = W.heap[b]?) (hr : W'.heap[r]? = W.heap[r]?) : RangeF W' b r n f left cnt := by
  obtain ⟨D, l, ⟨es, clock, since, seen, c0, h0, h1, h2, h3, h5, h6⟩, h4⟩ := h
  exact ⟨D, l, ⟨es, clock, since, seen, c0, hb.trans h0, h1, h2, h3, hr.trans h5, h6⟩, h4⟩
theorem RangeF.below (h : RangeF W b r n f left cnt) (hb : Below W.heap.size W W') : RangeF W' b r n f left cnt := h.kept hb.size (hb.block b h.map.lt) (hb.block r h.lt)
end

section
variable {w : World} {ops : Array Oper} {rest : List Oper} {o : Oper} {a : Act} {Q : Exit → Act → World → Prop} {b r n cnt : Nat} {f : Int → Option Value} {left : Int → Bool}

theorem range_f (hg : o.guard = none) (m : Operand) (t : TypeId) (hop : o.op = Op.range t m) (e : TypeId) (ht : Try.prog.underlying t = some (.map 3 e)) (hm : a.eval m = .map (some b)) (h : MapF w b n f)
    (hK : ∀ w' cnt, cnt ≤ n → RangeF w' b w.heap.size n f (fun x => decide (I64 x) && (f x).isSome) cnt → Below w.heap.size w w' → w'.heap.size = w.heap.size + 1 → wpList Try.prog ops Q rest (a.put o.dst (.pointer (some ⟨w.heap.size, 0, none⟩))) w') :
    wpList Try.prog ops Q (o :: rest) a w := by
  obtain ⟨D, h1, h2⟩ := h
  refine wpList_range_own w hg m t hop 3 e lawI ht KR b n D hm h1 fun w' r1 r2 r3 => ?_
  refine hK w' _ h1.size_le ⟨D, _, r1, h2, fun x => ?_⟩ ⟨r2.os, r2.tape, r2.output, r2.size, fun k hk => r2.block k hk (by simp)⟩ r3
  by_cases hx : I64 x
  · show (decide (I64 x) && (f x).isSome) = _
    rw [(h2 x hx).1, decide_eq_true hx, Bool.true_and]
  · show (decide (I64 x) && (f x).isSome) = _
    rw [decide_eq_false hx, Bool.false_and]
    symm
    obtain ⟨es, rfl, hp, hk⟩ := own_keys h1
    rw [Maps.has_eq, List.any_eq_false]
    intro p hpm hs
    obtain ⟨y, e1, e2⟩ := hk p hpm
    have := WideAt.sameKey_eq hs
    rw [e1] at this
    injection this with _ this
    subst this
    exact hx e2

theorem next_f (hg : o.guard = none) (it : Operand) (hop : o.op = Op.next it false) (hit : a.eval it = .pointer (some ⟨r, 0, none⟩)) (h : RangeF w b r n f left cnt)
    (hDone : (∀ x, I64 x → left x = false) → wpList Try.prog ops Q rest (a.put o.dst (.tuple #[.bool false])) w)
    (hMore : ∀ (x : Int) (v : Value) (w' : World) (cnt' : Nat), I64 x → left x = true → f x = some v → RangeF w' b r n f (fun z => left z && !decide (z = x)) cnt' → cnt' < cnt → Touch (fun k => k = r) w w' → w'.heap.size = w.heap.size →
      (Instr.entry (.pointer (some ⟨r, 0, none⟩))).run Try.prog w' = .ok (.tuple #[.int .i64 x, v]) w' → wpList Try.prog ops Q rest (a.put o.dst (.tuple #[.bool true, .int .i64 x, v])) w') :
    wpList Try.prog ops Q (o :: rest) a w := by
  obtain ⟨D, l, h1, h2, h3⟩ := h
  refine wpList_next_ranges w hg it hop 3 lawI KR (Value.int .i64) (fun v : Value => v) (fun key kl hkey => by obtain ⟨x, rfl, _⟩ := Maps.keyOf_int_inv Try.underlying3 hkey; exact ⟨x, rfl⟩) (fun v y hv => ⟨v, rfl⟩)
    b r n D l cnt hit h1 (fun _ hl => hDone (fun x _ => by rw [h3]; exact hl _)) (fun x c kl y w' cnt' hkey hlk hv hat hrg hlt hgr hsz hen => ?_)
  obtain ⟨x', ex, rfl, hwx⟩ := Maps.keyOf_int_inv Try.underlying3 hkey
  injection ex with _ ex
  subst ex
  have hx := wfI' hwx
  have hf : f x = some c := by
    obtain ⟨h4, h5⟩ := h2 x hx
    cases hfx : f x with
    | none =>
      rw [hfx] at h4
      have e1 := Maps.atKey_of_not_has (z := DataW.nil) (by rw [h4]; rfl)
      rw [hat] at e1
      unfold KR at hv
      simp only [Option.some.injEq] at hv
      rw [← hv] at e1
      cases e1
    | some u =>
      have e1 := h5 u DataW.nil hfx
      rw [hat] at e1
      unfold KR at hv
      simp only [Option.some.injEq] at hv
      rw [← hv] at e1
      rw [DataW.held.inj e1]
  refine hMore x c w' cnt' hx (by rw [h3]; exact hlk) hf ⟨D, _, hrg, h2, fun z => ?_⟩ hlt (Touch.grown hgr (fun k hk => (Option.some.inj hk).symm)) hsz hen
  show (left z && !decide (z = x)) = (l (.int .i64 z) && !(Go.Lit.int .i64 z).sameKey (.int .i64 x))
  have e : decide (z = x) = (Go.Lit.int .i64 z).sameKey (.int .i64 x) := by
    by_cases hzx : z = x
    · subst hzx
      rw [decide_eq_true rfl]
      exact (WideAt.sameKey_self (lawI.key (keyI hx))).symm
    · rw [decide_eq_false hzx]
      exact (Maps.sameKey_ne (litI_ne hzx)).symm
  rw [e, h3 z]
end

/-! ### Rows of numbers, and of values -/

def numR (f : Nat → Int) (j : Nat) : List Value := [.int .i64 (f j)]
def RowI (W : World) (s : Value) (l : List Int) : Prop := RowF 3 1 W s l.length (numR fun j => l.getD j 0)
def RowV (W : World) (s : Value) (l : List Val) : Prop := RowF 90 4 W s l.length (fun j => encV (l.getD j Val.zero))

end Go.Proofs.Ytbgnbaogclnpgaa

namespace Go.Proofs.Ytbgnbaogclnpgaa
open Go.RowKit
set_option linter.unusedVariables false

/-- A version. -/
structure Tup where
  no : Int
  id : Int
  mn : Int
  cm : Int
  mx : Int
  cx : Int
  row : List Val
deriving DecidableEq

structure Tup.wf (t : Tup) : Prop where
  no : I64 t.no
  id : I64 t.id
  mn : I64 t.mn
  cm : I64 t.cm
  mx : I64 t.mx
  cx : I64 t.cx
  row : ∀ x ∈ t.row, x.wf
  len : t.row.length ≤ 1000000

def tupC (t : Tup) (s : Value) : List Value := [.int .i64 t.no, .int .i64 t.id, .int .i64 t.mn, .int .i64 t.cm, .int .i64 t.mx, .int .i64 t.cx, s]
def tupV (t : Tup) (s : Value) : Value := .agg #[.int .i64 t.no, .int .i64 t.id, .int .i64 t.mn, .int .i64 t.cm, .int .i64 t.mx, .int .i64 t.cx, s]

/-- What is kept of a table. -/
structure Tbl where
  last : Int
  ix : Int → List Nat

/-- A heap, as it lies. -/
structure Hp where
  n : Nat
  tup : Nat → Option Tup
  fn : Nat
  fr : Nat → Nat
  tb : Int → Option Tbl

/-- What a block is for. -/
inductive Lab
  | no | hp | sl | fr | tm | rw
  | tu (i : Nat)
  | tb (x : Int)
  | ix (x : Int)
  | ls (x y : Int)
deriving DecidableEq

/-- Of the slots; of the tables. -/
def Lab.slotB : Lab → Bool
  | .sl => true | .rw => true | .tu _ => true | _ => false
def Lab.tabB : Lab → Bool
  | .tm => true | .tb _ => true | .ix _ => true | .ls _ _ => true | _ => false
def Lab.ofB (x : Int) : Lab → Bool
  | .tb y => decide (y = x) | .ix y => decide (y = x) | .ls y _ => decide (y = x) | _ => false

theorem ofB_tab {x : Int} {l : Lab} (h : l.ofB x = true) : l.tabB = true := by cases l <;> simp [Lab.ofB, Lab.tabB] at h ⊢
theorem slot_no {l : Lab} (h : l.slotB = true) : l ≠ .no := by rintro rfl; cases h
theorem tab_no {l : Lab} (h : l.tabB = true) : l ≠ .no := by rintro rfl; cases h

/-- L' names what L names, and besides blocks from N on alone. -/
structure Ext (N : Nat) (L L' : Nat → Lab) : Prop where
  old : ∀ k, L k ≠ .no → L' k = L k
  new : ∀ k, L' k ≠ .no → L k ≠ .no ∨ N ≤ k

theorem Ext.refl (N : Nat) (L : Nat → Lab) : Ext N L L := ⟨fun _ _ => rfl, fun _ h => .inl h⟩
theorem Ext.trans {N : Nat} {L L1 L2 : Nat → Lab} (h : Ext N L L1) (h2 : Ext N L1 L2) : Ext N L L2 :=
  ⟨fun k hk => by rw [h2.old k (by rw [h.old k hk]; exact hk), h.old k hk], fun k hk => (h2.new k hk).elim (h.new k) .inr⟩
theorem Ext.mono {N N' : Nat} {L L' : Nat → Lab} (h : Ext N L L') (hN : N' ≤ N) : Ext N' L L' := ⟨h.old, fun k hk => (h.new k hk).imp id (fun h => by omega)⟩
theorem Ext.keep {N : Nat} {L L' : Nat → Lab} (h : Ext N L L') {k : Nat} {l : Lab} (hk : L k = l) (hl : l ≠ .no) : L' k = l := by rw [h.old k (by rw [hk]; exact hl), hk]

/-- L, but at g. -/
def setL (L : Nat → Lab) (g : Nat) (l : Lab) : Nat → Lab := fun k => if k = g then l else L k
theorem setL_same (L : Nat → Lab) (g : Nat) (l : Lab) : setL L g l g = l := by unfold setL; rw [if_pos rfl]
theorem setL_ne (L : Nat → Lab) {g k : Nat} (l : Lab) (h : k ≠ g) : setL L g l k = L k := by unfold setL; rw [if_neg h]
theorem Ext.set {N : Nat} {L : Nat → Lab} {g : Nat} (l : Lab) (hg : L g = .no ∨ L g = l) (hN : N ≤ g) : Ext N L (setL L g l) :=
  ⟨fun k hk => by
    by_cases e : k = g
    · subst e
      rw [setL_same]
      rcases hg with hg | hg
      · exact absurd hg hk
      · exact hg.symm
    · rw [setL_ne L l e], fun k hk => by
    by_cases e : k = g
    · exact .inr (by omega)
    · rw [setL_ne L l e] at hk; exact .inl hk⟩

/-- The blocks that are named. -/
def Fof (L : Nat → Lab) (k : Nat) : Prop := L k ≠ .no

/-! ### The parts -/

/-- A version in block g, in slot i. -/
def TupAt (W : World) (L : Nat → Lab) (g i : Nat) (t : Tup) : Prop :=
  L g = .tu i ∧ ∃ s, Lit W g 61 (tupC t s) ∧ RowV W s t.row ∧ ∀ k, s.ownBlock = some k → L k = .rw

def ptrO : Option Tup → Nat → Value
  | none, _ => .pointer none
  | some _, g => ptrV g

structure SlP (W : World) (L : Nat → Lab) (s : Value) (n : Nat) (tup : Nat → Option Tup) (tp : Nat → Nat) : Prop where
  row : RowF 91 1 W s n (fun i => [ptrO (tup i) (tp i)])
  own : ∀ k, s.ownBlock = some k → L k = .sl
  at' : ∀ i t, i < n → tup i = some t → TupAt W L (tp i) i t

structure FrP (W : World) (L : Nat → Lab) (s : Value) (n : Nat) (fr : Nat → Nat) : Prop where
  row : RowF 3 1 W s n (numR fun j => (fr j : Int))
  own : ∀ k, s.ownBlock = some k → L k = .fr

def ixF (T : Tbl) (lp : Int → Value) (y : Int) : Option Value := if T.ix y = [] then none else some (lp y)
def natI (l : List Nat) : List Int := l.map fun (k : Nat) => (k : Int)

/-- A table of number x in block g. -/
def TbAt (W : World) (L : Nat → Lab) (z g : Nat) (x : Int) (T : Tbl) : Prop :=
  L g = .tb x ∧ ∃ b n lp, Lit W g 123 [.int .i64 T.last, .map (some b)] ∧ L b = .ix x ∧ n ≤ z ∧ MapF W b n (ixF T lp) ∧
    ∀ y, T.ix y ≠ [] → I64 y ∧ (T.ix y).length ≤ z ∧ RowI W (lp y) (natI (T.ix y)) ∧ ∀ k, (lp y).ownBlock = some k → L k = .ls x y

def tbF (tb : Int → Option Tbl) (tp : Int → Nat) (x : Int) : Option Value := (tb x).map fun _ => ptrV (tp x)

def TsP (W : World) (L : Nat → Lab) (z : Nat) (m : Value) (tb : Int → Option Tbl) : Prop :=
  (m = .map none ∧ ∀ x, tb x = none) ∨ ∃ b n tp, m = .map (some b) ∧ L b = .tm ∧ n ≤ z ∧ MapF W b n (tbF tb tp) ∧ ∀ x T, tb x = some T → I64 x ∧ TbAt W L z (tp x) x T

/-- At block h lies the heap M, by at most z steps; L says what its blocks are for. -/
structure HpM (W : World) (h : Nat) (M : Hp) (z : Nat) (L : Nat → Lab) : Prop where
  lt : ∀ k, L k ≠ .no → k < W.heap.size
  hp : L h = .hp
  nz : M.n ≤ z
  fz : M.fn ≤ z
  ex : ∃ s f m tp, Lit W h 75 [s, f, m] ∧ SlP W L s M.n M.tup tp ∧ FrP W L f M.fn M.fr ∧ TsP W L z m M.tb

section
variable {W W' : World} {L L' : Nat → Lab} {G : Nat → Prop} {N : Nat}

theorem TupAt.stay {g i : Nat} {t : Tup} (h : TupAt W L g i t) (hs : Stay G W W') (hg : G g) (hG : ∀ k, L k = .rw → G k) : TupAt W' L g i t := by
  obtain ⟨h1, s, h2, h3, h4⟩ := h
  exact ⟨h1, s, h2.stay hs hg, h3.stay hs (fun k hk => hG k (h4 k hk)), h4⟩
theorem TupAt.ext {g i : Nat} {t : Tup} (h : TupAt W L g i t) (he : Ext N L L') : TupAt W L' g i t := by
  obtain ⟨h1, s, h2, h3, h4⟩ := h
  exact ⟨he.keep h1 (by simp), s, h2, h3, fun k hk => he.keep (h4 k hk) (by simp)⟩

theorem SlP.stay {s : Value} {n : Nat} {tup : Nat → Option Tup} {tp : Nat → Nat} (h : SlP W L s n tup tp) (hs : Stay G W W') (hG : ∀ k, (L k).slotB = true → G k) : SlP W' L s n tup tp :=
  ⟨h.row.stay hs (fun k hk => hG k (by rw [h.own k hk]; rfl)), h.own, fun i t hi ht => (h.at' i t hi ht).stay hs (hG _ (by rw [(h.at' i t hi ht).1]; rfl)) (fun k hk => hG k (by rw [hk]; rfl))⟩
theorem SlP.ext {s : Value} {n : Nat} {tup : Nat → Option Tup} {tp : Nat → Nat} (h : SlP W L s n tup tp) (he : Ext N L L') : SlP W L' s n tup tp :=
  ⟨h.row, fun k hk => he.keep (h.own k hk) (by simp), fun i t hi ht => (h.at' i t hi ht).ext he⟩

theorem FrP.stay {s : Value} {n : Nat} {fr : Nat → Nat} (h : FrP W L s n fr) (hs : Stay G W W') (hG : ∀ k, L k = .fr → G k) : FrP W' L s n fr := ⟨h.row.stay hs (fun k hk => hG k (h.own k hk)), h.own⟩
theorem FrP.ext {s : Value} {n : Nat} {fr : Nat → Nat} (h : FrP W L s n fr) (he : Ext N L L') : FrP W L' s n fr := ⟨h.row, fun k hk => he.keep (h.own k hk) (by simp)⟩

theorem TbAt.stay {z g : Nat} {x : Int} {T : Tbl} (h : TbAt W L z g x T) (hs : Stay G W W') (hG : ∀ k, (L k).ofB x = true → G k) : TbAt W' L z g x T := by
  obtain ⟨h1, b, n, lp, h2, h3, h4, h5, h6⟩ := h
  refine ⟨h1, b, n, lp, h2.stay hs (hG _ (by rw [h1]; simp [Lab.ofB])), h3, h4, h5.stay hs (hG _ (by rw [h3]; simp [Lab.ofB])), fun y hy => ?_⟩
  obtain ⟨q1, q2, q3, q4⟩ := h6 y hy
  exact ⟨q1, q2, q3.stay hs (fun k hk => hG k (by rw [q4 k hk]; simp [Lab.ofB])), q4⟩
theorem TbAt.ext {z g : Nat} {x : Int} {T : Tbl} (h : TbAt W L z g x T) (he : Ext N L L') : TbAt W L' z g x T := by
  obtain ⟨h1, b, n, lp, h2, h3, h4, h5, h6⟩ := h
  refine ⟨he.keep h1 (by simp), b, n, lp, h2, he.keep h3 (by simp), h4, h5, fun y hy => ?_⟩
  obtain ⟨q1, q2, q3, q4⟩ := h6 y hy
  exact ⟨q1, q2, q3, fun k hk => he.keep (q4 k hk) (by simp)⟩
theorem TbAt.more {z z' g : Nat} {x : Int} {T : Tbl} (h : TbAt W L z g x T) (hz : z ≤ z') : TbAt W L z' g x T := by
  obtain ⟨h1, b, n, lp, h2, h3, h4, h5, h6⟩ := h
  refine ⟨h1, b, n, lp, h2, h3, Nat.le_trans h4 hz, h5, fun y hy => ?_⟩
  obtain ⟨q1, q2, q3, q4⟩ := h6 y hy
  exact ⟨q1, Nat.le_trans q2 hz, q3, q4⟩

theorem TsP.stay {z : Nat} {m : Value} {tb : Int → Option Tbl} (h : TsP W L z m tb) (hs : Stay G W W') (hG : ∀ k, (L k).tabB = true → G k) : TsP W' L z m tb := by
  rcases h with h | ⟨b, n, tp, h1, h2, h3, h4, h5⟩
  · exact .inl h
  · exact .inr ⟨b, n, tp, h1, h2, h3, h4.stay hs (hG _ (by rw [h2]; rfl)), fun x T hx => ⟨(h5 x T hx).1, (h5 x T hx).2.stay hs (fun k hk => hG k (ofB_tab hk))⟩⟩
theorem TsP.ext {z : Nat} {m : Value} {tb : Int → Option Tbl} (h : TsP W L z m tb) (he : Ext N L L') : TsP W L' z m tb := by
  rcases h with h | ⟨b, n, tp, h1, h2, h3, h4, h5⟩
  · exact .inl h
  · exact .inr ⟨b, n, tp, h1, he.keep h2 (by simp), h3, h4, fun x T hx => ⟨(h5 x T hx).1, (h5 x T hx).2.ext he⟩⟩
theorem TsP.more {z z' : Nat} {m : Value} {tb : Int → Option Tbl} (h : TsP W L z m tb) (hz : z ≤ z') : TsP W L z' m tb := by
  rcases h with h | ⟨b, n, tp, h1, h2, h3, h4, h5⟩
  · exact .inl h
  · exact .inr ⟨b, n, tp, h1, h2, Nat.le_trans h3 hz, h4, fun x T hx => ⟨(h5 x T hx).1, (h5 x T hx).2.more hz⟩⟩

theorem HpM.stay {h : Nat} {M : Hp} {z : Nat} (H : HpM W h M z L) (hs : Stay (Fof L) W W') : HpM W' h M z L := by
  obtain ⟨s, f, m, tp, h1, h2, h3, h4⟩ := H.ex
  exact ⟨fun k hk => Nat.lt_of_lt_of_le (H.lt k hk) hs.size, H.hp, H.nz, H.fz, s, f, m, tp, h1.stay hs (by unfold Fof; rw [H.hp]; simp), h2.stay hs (fun k hk => slot_no hk), h3.stay hs (fun k hk => by unfold Fof; rw [hk]; simp), h4.stay hs (fun k hk => tab_no hk)⟩
theorem HpM.below {h : Nat} {M : Hp} {z : Nat} (H : HpM W h M z L) (hb : Below W.heap.size W W') : HpM W' h M z L := H.stay (Stay.of_below hb)
theorem HpM.more {h : Nat} {M : Hp} {z z' : Nat} (H : HpM W h M z L) (hz : z ≤ z') : HpM W h M z' L := by
  obtain ⟨s, f, m, tp, h1, h2, h3, h4⟩ := H.ex
  exact ⟨H.lt, H.hp, Nat.le_trans H.nz hz, Nat.le_trans H.fz hz, s, f, m, tp, h1, h2, h3, h4.more hz⟩
end

/-! ### Rows -/

section
variable {W W' : World}

theorem RowI.at {s : Value} {l : List Int} (h : RowI W s l) {j : Nat} (hj : j < l.length) : ∃ b c, s = .slice (some ⟨b, 0, none⟩) l.length c ∧ l.length ≤ c ∧ c ≤ maxLen ∧ b < W.heap.size ∧ (∀ i, i < l.length → W.cell? ⟨b, i, none⟩ = some (.int .i64 (l.getD i 0))) ∧ ∀ o, W.frozen? ⟨b, o, none⟩ = false := by
  obtain ⟨b, c, h1, h2, h3, h4, h5, h6⟩ := RowF.at h hj
  exact ⟨b, c, h1, h2, h3, h4, fun i hi => by have := h5 i hi 0 _ rfl; rwa [Nat.mul_one, Nat.add_zero] at this, h6⟩

theorem RowI.own {s : Value} {l : List Int} (h : RowI W s l) : W.ownsRow 0 3 1 s l.length (l.map (Value.int .i64)) := by
  obtain ⟨⟨xs, h1, h2⟩, h3⟩ := h
  have : xs = l.map (Value.int .i64) := by
    apply List.ext_getElem?
    intro i
    by_cases hi : i < l.length
    · have := h2 i hi 0 _ rfl
      rw [Nat.mul_one, Nat.add_zero] at this
      rw [this, List.getElem?_map, List.getElem?_eq_getElem hi]
      simp [hi]
    · rw [List.getElem?_eq_none (by rw [h1.1]; omega), List.getElem?_eq_none (by simp; omega)]
  rw [← this]
  exact h1

theorem RowI.of_own {s : Value} {base : Nat} {l : List Int} (h : W.ownsRow base 3 1 s l.length (l.map (Value.int .i64))) : RowI W s l := by
  refine ⟨⟨_, ⟨h.1, ?_⟩, fun j hj c v hv => ?_⟩, fun _ _ => rfl⟩
  · rcases h.2 with h0 | ⟨b, cap, cur, rfl, _, rest⟩
    · exact .inl h0
    · exact .inr ⟨b, cap, cur, rfl, Nat.zero_le _, rest⟩
  · have hc : c = 0 := by have := (List.getElem?_eq_some_iff.1 hv).1; simp [numR] at this; omega
    subst hc
    simp only [numR, List.getElem?_cons_zero, Option.some.injEq] at hv
    rw [Nat.mul_one, Nat.add_zero, List.getElem?_map, List.getElem?_eq_getElem hj, ← hv]
    simp [hj]

theorem own_ge {s : Value} {base n m : Nat} {e : TypeId} {xs : List Value} (h : W.ownsRow base e m s n xs) : ∀ k, s.ownBlock = some k → base ≤ k := by
  intro k hk
  rcases h.2 with ⟨rfl, _⟩ | ⟨b, cap, cur, rfl, hb, _⟩
  · cases hk
  · have : b = k := Option.some.inj hk
    omega

theorem RowV.own {s : Value} {l : List Val} (h : RowV W s l) : W.ownsRow 0 90 4 s l.length (flatL l) := by
  obtain ⟨⟨xs, h1, h2⟩, h3⟩ := h
  have : xs = flatL l := by
    apply List.ext_getElem?
    intro i
    by_cases hi : i < l.length * 4
    · have e : i = i / 4 * 4 + i % 4 := by omega
      have hj : i / 4 < l.length := by omega
      have hg : l[i / 4]? = some (l.getD (i / 4) Val.zero) := by rw [List.getElem?_eq_getElem hj]; simp [hj]
      rw [e, flatL_get l _ _ _ hg (by omega)]
      obtain ⟨v, hv⟩ : ∃ v, (encV (l.getD (i / 4) Val.zero))[i % 4]? = some v := ⟨(encV (l.getD (i / 4) Val.zero))[i % 4]'(by simp [encV]; omega), List.getElem?_eq_getElem (by simp [encV]; omega)⟩
      rw [hv]
      exact h2 _ hj _ v hv
    · rw [List.getElem?_eq_none (by rw [h1.1]; omega), List.getElem?_eq_none (by rw [flatL_len]; omega)]
  rw [← this]
  exact h1

theorem RowV.of_own {s : Value} {base : Nat} {l : List Val} (h : W.ownsRow base 90 4 s l.length (flatL l)) : RowV W s l := by
  refine ⟨⟨_, ⟨h.1, ?_⟩, fun j hj c v hv => ?_⟩, fun _ _ => rfl⟩
  · rcases h.2 with h0 | ⟨b, cap, cur, rfl, _, rest⟩
    · exact .inl h0
    · exact .inr ⟨b, cap, cur, rfl, Nat.zero_le _, rest⟩
  · have hc : c < 4 := by have := (List.getElem?_eq_some_iff.1 hv).1; simpa [encV] using this
    rw [flatL_get l j c (l.getD j Val.zero) (by rw [List.getElem?_eq_getElem hj]; simp [hj]) hc]
    exact hv

theorem RowV.sl {s : Value} {l : List Val} (h : RowV W s l) (hw : ∀ x ∈ l, x.wf) : ∃ a c, s = .slice a l.length c ∧ SlL W a c l := own_sl hw h.own
theorem RowV.form {s : Value} {l : List Val} (h : RowV W s l) : ∃ a c, s = .slice a l.length c ∧ l.length ≤ c ∧ c ≤ maxLen := RowF.form h
theorem RowI.form {s : Value} {l : List Int} (h : RowI W s l) : ∃ a c, s = .slice a l.length c ∧ l.length ≤ c ∧ c ≤ maxLen := RowF.form h
end

end Go.Proofs.Ytbgnbaogclnpgaa
