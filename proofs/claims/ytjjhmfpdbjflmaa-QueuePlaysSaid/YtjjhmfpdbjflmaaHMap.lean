/-
  Maps of numbers as functions; rows of numbers, and of values, of the call's own (stage 11).
-/
import Derived.Test.YtjjhmfpdbjflmaaYBase
import Derived.Maps.RangeWalk
import Derived.Maps.OwnSet
import Derived.Maps.Ext
namespace Go.Proofs.Ytjjhmfpdbjflmaa
open Go.RowKit
set_option linter.unusedVariables false

def ptrV (g : Nat) : Value := .pointer (some ⟨g, 0, none⟩)
theorem wrOk {n : Int} (h : -9223372036854775808 ≤ n ∧ n ≤ 9223372036854775807) : wrap64 n = n := by first | exact wrap64_in n h | (unfold wrap64; omega)

instance (x : Int) : Decidable (I64 x) := by unfold I64; infer_instance

/-! ### Maps -/

/-- How an element reads: as itself. -/
def KR (v : Value) : Option (DataW Value × List MemPlace) := some (.held v, [])
theorem lawI : Go.Maps.Keyed Try.prog 3 := Go.Maps.int_keyed Try.underlying3
theorem wfI {x : Int} (h : I64 x) : (Lit.int .i64 x).wf = true := by unfold I64 at h; simp [Lit.wf, IntKind.min, IntKind.max, IntKind.signed, IntKind.bits, h.1, h.2]
theorem wfI' {x : Int} (h : (Lit.int .i64 x).wf = true) : I64 x := by unfold I64; simpa [Lit.wf, IntKind.min, IntKind.max, IntKind.signed, IntKind.bits] using h
theorem keyI {x : Int} (h : I64 x) : keyOf Try.prog 3 (.int .i64 x) = some (.int .i64 x) := Go.Maps.keyOf_int_mk Try.underlying3 (wfI h)

/-- The datum D says what f says. -/
def Says (D : DataW Value) (f : Int → Option Value) : Prop := ∀ x, I64 x → Maps.has D (.int .i64 x) = (f x).isSome ∧ ∀ v z, f x = some v → D.atKey (.int .i64 x) z = .held v

/-- Block b is a map by numbers, of at most n entries: what stands at x is f x. -/
def MapF (W : World) (b n : Nat) (f : Int → Option Value) : Prop := ∃ D, W.ownsMap Try.prog 3 KR b n D ∧ Says D f

section
variable {W W' : World} {b n : Nat} {f g : Int → Option Value}

theorem MapF.lt (h : MapF W b n f) : b < W.heap.size := by obtain ⟨D, h1, _⟩ := h; exact h1.lt
theorem MapF.mono (h : MapF W b n f) {n' : Nat} (hn : n ≤ n') : MapF W b n' f := by obtain ⟨D, h1, h2⟩ := h; exact ⟨D, h1.mono hn, h2⟩
theorem MapF.congr (h : MapF W b n f) (hfg : ∀ x, I64 x → g x = f x) : MapF W b n g := by
  obtain ⟨D, h1, h2⟩ := h
  exact ⟨D, h1, fun x hx => by rw [hfg x hx]; exact h2 x hx⟩
theorem MapF.of_block (h : MapF W b n f) (hb : W'.heap[b]? = W.heap[b]?) : MapF W' b n f := by
  obtain ⟨D, ⟨es, clock, h1, r⟩, h2⟩ := h
  exact ⟨D, ⟨es, clock, hb.trans h1, r⟩, h2⟩
theorem MapF.stay {G : Nat → Prop} (h : MapF W b n f) (hs : Stay G W W') (hG : G b) : MapF W' b n f := h.of_block (hs.block b h.lt hG)
theorem MapF.below (h : MapF W b n f) (hb : Below W.heap.size W W') : MapF W' b n f := h.of_block (hb.block b h.lt)

theorem MapF.new (W : World) : MapF (W.alloc (.map #[] 0)) W.heap.size 0 (fun _ => none) :=
  ⟨.map [], World.ownsMap_made W Try.prog _ _, fun x _ => ⟨rfl, fun v z h => by cases h⟩⟩

/-- m[x]: what stands there, or what is none. -/
theorem MapF.look (h : MapF W b n f) {t e : TypeId} (ht : Try.prog.underlying t = some (.map 3 e)) {z : Value} (hz : (zeroValue e).run Try.prog W = .ok z W) {x : Int} (hx : I64 x) :
    (Instr.lookup t (.map (some b)) (.int .i64 x) false).run Try.prog W = .ok ((f x).getD z) W := by
  obtain ⟨D, h1, h2⟩ := h
  obtain ⟨v, ps, hrun, hv⟩ := h1.lookup (zd := .held z) (zp := []) lawI ht hz rfl (keyI hx)
  have hv' : DataW.held v = D.atKey (.int .i64 x) (.held z) := by
    unfold KR at hv
    simp only [Option.some.injEq, Prod.mk.injEq] at hv
    exact hv.1
  obtain ⟨h3, h4⟩ := h2 x hx
  cases hf : f x with
  | none =>
    rw [hf] at h3
    rw [Maps.atKey_of_not_has (by rw [h3]; rfl)] at hv'
    have hv' := DataW.held.inj hv'
    rw [hrun, hv']
    rfl
  | some u =>
    rw [h4 u _ hf] at hv'
    have hv' := DataW.held.inj hv'
    rw [hrun, hv']
    rfl

/-- f, but at x. -/
def updM (f : Int → Option Value) (x : Int) (v : Option Value) : Int → Option Value := fun y => if y = x then v else f y

theorem litI_ne {x y : Int} (h : y ≠ x) : Lit.int .i64 y ≠ Lit.int .i64 x := fun e => h (by injection e)

/-- m[x] = v. -/
theorem MapF.put (h : MapF W b n f) {t e : TypeId} (ht : Try.prog.underlying t = some (.map 3 e)) (hn : n < maxLen) {x : Int} (hx : I64 x) (v : Value) :
    ∃ W', (Instr.mapUpdate t (.map (some b)) (.int .i64 x) v).run Try.prog W = .ok () W' ∧ MapF W' b (n + 1) (updM f x (some v)) ∧ W.grownBy W' (some b) := by
  obtain ⟨D, h1, h2⟩ := h
  obtain ⟨W', hrun, r1, r2⟩ := h1.update lawI ht hn (keyI hx) (val := v) (d := .held v) (ps := []) rfl
  have hm := h1.isMap
  refine ⟨W', hrun, ⟨_, r1, fun y hy => ?_⟩, r2⟩
  unfold updM
  by_cases hyx : y = x
  · subst hyx
    rw [if_pos rfl]
    have hk : WideAt.IsKeyLit (.int .i64 y) := lawI.key (keyI hy)
    exact ⟨Maps.has_put_same hm hk _, fun u z hu => by rw [Maps.atKey_put_same hm hk]; rw [Option.some.inj hu]⟩
  · rw [if_neg hyx]
    obtain ⟨h3, h4⟩ := h2 y hy
    exact ⟨by rw [Maps.has_put_other (litI_ne hyx)]; exact h3, fun u z hu => by rw [Maps.atKey_put_other (litI_ne hyx)]; exact h4 u z hu⟩

/-- delete(m, x). -/
theorem MapF.del (h : MapF W b n f) {t e : TypeId} (ht : Try.prog.underlying t = some (.map 3 e)) {x : Int} (hx : I64 x) (ty : TypeId) :
    ∃ W', (Builtin.delete_ #[t, 3] ty #[.map (some b), .int .i64 x]).run Try.prog W = .ok (.tuple #[]) W' ∧ MapF W' b n (updM f x none) ∧ W.grownBy W' (some b) := by
  obtain ⟨D, h1, h2⟩ := h
  obtain ⟨W', hrun, r1, r2⟩ := h1.drop lawI ht (keyI hx) ty
  refine ⟨W', hrun, ⟨_, r1, fun y hy => ?_⟩, r2.grown⟩
  unfold updM
  by_cases hyx : y = x
  · subst hyx
    rw [if_pos rfl]
    exact ⟨Maps.has_del_same, fun u z hu => by cases hu⟩
  · rw [if_neg hyx]
    obtain ⟨h3, h4⟩ := h2 y hy
    exact ⟨by rw [Maps.has_del_other (litI_ne hyx)]; exact h3, fun u z hu => by rw [Maps.atKey_del_other (litI_ne hyx)]; exact h4 u z hu⟩

/-- A key of a map by numbers is a number. -/
theorem own_keys {D : DataW Value} (h : W.ownsMap Try.prog 3 KR b n D) : ∃ es, D = .map es ∧ es.Pairwise (fun p q => p.1 ≠ q.1) ∧ ∀ p ∈ es, ∃ x, p.1 = .int .i64 x ∧ I64 x := by
  obtain ⟨es0, clock, hb, F, hs, hD⟩ := h
  obtain ⟨es, he, hp, _⟩ := World.ownsMap.entries ⟨es0, clock, hb, F, hs, hD⟩ lawI
  refine ⟨es, he, hp, fun p hpm => ?_⟩
  have hk := Go.Maps.fit_keys F
  have : p ∈ (es0.toList.map (Go.WideElems.rg Try.prog 3 KR)).foldr DataW.insert [] := by
    rw [hD] at he
    injection he with he
    rw [he]; exact hpm
  obtain ⟨v, hv⟩ := hk p (mem_sorted.1 this)
  obtain ⟨x, _, e2, e3⟩ := Go.Maps.keyOf_int_inv Try.underlying3 hv
  exact ⟨x, e2, wfI' e3⟩

/-- len(m). -/
theorem MapF.len (h : MapF W b n f) {t e : TypeId} (ht : Try.prog.underlying t = some (.map 3 e)) (ty : TypeId) :
    ∃ k : Nat, (Builtin.len_ #[t] ty #[.map (some b)]).run Try.prog W = .ok (.int .i64 k) W ∧ k ≤ n ∧ (k = 0 ↔ ∀ x, I64 x → f x = none) := by
  obtain ⟨D, h1, h2⟩ := h
  refine ⟨Maps.size D, h1.len ht ty, h1.size_le, ?_⟩
  obtain ⟨es, rfl, hp, hk⟩ := own_keys h1
  constructor
  · intro h0 x hx
    have he : es = [] := List.eq_nil_of_length_eq_zero h0
    have := (h2 x hx).1
    rw [he] at this
    cases hf : f x with
    | none => rfl
    | some u => rw [hf] at this; cases this
  · intro h0
    cases es with
    | nil => rfl
    | cons p es =>
      obtain ⟨x, e1, e2⟩ := hk p (List.mem_cons_self ..)
      have := (h2 x e2).1
      rw [h0 x e2, Maps.has_eq, List.any_cons, e1] at this
      have hs : (Lit.int .i64 x).sameKey (.int .i64 x) = true := WideAt.sameKey_self (lawI.key (keyI e2))
      rw [hs] at this
      cases this
end

/-! ### A range over a map -/

/-- Block r goes over the map in block b: left x: the entry at x is still to come; cnt: how many are. -/
def RangeF (W : World) (b r n : Nat) (f : Int → Option Value) (left : Int → Bool) (cnt : Nat) : Prop :=
  ∃ D left', W.ranges Try.prog 3 KR b r n D left' cnt ∧ Says D f ∧ ∀ x, left x = left' (.int .i64 x)

section
variable {W W' : World} {b r n cnt : Nat} {f : Int → Option Value} {left : Int → Bool}

theorem RangeF.map (h : RangeF W b r n f left cnt) : MapF W b n f := by
  obtain ⟨D, l, h1, h2, _⟩ := h
  exact ⟨D, h1.owns, h2⟩
theorem RangeF.lt (h : RangeF W b r n f left cnt) : r < W.heap.size := by obtain ⟨D, l, h1, _⟩ := h; exact h1.lt
theorem RangeF.ne (h : RangeF W b r n f left cnt) : r ≠ b := by obtain ⟨D, l, h1, _⟩ := h; exact h1.ne
theorem RangeF.kept (h : RangeF W b r n f left cnt) (hl : W.heap.size ≤ W'.heap.size) (hb : W'.heap[b]? = W.heap[b]?) (hr : W'.heap[r]? = W.heap[r]?) : RangeF W' b r n f left cnt := by
  obtain ⟨D, l, ⟨es, clock, since, seen, c0, h0, h1, h2, h3, h5, h6⟩, h4⟩ := h
  exact ⟨D, l, ⟨es, clock, since, seen, c0, hb.trans h0, h1, h2, h3, hr.trans h5, h6⟩, h4⟩
theorem RangeF.below (h : RangeF W b r n f left cnt) (hb : Below W.heap.size W W') : RangeF W' b r n f left cnt := h.kept hb.size (hb.block b h.map.lt) (hb.block r h.lt)
end

section
variable {w : World} {ops : Array Oper} {rest : List Oper} {o : Oper} {a : Act} {Q : Exit → Act → World → Prop} {b r n cnt : Nat} {f : Int → Option Value} {left : Int → Bool}

theorem range_f (hg : o.guard = none) (m : Operand) (t : TypeId) (hop : o.op = Op.range t m) (e : TypeId) (ht : Try.prog.underlying t = some (.map 3 e)) (hm : a.eval m = .map (some b)) (h : MapF w b n f)
    (hK : ∀ w' cnt, cnt ≤ n → RangeF w' b w.heap.size n f (fun x => decide (I64 x) && (f x).isSome) cnt → Below w.heap.size w w' → w'.heap.size = w.heap.size + 1 → wpList Try.prog ops Q rest (a.put o.dst (.pointer (some ⟨w.heap.size, 0, none⟩))) w') :
    wpList Try.prog ops Q (o :: rest) a w := by
  obtain ⟨D, h1, h2⟩ := h
  refine wpList_range_own w hg m t hop 3 e lawI ht KR b n D hm h1 fun w' r1 r2 r3 => ?_
  refine hK w' _ h1.size_le ⟨D, _, r1, h2, fun x => ?_⟩ ⟨r2.os, r2.tape, r2.output, r2.size, fun k hk => r2.block k hk (by simp)⟩ r3
  by_cases hx : I64 x
  · show (decide (I64 x) && (f x).isSome) = _
    rw [(h2 x hx).1, decide_eq_true hx, Bool.true_and]
  · show (decide (I64 x) && (f x).isSome) = _
    rw [decide_eq_false hx, Bool.false_and]
    symm
    obtain ⟨es, rfl, hp, hk⟩ := own_keys h1
    rw [Maps.has_eq, List.any_eq_false]
    intro p hpm hs
    obtain ⟨y, e1, e2⟩ := hk p hpm
    have := WideAt.sameKey_eq hs
    rw [e1] at this
    injection this with _ this
    subst this
    exact hx e2

theorem next_f (hg : o.guard = none) (it : Operand) (hop : o.op = Op.next it false) (hit : a.eval it = .pointer (some ⟨r, 0, none⟩)) (h : RangeF w b r n f left cnt)
    (hDone : (∀ x, I64 x → left x = false) → wpList Try.prog ops Q rest (a.put o.dst (.tuple #[.bool false])) w)
    (hMore : ∀ (x : Int) (v : Value) (w' : World) (cnt' : Nat), I64 x → left x = true → f x = some v → RangeF w' b r n f (fun z => left z && !decide (z = x)) cnt' → cnt' < cnt → Touch (fun k => k = r) w w' → w'.heap.size = w.heap.size →
      (Instr.entry (.pointer (some ⟨r, 0, none⟩))).run Try.prog w' = .ok (.tuple #[.int .i64 x, v]) w' → wpList Try.prog ops Q rest (a.put o.dst (.tuple #[.bool true, .int .i64 x, v])) w') :
    wpList Try.prog ops Q (o :: rest) a w := by
  obtain ⟨D, l, h1, h2, h3⟩ := h
  refine wpList_next_ranges w hg it hop 3 lawI KR (Value.int .i64) (fun v : Value => v) (fun key kl hkey => by obtain ⟨x, rfl, _⟩ := Maps.keyOf_int_inv Try.underlying3 hkey; exact ⟨x, rfl⟩) (fun v y hv => ⟨v, rfl⟩)
    b r n D l cnt hit h1 (fun _ hl => hDone (fun x _ => by rw [h3]; exact hl _)) (fun x c kl y w' cnt' hkey hlk hv hat hrg hlt hgr hsz hen => ?_)
  obtain ⟨x', ex, rfl, hwx⟩ := Maps.keyOf_int_inv Try.underlying3 hkey
  injection ex with _ ex
  subst ex
  have hx := wfI' hwx
  have hf : f x = some c := by
    obtain ⟨h4, h5⟩ := h2 x hx
    cases hfx : f x with
    | none =>
      rw [hfx] at h4
      have e1 := Maps.atKey_of_not_has (z := DataW.nil) (by rw [h4]; rfl)
      rw [hat] at e1
      unfold KR at hv
      simp only [Option.some.injEq] at hv
      rw [← hv] at e1
      cases e1
    | some u =>
      have e1 := h5 u DataW.nil hfx
      rw [hat] at e1
      unfold KR at hv
      simp only [Option.some.injEq] at hv
      rw [← hv] at e1
      rw [DataW.held.inj e1]
  refine hMore x c w' cnt' hx (by rw [h3]; exact hlk) hf ⟨D, _, hrg, h2, fun z => ?_⟩ hlt (Touch.grown hgr (fun k hk => (Option.some.inj hk).symm)) hsz hen
  show (left z && !decide (z = x)) = (l (.int .i64 z) && !(Go.Lit.int .i64 z).sameKey (.int .i64 x))
  have e : decide (z = x) = (Go.Lit.int .i64 z).sameKey (.int .i64 x) := by
    by_cases hzx : z = x
    · subst hzx
      rw [decide_eq_true rfl]
      exact (WideAt.sameKey_self (lawI.key (keyI hx))).symm
    · rw [decide_eq_false hzx]
      exact (Maps.sameKey_ne (litI_ne hzx)).symm
  rw [e, h3 z]
end

/-! ### Rows of numbers, and of values -/

def numR (f : Nat → Int) (j : Nat) : List Value := [.int .i64 (f j)]
def RowI (W : World) (s : Value) (l : List Int) : Prop := RowF 3 1 W s l.length (numR fun j => l.getD j 0)
end Go.Proofs.Ytjjhmfpdbjflmaa
