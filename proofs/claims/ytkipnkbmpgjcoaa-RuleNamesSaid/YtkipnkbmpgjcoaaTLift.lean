/-
  From the laws' walks to their rows: how tables, rules and columns read (stage 8).
-/
import Derived.Test.YtkipnkbmpgjcoaaRows
import Derived.Test.YtkipnkbmpgjcoaaTRule
import Derived.ProofKit
import Derived.OpenShut
import Derived.Carry
import Derived.SizedLaws
import Derived.Deep.Slices
namespace Go.Proofs.Ytkipnkbmpgjcoaa
open Go.RowKit Go.ChangeShapes Go.WideShapes Go.ChangeAt

theorem ownE : ownKnob Try.prog.godebug = none := by kernel_rfl
theorem laidE : laidOutB Try.prog = true := by kernel_rfl

theorem wf64e {n : Int} (h : (Lit.int .i64 n).wf = true) : I64 n := by unfold I64; simpa [Lit.wf, IntKind.min, IntKind.max, IntKind.signed, IntKind.bits] using h
theorem wf8e {n : Int} (h : (Lit.int .u8 n).wf = true) : 0 ≤ n ∧ n ≤ 255 := by simpa [Lit.wf, IntKind.min, IntKind.max, IntKind.signed, IntKind.bits] using h

section
variable {H : Type} {enc : TypeId × Value → H} {w : World}

theorem cV : Try.prog.cellsOf 24 = 4 := by kernel_rfl
theorem cE : Try.prog.cellsOf 27 = 7 := by kernel_rfl

set_option maxRecDepth 100000 in
theorem open_vcells {fuel : Nat} {cs : List Value} {x : DataW H × List MemPlace} (h : DataW.trod enc Try.prog w 0 (fun _ => true) true fuel 24 cs = some x) :
    ∃ k n u t, cs = [.int .u8 k, .int .i64 n, .int .i64 u, .string t] ∧ x.1 = .agg [.lit (.int .u8 k), .lit (.int .i64 n), .lit (.int .i64 u), .lit (.string t.data.toList)] ∧ (0 ≤ k ∧ k ≤ 255) ∧ I64 n ∧ I64 u ∧ t.size ≤ maxLen := by
  obtain ⟨xs, n, _, rfl, hl, hlen, hf⟩ := DataW.trod_struct Try.underlying24 h
  rw [cV] at hl
  obtain ⟨a, b, c, d, rfl⟩ : ∃ a b c d, cs = [a, b, c, d] := by
    match cs, hl with
    | [a, b, c, d], _ => exact ⟨a, b, c, d, rfl⟩
  obtain ⟨y0, y1, y2, y3, rfl⟩ : ∃ a b c d, xs = [a, b, c, d] := by
    match xs, hlen with
    | [a, b, c, d], _ => exact ⟨a, b, c, d, rfl⟩
  have h0 := hf 0 _ rfl
  have h1 := hf 1 _ rfl
  have h2 := hf 2 _ rfl
  have h3 := hf 3 _ rfl
  simp only [List.getElem?_cons_zero, List.getElem?_cons_succ] at h0 h1 h2 h3
  obtain ⟨k, e0, rfl, w0⟩ := DataW.trod_int Try.underlying5 h0
  obtain ⟨m, e1, rfl, w1⟩ := DataW.trod_int Try.underlying2 h1
  obtain ⟨u, e2, rfl, w2⟩ := DataW.trod_int Try.underlying2 h2
  obtain ⟨t, e3, rfl, w3⟩ := DataW.trod_string Try.underlying9 h3
  cases e0; cases e1; cases e2; cases e3
  exact ⟨k, m, u, t, rfl, rfl, wf8e w0, wf64e w1, wf64e w2, w3⟩

theorem spot_none {w : World} {a : Addr} {v : Value} (h : w.cell? a = some v) : a = ⟨a.block, a.off, none⟩ ∧ a.block < w.heap.size := by
  obtain ⟨b, o, s⟩ := a
  unfold World.cell? at h
  dsimp only at h
  split at h
  · rename_i c _ _ hb
    cases s with
    | none => exact ⟨rfl, by have := (Array.getElem?_eq_some_iff.1 hb).1; exact this⟩
    | some s => simp at h
  · cases h

instance : Inhabited Ex := ⟨.nil⟩

theorem add_at {b o i : Nat} : (⟨b, o, none⟩ : Addr).add i = ⟨b, o + i, none⟩ := by
  unfold Addr.add
  split
  · rename_i h; rw [h]; rfl
  · rfl

set_option maxRecDepth 100000 in
theorem open_ecells : ∀ (fuel : Nat) (cs : List Value) (x : DataW H × List MemPlace), DataW.trod enc Try.prog w 0 (fun _ => true) true fuel 27 cs = some x →
    ∃ e : Ex, cs = [.int .u8 e.op, .int .u8 e.v.k, .int .i64 e.v.n, .int .i64 e.v.u, .string e.v.t, .int .i64 e.m, .slice e.a e.len e.cap] ∧ e.In w := by
  intro fuel
  induction fuel using Nat.strongRecOn with
  | _ fuel ih =>
  intro cs x h
  obtain ⟨xs, n, hfn, rfl, hl, hlen, hf⟩ := DataW.trod_struct Try.underlying27 h
  rw [cE] at hl
  obtain ⟨c0, c1, c2, c3, c4, c5, c6, rfl⟩ : ∃ c0 c1 c2 c3 c4 c5 c6, cs = [c0, c1, c2, c3, c4, c5, c6] := by
    match cs, hl with
    | [c0, c1, c2, c3, c4, c5, c6], _ => exact ⟨c0, c1, c2, c3, c4, c5, c6, rfl⟩
  obtain ⟨y0, y1, y2, y3, rfl⟩ : ∃ a b c d, xs = [a, b, c, d] := by
    match xs, hlen with
    | [a, b, c, d], _ => exact ⟨a, b, c, d, rfl⟩
  have h0 := hf 0 _ rfl
  have h1 := hf 1 _ rfl
  have h2 := hf 2 _ rfl
  have h3 := hf 3 _ rfl
  simp only [List.getElem?_cons_zero, List.getElem?_cons_succ] at h0 h1 h2 h3
  obtain ⟨op, e0, _, w0⟩ := DataW.trod_int Try.underlying5 h0
  obtain ⟨k, vn, vu, vt, e1, _, wk, wn, wu, wt⟩ := open_vcells h1
  obtain ⟨m, e2, _, w2⟩ := DataW.trod_int Try.underlying3 h2
  cases e0; cases e1; cases e2
  have w8 := wf8e w0
  rcases DataW.trod_slice Try.underlying25 h3 with ⟨e3, _⟩ | ⟨a, len, cap, elems, rest, n', hn', e3, _, _, hlc, hcm, hel, hat, _, _⟩
  · cases e3
    exact ⟨.node op ⟨k, vn, vu, vt⟩ m none 0 0 fun _ => .nil, rfl, Ex.in_iff.2 ⟨⟨w8.1, w8.2, wf64e w2, wk.1, wk.2, wn, wu, wt, Nat.le_refl 0, Nat.zero_le _⟩, fun hl => absurd hl (Nat.not_lt_zero _), fun i hi => absurd hi (Nat.not_lt_zero _)⟩⟩
  · cases e3
    rw [cE] at hat
    have hk : ∀ i, i < len → ∃ q : Ex, (∃ cs', w.cells? 0 (a.add (i * 7)) 7 = some cs' ∧ cs' = [.int .u8 q.op, .int .u8 q.v.k, .int .i64 q.v.n, .int .i64 q.v.u, .string q.v.t, .int .i64 q.m, .slice q.a q.len q.cap]) ∧ q.In w := by
      intro i hi
      have := hat i hi
      rw [List.getElem?_eq_getElem (by omega)] at this
      obtain ⟨cs', h1, h2⟩ := Option.bind_eq_some_iff.1 this
      obtain ⟨q, hq, hin⟩ := ih n' (by omega) cs' _ h2
      exact ⟨q, ⟨cs', h1, hq⟩, hin⟩
    obtain ⟨kid, hkid⟩ := Deep.choose_lt hk
    refine ⟨.node op ⟨k, vn, vu, vt⟩ m (some a) len cap kid, rfl, Ex.in_iff.2 ⟨⟨w8.1, w8.2, wf64e w2, wk.1, wk.2, wn, wu, wt, hlc, hcm⟩, fun hl => ?_, fun i hi => (hkid i hi).2⟩⟩
    have hl' : 0 < len := hl
    have ha : a = ⟨a.block, a.off, none⟩ := by
      obtain ⟨⟨cs', h1, rfl⟩, _⟩ := hkid 0 hl'
      obtain ⟨_, _, hc⟩ := World.cells?_some h1
      have := hc 0 (by omega)
      have he : (a.add (0 * 7)).add 0 = a := by simp [Addr.add]
      rw [he] at this
      exact (spot_none this).1
    refine ⟨a.block, a.off, by show some a = _; rw [← ha], fun i hi => ?_⟩
    obtain ⟨⟨cs', h1, rfl⟩, _⟩ := hkid i hi
    obtain ⟨_, _, hc⟩ := World.cells?_some h1
    have hb := World.cells?_block h1 (by omega)
    rw [ha] at hc hb
    simp only [add_at] at hc hb
    have g := fun j hj => hc j hj
    have g0 := g 0 (by omega)
    have g1 := g 1 (by omega)
    have g2 := g 2 (by omega)
    have g3 := g 3 (by omega)
    have g4 := g 4 (by omega)
    have g5 := g 5 (by omega)
    have g6 := g 6 (by omega)
    show AtE w a.block (a.off + i * 7) (kid i)
    exact ⟨g0, g1, g2, g3, g4, g5, g6, hb⟩

theorem cC : Try.prog.cellsOf 49 = 6 := by kernel_rfl
theorem cI : Try.prog.cellsOf 3 = 1 := by kernel_rfl
theorem cT : Try.prog.cellsOf 32 = 3 := by kernel_rfl
theorem cR : Try.prog.cellsOf 29 = 16 := by kernel_rfl

theorem reach_of {n : Nat} (h : n ≤ maxLen) : n ≤ 9223372036854775807 := by unfold maxLen at h; omega

set_option maxRecDepth 100000 in
theorem open_ccells {fuel : Nat} {cs : List Value} {x : DataW H × List MemPlace} (h : DataW.trod enc Try.prog w 0 (fun _ => true) true fuel 49 cs = some x) :
    ∃ c : Col, cs = [.string c.nm, .int .u8 c.ty, .int .u8 c.v.k, .int .i64 c.v.n, .int .i64 c.v.u, .string c.v.t] ∧ c.wf := by
  obtain ⟨xs, n, _, rfl, hl, hlen, hf⟩ := DataW.trod_struct Try.underlying49 h
  rw [cC] at hl
  obtain ⟨c0, c1, c2, c3, c4, c5, rfl⟩ : ∃ c0 c1 c2 c3 c4 c5, cs = [c0, c1, c2, c3, c4, c5] := by
    match cs, hl with
    | [c0, c1, c2, c3, c4, c5], _ => exact ⟨c0, c1, c2, c3, c4, c5, rfl⟩
  obtain ⟨y0, y1, y2, rfl⟩ : ∃ a b c, xs = [a, b, c] := by
    match xs, hlen with
    | [a, b, c], _ => exact ⟨a, b, c, rfl⟩
  have h0 := hf 0 _ rfl
  have h1 := hf 1 _ rfl
  have h2 := hf 2 _ rfl
  simp only [List.getElem?_cons_zero, List.getElem?_cons_succ] at h0 h1 h2
  obtain ⟨nm, e0, _, w0⟩ := DataW.trod_string Try.underlying9 h0
  obtain ⟨ty, e1, _, w1⟩ := DataW.trod_int Try.underlying5 h1
  obtain ⟨k, vn, vu, vt, e2, _, wk, wn, wu, wt⟩ := open_vcells h2
  cases e0; cases e1; cases e2
  exact ⟨⟨nm, ty, ⟨k, vn, vu, vt⟩⟩, rfl, (wf8e w1).1, (wf8e w1).2, ⟨wk.1, wk.2, wn, wu, reach_of wt⟩, reach_of w0⟩

theorem list_ofC {n : Nat} (vals : Nat → Col) (i : Nat) (x : Col) (hx : ((List.range n).map vals)[i]? = some x) : i < n ∧ x = vals i := by
  rw [List.getElem?_map] at hx
  obtain ⟨j, h1, rfl⟩ := Option.map_eq_some_iff.1 hx
  obtain ⟨h2, h3⟩ := List.getElem?_eq_some_iff.1 h1
  have h4 : i < n := by simpa using h2
  rw [List.getElem_range] at h3
  subst h3
  exact ⟨h4, rfl⟩

instance : Inhabited Col := ⟨⟨⟨#[]⟩, 0, Val.zero⟩⟩

set_option maxRecDepth 100000 in
/-- A slice of columns, in cells. -/
theorem open_colsc {fuel : Nat} {c0 : Value} {x : DataW H × List MemPlace} (h : DataW.trod enc Try.prog w 0 (fun _ => true) true fuel 30 [c0] = some x) :
    ∃ a n c l, c0 = .slice a n c ∧ List.length l = n ∧ SlC w a c l := by
  rcases DataW.trod_slice Try.underlying30 h with ⟨e3, _⟩ | ⟨a, len, cap, elems, rest, n', hn', e3, _, _, hlc, hcm, hel, hat, _, _⟩
  · cases e3
    exact ⟨none, 0, 0, [], rfl, rfl, SlC.nil _ _ _ (Nat.zero_le _)⟩
  · cases e3
    rw [cC] at hat
    have hk : ∀ i, i < len → ∃ q : Col, (∃ cs', w.cells? 0 (a.add (i * 6)) 6 = some cs' ∧ cs' = [.string q.nm, .int .u8 q.ty, .int .u8 q.v.k, .int .i64 q.v.n, .int .i64 q.v.u, .string q.v.t]) ∧ q.wf := by
      intro i hi
      have := hat i hi
      rw [List.getElem?_eq_getElem (by omega)] at this
      obtain ⟨cs', h1, h2⟩ := Option.bind_eq_some_iff.1 this
      obtain ⟨q, hq, hw⟩ := open_ccells h2
      exact ⟨q, ⟨cs', h1, hq⟩, hw⟩
    obtain ⟨vals, hvals⟩ := Deep.choose_lt hk
    refine ⟨some a, len, cap, (List.range len).map vals, rfl, by simp, by simpa using hlc, hcm, fun hl => ?_, fun y hy => ?_⟩
    · have hl' : 0 < len := by
        rcases Nat.eq_zero_or_pos len with e | e
        · subst e; exact absurd rfl hl
        · exact e
      have ha : a = ⟨a.block, a.off, none⟩ := by
        obtain ⟨⟨cs', h1, rfl⟩, _⟩ := hvals 0 hl'
        obtain ⟨_, _, hc⟩ := World.cells?_some h1
        have := hc 0 (by omega)
        have he : (a.add (0 * 6)).add 0 = a := by simp [Addr.add]
        rw [he] at this
        exact (spot_none this).1
      refine ⟨a.block, a.off, by show some a = _; rw [← ha], fun i x hx => ?_⟩
      obtain ⟨hi, rfl⟩ := list_ofC vals i x hx
      obtain ⟨⟨cs', h1, rfl⟩, _⟩ := hvals i hi
      obtain ⟨_, _, hc⟩ := World.cells?_some h1
      have hb := World.cells?_block h1 (by omega)
      rw [ha] at hc hb
      simp only [add_at] at hc hb
      have g := fun j hj => hc j hj
      have g0 := g 0 (by omega)
      have g1 := g 1 (by omega)
      have g2 := g 2 (by omega)
      have g3 := g 3 (by omega)
      have g4 := g 4 (by omega)
      have g5 := g 5 (by omega)
      exact ⟨g0, g1, g2, g3, g4, g5, hb⟩
    · obtain ⟨i, hi, rfl⟩ := List.mem_map.1 hy
      exact (hvals i (by simpa using hi)).2

theorem list_ofI {n : Nat} (vals : Nat → Int) (i : Nat) (x : Int) (hx : ((List.range n).map vals)[i]? = some x) : i < n ∧ x = vals i := by
  rw [List.getElem?_map] at hx
  obtain ⟨j, h1, rfl⟩ := Option.map_eq_some_iff.1 hx
  obtain ⟨h2, h3⟩ := List.getElem?_eq_some_iff.1 h1
  have h4 : i < n := by simpa using h2
  rw [List.getElem_range] at h3
  subst h3
  exact ⟨h4, rfl⟩

set_option maxRecDepth 100000 in
/-- A slice of whole numbers, in cells. -/
theorem open_intsc {fuel : Nat} {c0 : Value} {x : DataW H × List MemPlace} (h : DataW.trod enc Try.prog w 0 (fun _ => true) true fuel 22 [c0] = some x) :
    ∃ a n c l, c0 = .slice a n c ∧ List.length l = n ∧ SlI w a c l := by
  rcases DataW.trod_slice Try.underlying22 h with ⟨e3, _⟩ | ⟨a, len, cap, elems, rest, n', hn', e3, _, _, hlc, hcm, hel, hat, _, _⟩
  · cases e3
    exact ⟨none, 0, 0, [], rfl, rfl, SlI.nil _ _ _ (Nat.zero_le _)⟩
  · cases e3
    rw [cI] at hat
    have hk : ∀ i, i < len → ∃ q : Int, w.cells? 0 (a.add (i * 1)) 1 = some [.int .i64 q] ∧ I64 q := by
      intro i hi
      have := hat i hi
      rw [List.getElem?_eq_getElem (by omega)] at this
      obtain ⟨cs', h1, h2⟩ := Option.bind_eq_some_iff.1 this
      obtain ⟨q, rfl, _, wq⟩ := DataW.trod_int Try.underlying3 h2
      exact ⟨q, h1, wf64e wq⟩
    obtain ⟨vals, hvals⟩ := Deep.choose_lt hk
    refine ⟨some a, len, cap, (List.range len).map vals, rfl, by simp, by simpa using hlc, hcm, fun hl => ?_, fun x hx => ?_⟩
    · have hl' : 0 < len := by
        rcases Nat.eq_zero_or_pos len with e | e
        · subst e; exact absurd rfl hl
        · exact e
      have ha : a = ⟨a.block, a.off, none⟩ := by
        obtain ⟨_, _, hc⟩ := World.cells?_some (hvals 0 hl').1
        have := hc 0 (by omega)
        have he : (a.add (0 * 1)).add 0 = a := by simp [Addr.add]
        rw [he] at this
        exact (spot_none this).1
      have hb0 : a.block < w.heap.size := by
        have hb := World.cells?_block (hvals 0 hl').1 (by omega)
        rw [ha] at hb
        simp only [add_at] at hb
        exact hb
      refine ⟨a.block, a.off, by show some a = _; rw [← ha], hb0, fun i x hx => ?_⟩
      obtain ⟨hi, rfl⟩ := list_ofI vals i x hx
      obtain ⟨_, _, hc⟩ := World.cells?_some (hvals i hi).1
      rw [ha] at hc
      simp only [add_at] at hc
      have := hc 0 (by omega)
      simpa using this
    · obtain ⟨i, hi, rfl⟩ := List.mem_map.1 hx
      exact (hvals i (by simpa using hi)).2

set_option maxRecDepth 100000 in
/-- An argument that is a table. -/
theorem open_tb {b0 : Nat} {v : Value} {d : DataW H} {p : List MemPlace} (hv : Value.okWide Try.prog w .any b0 32 v) (h : DataW.Trod enc Try.prog w 0 (fun _ => true) true 32 v d p) :
    ∃ t : Tb, v = .agg #[.string t.nm, .slice t.a t.n t.cap, .string t.ow] ∧ t.In w := by
  obtain ⟨cs, rfl, _⟩ := okWide_struct Try.underlying32 hv
  obtain ⟨fuel, h⟩ := h
  obtain ⟨cs⟩ := cs
  obtain ⟨xs, n, _, _, hl, hlen, hf⟩ := DataW.trod_struct Try.underlying32 h
  rw [cT] at hl
  obtain ⟨c0, c1, c2, rfl⟩ : ∃ c0 c1 c2, cs = [c0, c1, c2] := by
    match cs, hl with
    | [c0, c1, c2], _ => exact ⟨c0, c1, c2, rfl⟩
  obtain ⟨y0, y1, y2, rfl⟩ : ∃ a b c, xs = [a, b, c] := by
    match xs, hlen with
    | [a, b, c], _ => exact ⟨a, b, c, rfl⟩
  have h0 := hf 0 _ rfl
  have h1 := hf 1 _ rfl
  have h2 := hf 2 _ rfl
  simp only [List.getElem?_cons_zero, List.getElem?_cons_succ] at h0 h1 h2
  obtain ⟨nm, e0, _, w0⟩ := DataW.trod_string Try.underlying9 h0
  obtain ⟨a, m, c, l, e1, hn, hs⟩ := open_colsc h1
  obtain ⟨ow, e2, _, w2⟩ := DataW.trod_string Try.underlying9 h2
  cases e0; cases e1; cases e2
  exact ⟨⟨nm, a, m, c, l, ow⟩, rfl, hs, hn, reach_of w0, reach_of w2⟩

set_option maxRecDepth 100000 in
/-- An argument that is a column. -/
theorem open_co {b0 : Nat} {v : Value} {d : DataW H} {p : List MemPlace} (hv : Value.okWide Try.prog w .any b0 49 v) (h : DataW.Trod enc Try.prog w 0 (fun _ => true) true 49 v d p) :
    ∃ c : Col, v = .agg #[.string c.nm, .int .u8 c.ty, .int .u8 c.v.k, .int .i64 c.v.n, .int .i64 c.v.u, .string c.v.t] ∧ c.wf := by
  obtain ⟨cs, rfl, _⟩ := okWide_struct Try.underlying49 hv
  obtain ⟨fuel, h⟩ := h
  obtain ⟨cs⟩ := cs
  obtain ⟨c, e, hw⟩ := open_ccells h
  have e' : cs = _ := e
  subst e'
  exact ⟨c, rfl, hw⟩

set_option maxRecDepth 100000 in
set_option maxHeartbeats 1000000 in
/-- An argument that is a rule. -/
theorem open_ru {b0 : Nat} {v : Value} {d : DataW H} {p : List MemPlace} (hv : Value.okWide Try.prog w .any b0 29 v) (h : DataW.Trod enc Try.prog w 0 (fun _ => true) true 29 v d p) :
    ∃ r : Rl, v = .agg #[.int .u8 r.kind, .string r.nm, .string r.tb, .slice r.a r.n r.cap, .int .u8 r.is.op, .int .u8 r.is.v.k, .int .i64 r.is.v.n, .int .i64 r.is.v.u, .string r.is.v.t, .int .i64 r.is.m, .slice r.is.a r.is.len r.is.cap, .string r.to, .int .u8 r.od, .int .u8 r.ou, .bool r.late, .bool r.valid] ∧ r.In w := by
  obtain ⟨cs, rfl, _⟩ := okWide_struct Try.underlying29 hv
  obtain ⟨fuel, h⟩ := h
  obtain ⟨cs⟩ := cs
  obtain ⟨xs, n, _, _, hl, hlen, hf⟩ := DataW.trod_struct Try.underlying29 h
  rw [cR] at hl
  obtain ⟨c0, c1, c2, c3, c4, c5, c6, c7, c8, c9, c10, c11, c12, c13, c14, c15, rfl⟩ : ∃ c0 c1 c2 c3 c4 c5 c6 c7 c8 c9 c10 c11 c12 c13 c14 c15, cs = [c0, c1, c2, c3, c4, c5, c6, c7, c8, c9, c10, c11, c12, c13, c14, c15] := by
    match cs, hl with
    | [c0, c1, c2, c3, c4, c5, c6, c7, c8, c9, c10, c11, c12, c13, c14, c15], _ => exact ⟨c0, c1, c2, c3, c4, c5, c6, c7, c8, c9, c10, c11, c12, c13, c14, c15, rfl⟩
  obtain ⟨y0, y1, y2, y3, y4, y5, y6, y7, y8, y9, rfl⟩ : ∃ y0 y1 y2 y3 y4 y5 y6 y7 y8 y9, xs = [y0, y1, y2, y3, y4, y5, y6, y7, y8, y9] := by
    match xs, hlen with
    | [y0, y1, y2, y3, y4, y5, y6, y7, y8, y9], _ => exact ⟨y0, y1, y2, y3, y4, y5, y6, y7, y8, y9, rfl⟩
  have h0 := hf 0 _ rfl
  have h1 := hf 1 _ rfl
  have h2 := hf 2 _ rfl
  have h3 := hf 3 _ rfl
  have h4 := hf 4 _ rfl
  have h5 := hf 5 _ rfl
  have h6 := hf 6 _ rfl
  have h7 := hf 7 _ rfl
  have h8 := hf 8 _ rfl
  have h9 := hf 9 _ rfl
  simp only [List.getElem?_cons_zero, List.getElem?_cons_succ] at h0 h1 h2 h3 h4 h5 h6 h7 h8 h9
  obtain ⟨kind, e0, _, w0⟩ := DataW.trod_int Try.underlying5 h0
  obtain ⟨nm, e1, _, w1⟩ := DataW.trod_string Try.underlying9 h1
  obtain ⟨tb, e2, _, w2⟩ := DataW.trod_string Try.underlying9 h2
  obtain ⟨a, m, c, l, e3, hn, hs⟩ := open_intsc h3
  obtain ⟨is, e4, hin⟩ := open_ecells _ _ _ h4
  obtain ⟨to, e5, _, w5⟩ := DataW.trod_string Try.underlying9 h5
  obtain ⟨od, e6, _, w6⟩ := DataW.trod_int Try.underlying5 h6
  obtain ⟨ou, e7, _, w7⟩ := DataW.trod_int Try.underlying5 h7
  obtain ⟨late, e8, _⟩ := DataW.trod_bool Try.underlying4 h8
  obtain ⟨valid, e9, _⟩ := DataW.trod_bool Try.underlying4 h9
  cases e0; cases e1; cases e2; cases e3; cases e4; cases e5; cases e6; cases e7; cases e8; cases e9
  exact ⟨⟨kind, nm, tb, a, m, c, l, is, to, od, ou, late, valid⟩, rfl, hs, hn, hin, wf8e w0, wf8e w6, wf8e w7, reach_of w1, reach_of w2, reach_of w5⟩
end
end Go.Proofs.Ytkipnkbmpgjcoaa
