/-
  expr.fold at types, expr.Type (stage 8): the type of an expression over columns.
-/
import Derived.Test.YtkipnkbmpgjcoaaTTyped
import Derived.Test.YtkipnkbmpgjcoaaEMayE
import Derived.Test.YtkipnkbmpgjcoaaERX
import Derived.LoopN
import Derived.Laws.EntriesVeiled
namespace Go.Proofs.Ytkipnkbmpgjcoaa
open Go.RowKit

def tys (l : List Col) : List Int := l.map (·.ty)

/-- The type of a Lit or a Col. -/
def leafT (l : List Int) (e : Ex) : Int := if e.op = 2 then l.getD e.m.toNat 0 else e.v.k

/-- The type of a valid expression. -/
def foldT (l : List Int) (e : Ex) : Int × Int := e.fold (leafT l) typedR 0

theorem foldT_eq (l : List Int) (e : Ex) : foldT l e =
    if arity e.op = 0 then (leafT l e, 0)
    else if (foldT l (e.kid 0)).2 ≠ 0 then foldT l (e.kid 0)
    else if arity e.op = 1 then typedR e.op (foldT l (e.kid 0)).1 0
    else if (foldT l (e.kid 1)).2 ≠ 0 then foldT l (e.kid 1)
    else typedR e.op (foldT l (e.kid 0)).1 (foldT l (e.kid 1)).1 := Ex.fold_eq _ _ _ _

/-- What the closures captured: the leaves' closure (and the columns' variable behind it), the closure itself, typed. -/
structure SfT (W : World) (gr gl gw ga : Nat) (a : Option Addr) (n c : Nat) : Prop where
  cr : W.cell? ⟨gr, 0, none⟩ = some (.slice a n c)
  cl : W.cell? ⟨gl, 0, none⟩ = some (.func (.func 81) #[] #[.pointer (some ⟨gr, 0, none⟩)])
  cw : W.cell? ⟨gw, 0, none⟩ = some (.func (.func 95) #[] #[.pointer (some ⟨gl, 0, none⟩), .pointer (some ⟨gw, 0, none⟩), .pointer (some ⟨ga, 0, none⟩)])
  ca : W.cell? ⟨ga, 0, none⟩ = some (.func (.func 82) #[] #[])
  lr : gr < W.heap.size
  ll : gl < W.heap.size
  lw : gw < W.heap.size
  la : ga < W.heap.size

theorem SfT.below {W W' : World} {gr gl gw ga : Nat} {a : Option Addr} {n c : Nat} (h : SfT W gr gl gw ga a n c) (hb : Below W.heap.size W W') : SfT W' gr gl gw ga a n c :=
  ⟨by rw [hb.cell h.lr]; exact h.cr, by rw [hb.cell h.ll]; exact h.cl, by rw [hb.cell h.lw]; exact h.cw, by rw [hb.cell h.la]; exact h.ca,
    Nat.lt_of_lt_of_le h.lr hb.size, Nat.lt_of_lt_of_le h.ll hb.size, Nat.lt_of_lt_of_le h.lw hb.size, Nat.lt_of_lt_of_le h.la hb.size⟩

theorem boxE' (w : World) (e : Ex) : ∃ W g, w.alloc (.cells #[.int .u8 e.op, .int .u8 e.v.k, .int .i64 e.v.n, .int .i64 e.v.u, .string e.v.t, .int .i64 e.m, .slice e.a e.len e.cap] 27) = W ∧ w.heap.size = g ∧ BoxE W g e ∧ Below w.heap.size w W :=
  ⟨_, _, rfl, rfl, BoxE.new w e, Below.allocs w _⟩

set_option maxRecDepth 100000 in
set_option maxHeartbeats 1000000 in
theorem leaft_lit (gr : Nat) (e : Ex) (w : World) (ho : e.op ≠ 2) :
    Calls Try.prog 81 #[.agg #[.int .u8 e.op, .int .u8 e.v.k, .int .i64 e.v.n, .int .i64 e.v.u, .string e.v.t, .int .i64 e.m, .slice e.a e.len e.cap], .pointer (some ⟨gr, 0, none⟩)] w fun x w' => x = .returned (.int .u8 e.v.k) ∧ Below w.heap.size w w' := by
  have o2 : (e.op == 2) = false := by simpa using ho
  clear ho
  go_enter Try.func81, Try.ntmps81
  go_wp2_with fail
  go_ret
  exact ⟨rfl, Below.allocs _ _⟩

set_option maxRecDepth 100000 in
set_option maxHeartbeats 1000000 in
theorem leaft_col (gr : Nat) (a : Option Addr) (n c : Nat) (l : List Col) (hn : l.length = n) (e : Ex) (w : World) (hgr : gr < w.heap.size) (hc : w.cell? ⟨gr, 0, none⟩ = some (.slice a n c)) (hin : SlC w a c l) (ho : e.op = 2) (k : Nat) (hk : e.m = (k : Int)) (x : Col) (hx : l[k]? = some x) :
    Calls Try.prog 81 #[.agg #[.int .u8 e.op, .int .u8 e.v.k, .int .i64 e.v.n, .int .i64 e.v.u, .string e.v.t, .int .i64 e.m, .slice e.a e.len e.cap], .pointer (some ⟨gr, 0, none⟩)] w fun r w' => r = .returned (.int .u8 x.ty) ∧ Below w.heap.size w w' := by
  have o2 : (e.op == 2) = true := by simpa using ho
  have hkn : k < n := by rw [← hn]; exact (List.getElem?_eq_some_iff.1 hx).1
  obtain ⟨b, o, rfl, hat⟩ := at_c hin hx
  obtain ⟨W, g, hW, hg, B, hb⟩ := boxE' w e
  have hcr : W.cell? ⟨gr, 0, none⟩ = some (.slice (some ⟨b, o, none⟩) n c) := by rw [hb.cell hgr, hc]
  have hat' := hat.below hb
  have hm : n ≤ 9223372036854775807 := by have := hin.lc; have := hin.cm; unfold maxLen at this; omega
  have HB := Lib.hid hb
  have HX := Lib.hid hx
  obtain ⟨a0, a1, a2, a3, a4, a5, a6⟩ := hat'
  obtain ⟨e0, e1, e2, e3, e4, e5, e6, e7⟩ := B
  rw [hk] at e5
  have HK := Lib.hid hk
  clear hb ho hat hin hc hx hk hn
  go_enter Try.func81, Try.ntmps81
  go_wp2_with fail
  go_ret
  first | exact ⟨rfl, HB.out⟩ | exact ⟨rfl, hg ▸ HB.out⟩

theorem leaft_is (gr : Nat) (a : Option Addr) (n c : Nat) (l : List Col) (hn : l.length = n) (e : Ex) (w : World) (hgr : gr < w.heap.size) (hc : w.cell? ⟨gr, 0, none⟩ = some (.slice a n c)) (hin : SlC w a c l) (hm : e.op = 2 → hasBelow n e.m = true) (v : Int) (hv : leafT (tys l) e = v) :
    Calls Try.prog 81 #[.agg #[.int .u8 e.op, .int .u8 e.v.k, .int .i64 e.v.n, .int .i64 e.v.u, .string e.v.t, .int .i64 e.m, .slice e.a e.len e.cap], .pointer (some ⟨gr, 0, none⟩)] w fun r w' => r = .returned (.int .u8 v) ∧ Below w.heap.size w w' := by
  subst hv
  by_cases ho : e.op = 2
  · have hb := hm ho
    simp only [hasBelow, Bool.and_eq_true, decide_eq_true_eq] at hb
    obtain ⟨x, hx⟩ := getC (l := l) (i := e.m.toNat) (by omega)
    have e1 : leafT (tys l) e = x.ty := by
      unfold leafT tys
      rw [if_pos ho, List.getD_eq_getElem?_getD, List.getElem?_map, hx]
      rfl
    rw [e1]
    exact leaft_col gr a n c l hn e w hgr hc hin ho e.m.toNat (by omega) x hx
  · have e1 : leafT (tys l) e = e.v.k := by unfold leafT; rw [if_neg ho]
    rw [e1]
    exact leaft_lit gr e w ho

/-- What a call of the closure answers for an expression, in whatever world to come. -/
def WorkT (W0 : World) (gl gw ga : Nat) (e : Ex) (v f : Int) : Prop :=
  ∀ W, Below W0.heap.size W0 W → Calls Try.prog 95 #[.agg #[.int .u8 e.op, .int .u8 e.v.k, .int .i64 e.v.n, .int .i64 e.v.u, .string e.v.t, .int .i64 e.m, .slice e.a e.len e.cap], .pointer (some ⟨gl, 0, none⟩), .pointer (some ⟨gw, 0, none⟩), .pointer (some ⟨ga, 0, none⟩)] W
    fun x W' => x = .returned (.tuple #[.int .u8 v, .int .i64 f]) ∧ Below W.heap.size W W'

set_option maxRecDepth 100000 in
set_option maxHeartbeats 1000000 in
theorem workt_leaf (W0 : World) (gr gl gw ga : Nat) (a : Option Addr) (n c : Nat) (l : List Col) (hn : l.length = n) (hsf : SfT W0 gr gl gw ga a n c) (hrin : SlC W0 a c l) (e : Ex) (ha : arity e.op = 0) (hm : e.op = 2 → hasBelow n e.m = true) (v : Int) (hv : leafT (tys l) e = v) :
    WorkT W0 gl gw ga e v 0 := by
  intro W hW0
  obtain ⟨W1, g, hW, hg, B, hb⟩ := boxE' W e
  have hsfW := hsf.below hW0
  have HSF := Lib.hid (hsfW.below hb)
  have HRIN := Lib.hid ((hrin.below hW0).below hb)
  have HM := Lib.hid hm
  have HV := Lib.hid hv
  have HN := Lib.hid hn
  have HA : Hid ((arity e.op : Int) = 0) := Lib.hid (by rw [ha]; rfl)
  have HB := Lib.hid hb
  have HG := Lib.hid hg
  obtain ⟨e0, e1, e2, e3, e4, e5, e6, e7⟩ := B
  obtain ⟨f0, f1, f2, f3, f4, f5, f6, f7⟩ := HSF.out
  clear hb hsf hrin hm hv ha hW0 hsfW hn
  go_enter Try.func95, Try.ntmps95
  go_wp2_with fail
  refine (arity_is e.op 0 HA.out _).mono ?_
  rintro x w2 ⟨rfl, rfl⟩
  go_wp2_with fail
  refine (leaft_is gr a n c l HN.out e _ HSF.out.lr HSF.out.cr HRIN.out HM.out v HV.out).mono ?_
  rintro x w2 ⟨rfl, hb2⟩
  have hw2 := Lib.hid (below_tr HB.out hb2)
  clear hb2 f0 f1 f2 f3 f4 f5 f6 f7 e0 e1 e2 e3 e4 e5 e6 e7 hW
  go_wp2_with fail
  go_ret2
  first | exact ⟨rfl, hw2.out⟩ | exact ⟨rfl, hg ▸ hw2.out⟩

/-- Two types in one block, which may be written. -/
structure ArrT (W : World) (g : Nat) (x y : Int) : Prop where
  c0 : W.cell? ⟨g, 0, none⟩ = some (.int .u8 x)
  c1 : W.cell? ⟨g, 1, none⟩ = some (.int .u8 y)
  f0 : W.frozen? ⟨g, 0, none⟩ = false
  f1 : W.frozen? ⟨g, 1, none⟩ = false
  lt : g < W.heap.size

theorem ArrT.below {W W' : World} {g : Nat} {x y : Int} (h : ArrT W g x y) (hb : Below W.heap.size W W') : ArrT W' g x y :=
  ⟨by rw [hb.cell h.lt]; exact h.c0, by rw [hb.cell h.lt]; exact h.c1, by rw [hb.frozen h.lt]; exact h.f0, by rw [hb.frozen h.lt]; exact h.f1, Nat.lt_of_lt_of_le h.lt hb.size⟩

theorem ArrT.new (w : World) : ArrT (w.alloc (.cells #[.int .u8 0, .int .u8 0] 126)) w.heap.size 0 0 := by
  refine ⟨?_, ?_, ?_, ?_, by simp⟩ <;> go_simp

theorem ArrT.set0 {W : World} {g : Nat} {x y : Int} (h : ArrT W g x y) (z : Int) : ArrT (W.setCell ⟨g, 0, none⟩ (.int .u8 z)) g z y := by
  obtain ⟨a0, a1, f0, f1, lt⟩ := h
  refine ⟨?_, ?_, ?_, ?_, by simpa [World.setCell] using lt⟩ <;> go_simp

theorem ArrT.set1 {W : World} {g : Nat} {x y : Int} (h : ArrT W g x y) (z : Int) : ArrT (W.setCell ⟨g, 1, none⟩ (.int .u8 z)) g x z := by
  obtain ⟨a0, a1, f0, f1, lt⟩ := h
  refine ⟨?_, ?_, ?_, ?_, by simpa [World.setCell] using lt⟩ <;> go_simp

/-- What holds while the closure works on the Args of an operation. -/
structure MidT (W0 W : World) (gr gl gw ga : Nat) (a : Option Addr) (n c : Nat) (g : Nat) (e : Ex) (x y : Int) (V : World) : Prop where
  hg : W.heap.size = g
  sf : SfT V gr gl gw ga a n c
  box : BoxE V g e
  arr : ArrT V (g + 1) x y
  bw : Below W.heap.size W V
  b0 : Below W0.heap.size W0 V

theorem MidT.below {W0 W V V' : World} {gr gl gw ga : Nat} {a : Option Addr} {n c : Nat} {g : Nat} {e : Ex} {x y : Int} (h : MidT W0 W gr gl gw ga a n c g e x y V) (hb : Below V.heap.size V V') : MidT W0 W gr gl gw ga a n c g e x y V' :=
  ⟨h.hg, h.sf.below hb, h.box.below hb, h.arr.below hb, below_tr h.bw hb, h.b0.trans (hb.mono h.b0.size)⟩

theorem MidT.set {W0 W V V' : World} {gr gl gw ga : Nat} {a : Option Addr} {n c : Nat} {g : Nat} {e : Ex} {x y x' y' : Int} (h : MidT W0 W gr gl gw ga a n c g e x y V) (hw : W0.heap.size ≤ W.heap.size) (hlt : gr < g ∧ gl < g ∧ gw < g ∧ ga < g) (hb : Below (g + 1) V V') (ha : ArrT V' (g + 1) x' y') : MidT W0 W gr gl gw ga a n c g e x' y' V' := by
  have hg := h.hg
  have hsz := hb.size
  have cc : ∀ k, k < g + 1 → V'.cell? ⟨k, 0, none⟩ = V.cell? ⟨k, 0, none⟩ := fun k hk => hb.cell hk
  obtain ⟨a1, a2, a3, a4⟩ := hlt
  refine ⟨hg, ⟨by rw [cc gr (by omega)]; exact h.sf.cr, by rw [cc gl (by omega)]; exact h.sf.cl, by rw [cc gw (by omega)]; exact h.sf.cw, by rw [cc ga (by omega)]; exact h.sf.ca, Nat.lt_of_lt_of_le h.sf.lr hsz, Nat.lt_of_lt_of_le h.sf.ll hsz, Nat.lt_of_lt_of_le h.sf.lw hsz, Nat.lt_of_lt_of_le h.sf.la hsz⟩, ?_, ha, h.bw.trans (hb.mono (by omega)), h.b0.trans (hb.mono (by omega))⟩
  obtain ⟨h0, h1, h2, h3, h4, h5, h6, h7⟩ := h.box
  have c2 : ∀ i, V'.cell? ⟨g, i, none⟩ = V.cell? ⟨g, i, none⟩ := fun i => hb.cell (p := ⟨g, i, none⟩) (by show g < g + 1; omega)
  exact ⟨by rw [c2]; exact h0, by rw [c2]; exact h1, by rw [c2]; exact h2, by rw [c2]; exact h3, by rw [c2]; exact h4, by rw [c2]; exact h5, by rw [c2]; exact h6, Nat.lt_of_lt_of_le h7 hsz⟩

set_option maxRecDepth 100000 in
set_option maxHeartbeats 4000000 in
theorem workt_two (W0 : World) (gr gl gw ga : Nat) (a : Option Addr) (n c : Nat) (hsf : SfT W0 gr gl gw ga a n c) (e : Ex) (hin : e.In W0) (ha : arity e.op = 2) (hl : e.len = 2) (x y : Int) (hx : WorkT W0 gl gw ga (e.kid 0) x 0) (hy : WorkT W0 gl gw ga (e.kid 1) y 0)
    (z zf : Int) (hz : typedR e.op x y = (z, zf)) : WorkT W0 gl gw ga e z zf := by
  intro W hW0
  obtain ⟨W1, g, hW, hg, B, hb⟩ := boxE' W e
  have hs : W1.heap.size = g + 1 := by rw [← hW, ← hg]; simp
  obtain ⟨W2, hW2⟩ : ∃ W2, W1.alloc (.cells #[.int .u8 0, .int .u8 0] 126) = W2 := ⟨_, rfl⟩
  have A := ArrT.new W1
  have hbA := Below.allocs W1 (.cells #[.int .u8 0, .int .u8 0] 126)
  rw [hs, hW2] at A
  rw [hW2] at hbA
  have hb2 := below_tr hb hbA
  have hb02 := hW0.trans (hb2.mono hW0.size)
  have HLT : Hid (gr < g ∧ gl < g ∧ gw < g ∧ ga < g) := Lib.hid (by have := hsf.lr; have := hsf.ll; have := hsf.lw; have := hsf.la; have := hW0.size; omega)
  have HWW := Lib.hid hW0.size
  have HM0 : Hid (MidT W0 W gr gl gw ga a n c g e 0 0 W2) := Lib.hid ⟨hg, ((hsf.below hW0).below hb).below hbA, B.below hbA, A, hb2, hb02⟩
  obtain ⟨b, o, hea, hat⟩ := hin.args (by omega)
  have HAT := Lib.hid hat
  obtain ⟨p, hp0⟩ : ∃ p, e.kid 0 = p := ⟨_, rfl⟩
  have hk0 := hat 0 (by omega)
  rw [hp0] at hx hk0
  rw [show o + 0 * 7 = o by omega] at hk0
  have HK0 := Lib.hid hk0
  have HX := Lib.hid hx
  obtain ⟨q, hp1⟩ : ∃ p, e.kid 1 = p := ⟨_, rfl⟩
  have hk1 := hat 1 (by omega)
  rw [hp1] at hy hk1
  rw [show o + 1 * 7 = o + 7 by omega] at hk1
  have HK1 := Lib.hid hk1
  have HY := Lib.hid hy
  have HA : Hid ((arity e.op : Int) = 2) := Lib.hid (by rw [ha]; rfl)
  have HA' := Lib.hid ha
  have HGG := Lib.hid hg
  have HZ := Lib.hid hz
  have h3 : 3 ≤ e.op ∧ e.op ≤ 13 := by unfold arity at ha; split at ha; omega; split at ha; omega; omega
  have H3 := Lib.hid h3
  obtain ⟨e0, e1, e2, e3, e4, e5, e6, e7⟩ := B
  obtain ⟨d0, d1, d2, d3, d4, d5, d6, d7⟩ := HM0.out.box
  rw [hl, hea] at e6 d6
  clear hb hsf hin ha hl hea hW0 hat hk0 hp0 hk1 hp1 hb2 hb02 hbA A hx hy hz h3
  go_enter Try.func95, Try.ntmps95
  go_wp2_with fail
  refine (arity_is e.op 2 HA.out _).mono ?_
  rintro x w2 ⟨rfl, rfl⟩
  clear e0 e1 e2 e3 e4 e5 e6 e7
  go_wp2_with fail
  refine wp_loop_rounds 3 ?_
  rw [rounds_succ]
  obtain ⟨A0, m0, hA0, hm0, BA0, hbA0⟩ := boxE' W2 p
  have HMA0 := Lib.hid (HM0.out.below hbA0)
  obtain ⟨k0, k1, k2, k3, k4, k5, k6, k7⟩ := HK0.out.below HM0.out.b0
  obtain ⟨l0, l1, l2, l3, l4, l5, l6, l7⟩ := BA0
  have hcw := HMA0.out.sf.cw
  clear hbA0
  go_wp2_with fail
  refine (HX.out A0 HMA0.out.b0).mono ?_
  rintro _ U0 ⟨rfl, hbU0⟩
  have HMU0 := Lib.hid (HMA0.out.below hbU0)
  clear k0 k1 k2 k3 k4 k5 k6 k7 l0 l1 l2 l3 l4 l5 l6 l7 hcw hbU0 hA0
  obtain ⟨a0, a1, f0, f1, a8⟩ := HMU0.out.arr
  obtain ⟨Z0, hZ0⟩ : ∃ Z, U0.setCell ⟨g + 1, 0, none⟩ (.int .u8 x) = Z := ⟨_, rfl⟩
  have HM1 : Hid (MidT W0 W gr gl gw ga a n c g e x 0 Z0) := Lib.hid (HMU0.out.set HWW.out HLT.out (by rw [← hZ0]; exact (Below.refl _ _).setCell (by exact Nat.le_refl _) _) (by rw [← hZ0]; exact HMU0.out.arr.set0 x))
  obtain ⟨d0, d1, d2, d3, d4, d5, d6, d7⟩ := HM1.out.box
  go_wp2_with fail
  clear a0 a1 a8 f0 f1 hZ0
  rw [rounds_succ]
  obtain ⟨A1, m1, hA1, hm1, BA1, hbA1⟩ := boxE' Z0 q
  have HMA1 := Lib.hid (HM1.out.below hbA1)
  obtain ⟨k0, k1, k2, k3, k4, k5, k6, k7⟩ := HK1.out.below HM1.out.b0
  obtain ⟨l0, l1, l2, l3, l4, l5, l6, l7⟩ := BA1
  have hcw := HMA1.out.sf.cw
  clear hbA1
  go_wp2_with fail
  refine (HY.out A1 HMA1.out.b0).mono ?_
  rintro _ U1 ⟨rfl, hbU1⟩
  have HMU1 := Lib.hid (HMA1.out.below hbU1)
  clear k0 k1 k2 k3 k4 k5 k6 k7 l0 l1 l2 l3 l4 l5 l6 l7 hcw hbU1 hA1
  obtain ⟨a0, a1, f0, f1, a8⟩ := HMU1.out.arr
  obtain ⟨Z1, hZ1⟩ : ∃ Z, U1.setCell ⟨g + 1, 1, none⟩ (.int .u8 y) = Z := ⟨_, rfl⟩
  have HM2 : Hid (MidT W0 W gr gl gw ga a n c g e x y Z1) := Lib.hid (HMU1.out.set HWW.out HLT.out (by rw [← hZ1]; exact (Below.refl _ _).setCell (by exact Nat.le_refl _) _) (by rw [← hZ1]; exact HMU1.out.arr.set1 y))
  obtain ⟨d0, d1, d2, d3, d4, d5, d6, d7⟩ := HM2.out.box
  go_wp2_with fail
  clear a0 a1 a8 f0 f1 hZ1
  rw [rounds_succ]
  have hca := HM2.out.sf.ca
  obtain ⟨a0, a1, f0, f1, a8⟩ := HM2.out.arr
  go_wp2_with fail
  refine (typed_is e.op x y z zf H3.out.1 H3.out.2 HZ.out _).mono ?_
  rintro _ U ⟨rfl, hbU⟩
  have HM := Lib.hid (HM2.out.below hbU)
  clear hbU hca a0 a1 a8 f0 f1
  go_wp2_with fail
  go_ret2
  first | exact ⟨rfl, HM.out.bw⟩ | exact ⟨rfl, HGG.out ▸ HM.out.bw⟩

set_option maxRecDepth 100000 in
set_option maxHeartbeats 4000000 in
theorem workt_two0 (W0 : World) (gr gl gw ga : Nat) (a : Option Addr) (n c : Nat) (hsf : SfT W0 gr gl gw ga a n c) (e : Ex) (hin : e.In W0) (ha : arity e.op = 2) (hl : e.len = 2) (x f : Int) (hx : WorkT W0 gl gw ga (e.kid 0) x f)
    (hf : f ≠ 0) : WorkT W0 gl gw ga e x f := by
  intro W hW0
  obtain ⟨W1, g, hW, hg, B, hb⟩ := boxE' W e
  have hs : W1.heap.size = g + 1 := by rw [← hW, ← hg]; simp
  obtain ⟨W2, hW2⟩ : ∃ W2, W1.alloc (.cells #[.int .u8 0, .int .u8 0] 126) = W2 := ⟨_, rfl⟩
  have A := ArrT.new W1
  have hbA := Below.allocs W1 (.cells #[.int .u8 0, .int .u8 0] 126)
  rw [hs, hW2] at A
  rw [hW2] at hbA
  have hb2 := below_tr hb hbA
  have hb02 := hW0.trans (hb2.mono hW0.size)
  have HLT : Hid (gr < g ∧ gl < g ∧ gw < g ∧ ga < g) := Lib.hid (by have := hsf.lr; have := hsf.ll; have := hsf.lw; have := hsf.la; have := hW0.size; omega)
  have HWW := Lib.hid hW0.size
  have HM0 : Hid (MidT W0 W gr gl gw ga a n c g e 0 0 W2) := Lib.hid ⟨hg, ((hsf.below hW0).below hb).below hbA, B.below hbA, A, hb2, hb02⟩
  obtain ⟨b, o, hea, hat⟩ := hin.args (by omega)
  have HAT := Lib.hid hat
  obtain ⟨p, hp0⟩ : ∃ p, e.kid 0 = p := ⟨_, rfl⟩
  have hk0 := hat 0 (by omega)
  rw [hp0] at hx hk0
  rw [show o + 0 * 7 = o by omega] at hk0
  have HK0 := Lib.hid hk0
  have HX := Lib.hid hx
  have HA : Hid ((arity e.op : Int) = 2) := Lib.hid (by rw [ha]; rfl)
  have HA' := Lib.hid ha
  have HGG := Lib.hid hg
  have hfb : (f != 0) = true := by simpa using hf
  obtain ⟨e0, e1, e2, e3, e4, e5, e6, e7⟩ := B
  obtain ⟨d0, d1, d2, d3, d4, d5, d6, d7⟩ := HM0.out.box
  rw [hl, hea] at e6 d6
  clear hb hsf hin ha hl hea hW0 hat hk0 hp0 hb2 hb02 hbA A hx hf
  go_enter Try.func95, Try.ntmps95
  go_wp2_with fail
  refine (arity_is e.op 2 HA.out _).mono ?_
  rintro x w2 ⟨rfl, rfl⟩
  clear e0 e1 e2 e3 e4 e5 e6 e7
  go_wp2_with fail
  refine wp_loop_rounds 3 ?_
  rw [rounds_succ]
  obtain ⟨A0, m0, hA0, hm0, BA0, hbA0⟩ := boxE' W2 p
  have HMA0 := Lib.hid (HM0.out.below hbA0)
  obtain ⟨k0, k1, k2, k3, k4, k5, k6, k7⟩ := HK0.out.below HM0.out.b0
  obtain ⟨l0, l1, l2, l3, l4, l5, l6, l7⟩ := BA0
  have hcw := HMA0.out.sf.cw
  clear hbA0
  go_wp2_with fail
  refine (HX.out A0 HMA0.out.b0).mono ?_
  rintro _ U0 ⟨rfl, hbU0⟩
  have HMU0 := Lib.hid (HMA0.out.below hbU0)
  clear k0 k1 k2 k3 k4 k5 k6 k7 l0 l1 l2 l3 l4 l5 l6 l7 hcw hbU0 hA0
  go_wp2_with fail
  go_ret2
  first | exact ⟨rfl, HMU0.out.bw⟩ | exact ⟨rfl, HGG.out ▸ HMU0.out.bw⟩

set_option maxRecDepth 100000 in
set_option maxHeartbeats 4000000 in
theorem workt_two1 (W0 : World) (gr gl gw ga : Nat) (a : Option Addr) (n c : Nat) (hsf : SfT W0 gr gl gw ga a n c) (e : Ex) (hin : e.In W0) (ha : arity e.op = 2) (hl : e.len = 2) (x y f : Int) (hx : WorkT W0 gl gw ga (e.kid 0) x 0) (hy : WorkT W0 gl gw ga (e.kid 1) y f)
    (hf : f ≠ 0) : WorkT W0 gl gw ga e y f := by
  intro W hW0
  obtain ⟨W1, g, hW, hg, B, hb⟩ := boxE' W e
  have hs : W1.heap.size = g + 1 := by rw [← hW, ← hg]; simp
  obtain ⟨W2, hW2⟩ : ∃ W2, W1.alloc (.cells #[.int .u8 0, .int .u8 0] 126) = W2 := ⟨_, rfl⟩
  have A := ArrT.new W1
  have hbA := Below.allocs W1 (.cells #[.int .u8 0, .int .u8 0] 126)
  rw [hs, hW2] at A
  rw [hW2] at hbA
  have hb2 := below_tr hb hbA
  have hb02 := hW0.trans (hb2.mono hW0.size)
  have HLT : Hid (gr < g ∧ gl < g ∧ gw < g ∧ ga < g) := Lib.hid (by have := hsf.lr; have := hsf.ll; have := hsf.lw; have := hsf.la; have := hW0.size; omega)
  have HWW := Lib.hid hW0.size
  have HM0 : Hid (MidT W0 W gr gl gw ga a n c g e 0 0 W2) := Lib.hid ⟨hg, ((hsf.below hW0).below hb).below hbA, B.below hbA, A, hb2, hb02⟩
  obtain ⟨b, o, hea, hat⟩ := hin.args (by omega)
  have HAT := Lib.hid hat
  obtain ⟨p, hp0⟩ : ∃ p, e.kid 0 = p := ⟨_, rfl⟩
  have hk0 := hat 0 (by omega)
  rw [hp0] at hx hk0
  rw [show o + 0 * 7 = o by omega] at hk0
  have HK0 := Lib.hid hk0
  have HX := Lib.hid hx
  obtain ⟨q, hp1⟩ : ∃ p, e.kid 1 = p := ⟨_, rfl⟩
  have hk1 := hat 1 (by omega)
  rw [hp1] at hy hk1
  rw [show o + 1 * 7 = o + 7 by omega] at hk1
  have HK1 := Lib.hid hk1
  have HY := Lib.hid hy
  have HA : Hid ((arity e.op : Int) = 2) := Lib.hid (by rw [ha]; rfl)
  have HA' := Lib.hid ha
  have HGG := Lib.hid hg
  have hfb : (f != 0) = true := by simpa using hf
  obtain ⟨e0, e1, e2, e3, e4, e5, e6, e7⟩ := B
  obtain ⟨d0, d1, d2, d3, d4, d5, d6, d7⟩ := HM0.out.box
  rw [hl, hea] at e6 d6
  clear hb hsf hin ha hl hea hW0 hat hk0 hp0 hk1 hp1 hb2 hb02 hbA A hx hy hf
  go_enter Try.func95, Try.ntmps95
  go_wp2_with fail
  refine (arity_is e.op 2 HA.out _).mono ?_
  rintro x w2 ⟨rfl, rfl⟩
  clear e0 e1 e2 e3 e4 e5 e6 e7
  go_wp2_with fail
  refine wp_loop_rounds 3 ?_
  rw [rounds_succ]
  obtain ⟨A0, m0, hA0, hm0, BA0, hbA0⟩ := boxE' W2 p
  have HMA0 := Lib.hid (HM0.out.below hbA0)
  obtain ⟨k0, k1, k2, k3, k4, k5, k6, k7⟩ := HK0.out.below HM0.out.b0
  obtain ⟨l0, l1, l2, l3, l4, l5, l6, l7⟩ := BA0
  have hcw := HMA0.out.sf.cw
  clear hbA0
  go_wp2_with fail
  refine (HX.out A0 HMA0.out.b0).mono ?_
  rintro _ U0 ⟨rfl, hbU0⟩
  have HMU0 := Lib.hid (HMA0.out.below hbU0)
  clear k0 k1 k2 k3 k4 k5 k6 k7 l0 l1 l2 l3 l4 l5 l6 l7 hcw hbU0 hA0
  obtain ⟨a0, a1, f0, f1, a8⟩ := HMU0.out.arr
  obtain ⟨Z0, hZ0⟩ : ∃ Z, U0.setCell ⟨g + 1, 0, none⟩ (.int .u8 x) = Z := ⟨_, rfl⟩
  have HM1 : Hid (MidT W0 W gr gl gw ga a n c g e x 0 Z0) := Lib.hid (HMU0.out.set HWW.out HLT.out (by rw [← hZ0]; exact (Below.refl _ _).setCell (by exact Nat.le_refl _) _) (by rw [← hZ0]; exact HMU0.out.arr.set0 x))
  obtain ⟨d0, d1, d2, d3, d4, d5, d6, d7⟩ := HM1.out.box
  go_wp2_with fail
  clear a0 a1 a8 f0 f1 hZ0
  rw [rounds_succ]
  obtain ⟨A1, m1, hA1, hm1, BA1, hbA1⟩ := boxE' Z0 q
  have HMA1 := Lib.hid (HM1.out.below hbA1)
  obtain ⟨k0, k1, k2, k3, k4, k5, k6, k7⟩ := HK1.out.below HM1.out.b0
  obtain ⟨l0, l1, l2, l3, l4, l5, l6, l7⟩ := BA1
  have hcw := HMA1.out.sf.cw
  clear hbA1
  go_wp2_with fail
  refine (HY.out A1 HMA1.out.b0).mono ?_
  rintro _ U1 ⟨rfl, hbU1⟩
  have HMU1 := Lib.hid (HMA1.out.below hbU1)
  clear k0 k1 k2 k3 k4 k5 k6 k7 l0 l1 l2 l3 l4 l5 l6 l7 hcw hbU1 hA1
  go_wp2_with fail
  go_ret2
  first | exact ⟨rfl, HMU1.out.bw⟩ | exact ⟨rfl, HGG.out ▸ HMU1.out.bw⟩

set_option maxRecDepth 100000 in
set_option maxHeartbeats 4000000 in
theorem workt_one (W0 : World) (gr gl gw ga : Nat) (a : Option Addr) (n c : Nat) (hsf : SfT W0 gr gl gw ga a n c) (e : Ex) (hin : e.In W0) (ha : arity e.op = 1) (hl : e.len = 1) (x : Int) (hx : WorkT W0 gl gw ga (e.kid 0) x 0)
    (z zf : Int) (hz : typedR e.op x 0 = (z, zf)) : WorkT W0 gl gw ga e z zf := by
  intro W hW0
  obtain ⟨W1, g, hW, hg, B, hb⟩ := boxE' W e
  have hs : W1.heap.size = g + 1 := by rw [← hW, ← hg]; simp
  obtain ⟨W2, hW2⟩ : ∃ W2, W1.alloc (.cells #[.int .u8 0, .int .u8 0] 126) = W2 := ⟨_, rfl⟩
  have A := ArrT.new W1
  have hbA := Below.allocs W1 (.cells #[.int .u8 0, .int .u8 0] 126)
  rw [hs, hW2] at A
  rw [hW2] at hbA
  have hb2 := below_tr hb hbA
  have hb02 := hW0.trans (hb2.mono hW0.size)
  have HLT : Hid (gr < g ∧ gl < g ∧ gw < g ∧ ga < g) := Lib.hid (by have := hsf.lr; have := hsf.ll; have := hsf.lw; have := hsf.la; have := hW0.size; omega)
  have HWW := Lib.hid hW0.size
  have HM0 : Hid (MidT W0 W gr gl gw ga a n c g e 0 0 W2) := Lib.hid ⟨hg, ((hsf.below hW0).below hb).below hbA, B.below hbA, A, hb2, hb02⟩
  obtain ⟨b, o, hea, hat⟩ := hin.args (by omega)
  have HAT := Lib.hid hat
  obtain ⟨p, hp0⟩ : ∃ p, e.kid 0 = p := ⟨_, rfl⟩
  have hk0 := hat 0 (by omega)
  rw [hp0] at hx hk0
  rw [show o + 0 * 7 = o by omega] at hk0
  have HK0 := Lib.hid hk0
  have HX := Lib.hid hx
  have HA : Hid ((arity e.op : Int) = 1) := Lib.hid (by rw [ha]; rfl)
  have HA' := Lib.hid ha
  have HGG := Lib.hid hg
  have HZ := Lib.hid hz
  have h3 : 3 ≤ e.op ∧ e.op ≤ 13 := by unfold arity at ha; split at ha; omega; split at ha; omega; omega
  have H3 := Lib.hid h3
  obtain ⟨e0, e1, e2, e3, e4, e5, e6, e7⟩ := B
  obtain ⟨d0, d1, d2, d3, d4, d5, d6, d7⟩ := HM0.out.box
  rw [hl, hea] at e6 d6
  clear hb hsf hin ha hl hea hW0 hat hk0 hp0 hb2 hb02 hbA A hx hz h3
  go_enter Try.func95, Try.ntmps95
  go_wp2_with fail
  refine (arity_is e.op 1 HA.out _).mono ?_
  rintro x w2 ⟨rfl, rfl⟩
  clear e0 e1 e2 e3 e4 e5 e6 e7
  go_wp2_with fail
  refine wp_loop_rounds 2 ?_
  rw [rounds_succ]
  obtain ⟨A0, m0, hA0, hm0, BA0, hbA0⟩ := boxE' W2 p
  have HMA0 := Lib.hid (HM0.out.below hbA0)
  obtain ⟨k0, k1, k2, k3, k4, k5, k6, k7⟩ := HK0.out.below HM0.out.b0
  obtain ⟨l0, l1, l2, l3, l4, l5, l6, l7⟩ := BA0
  have hcw := HMA0.out.sf.cw
  clear hbA0
  go_wp2_with fail
  refine (HX.out A0 HMA0.out.b0).mono ?_
  rintro _ U0 ⟨rfl, hbU0⟩
  have HMU0 := Lib.hid (HMA0.out.below hbU0)
  clear k0 k1 k2 k3 k4 k5 k6 k7 l0 l1 l2 l3 l4 l5 l6 l7 hcw hbU0 hA0
  obtain ⟨a0, a1, f0, f1, a8⟩ := HMU0.out.arr
  obtain ⟨Z0, hZ0⟩ : ∃ Z, U0.setCell ⟨g + 1, 0, none⟩ (.int .u8 x) = Z := ⟨_, rfl⟩
  have HM1 : Hid (MidT W0 W gr gl gw ga a n c g e x 0 Z0) := Lib.hid (HMU0.out.set HWW.out HLT.out (by rw [← hZ0]; exact (Below.refl _ _).setCell (by exact Nat.le_refl _) _) (by rw [← hZ0]; exact HMU0.out.arr.set0 x))
  obtain ⟨d0, d1, d2, d3, d4, d5, d6, d7⟩ := HM1.out.box
  go_wp2_with fail
  clear a0 a1 a8 f0 f1 hZ0
  rw [rounds_succ]
  have hca := HM1.out.sf.ca
  obtain ⟨a0, a1, f0, f1, a8⟩ := HM1.out.arr
  go_wp2_with fail
  refine (typed_is e.op x 0 z zf H3.out.1 H3.out.2 HZ.out _).mono ?_
  rintro _ U ⟨rfl, hbU⟩
  have HM := Lib.hid (HM1.out.below hbU)
  clear hbU hca a0 a1 a8 f0 f1
  go_wp2_with fail
  go_ret2
  first | exact ⟨rfl, HM.out.bw⟩ | exact ⟨rfl, HGG.out ▸ HM.out.bw⟩

set_option maxRecDepth 100000 in
set_option maxHeartbeats 4000000 in
theorem workt_one0 (W0 : World) (gr gl gw ga : Nat) (a : Option Addr) (n c : Nat) (hsf : SfT W0 gr gl gw ga a n c) (e : Ex) (hin : e.In W0) (ha : arity e.op = 1) (hl : e.len = 1) (x f : Int) (hx : WorkT W0 gl gw ga (e.kid 0) x f)
    (hf : f ≠ 0) : WorkT W0 gl gw ga e x f := by
  intro W hW0
  obtain ⟨W1, g, hW, hg, B, hb⟩ := boxE' W e
  have hs : W1.heap.size = g + 1 := by rw [← hW, ← hg]; simp
  obtain ⟨W2, hW2⟩ : ∃ W2, W1.alloc (.cells #[.int .u8 0, .int .u8 0] 126) = W2 := ⟨_, rfl⟩
  have A := ArrT.new W1
  have hbA := Below.allocs W1 (.cells #[.int .u8 0, .int .u8 0] 126)
  rw [hs, hW2] at A
  rw [hW2] at hbA
  have hb2 := below_tr hb hbA
  have hb02 := hW0.trans (hb2.mono hW0.size)
  have HLT : Hid (gr < g ∧ gl < g ∧ gw < g ∧ ga < g) := Lib.hid (by have := hsf.lr; have := hsf.ll; have := hsf.lw; have := hsf.la; have := hW0.size; omega)
  have HWW := Lib.hid hW0.size
  have HM0 : Hid (MidT W0 W gr gl gw ga a n c g e 0 0 W2) := Lib.hid ⟨hg, ((hsf.below hW0).below hb).below hbA, B.below hbA, A, hb2, hb02⟩
  obtain ⟨b, o, hea, hat⟩ := hin.args (by omega)
  have HAT := Lib.hid hat
  obtain ⟨p, hp0⟩ : ∃ p, e.kid 0 = p := ⟨_, rfl⟩
  have hk0 := hat 0 (by omega)
  rw [hp0] at hx hk0
  rw [show o + 0 * 7 = o by omega] at hk0
  have HK0 := Lib.hid hk0
  have HX := Lib.hid hx
  have HA : Hid ((arity e.op : Int) = 1) := Lib.hid (by rw [ha]; rfl)
  have HA' := Lib.hid ha
  have HGG := Lib.hid hg
  have hfb : (f != 0) = true := by simpa using hf
  obtain ⟨e0, e1, e2, e3, e4, e5, e6, e7⟩ := B
  obtain ⟨d0, d1, d2, d3, d4, d5, d6, d7⟩ := HM0.out.box
  rw [hl, hea] at e6 d6
  clear hb hsf hin ha hl hea hW0 hat hk0 hp0 hb2 hb02 hbA A hx hf
  go_enter Try.func95, Try.ntmps95
  go_wp2_with fail
  refine (arity_is e.op 1 HA.out _).mono ?_
  rintro x w2 ⟨rfl, rfl⟩
  clear e0 e1 e2 e3 e4 e5 e6 e7
  go_wp2_with fail
  refine wp_loop_rounds 2 ?_
  rw [rounds_succ]
  obtain ⟨A0, m0, hA0, hm0, BA0, hbA0⟩ := boxE' W2 p
  have HMA0 := Lib.hid (HM0.out.below hbA0)
  obtain ⟨k0, k1, k2, k3, k4, k5, k6, k7⟩ := HK0.out.below HM0.out.b0
  obtain ⟨l0, l1, l2, l3, l4, l5, l6, l7⟩ := BA0
  have hcw := HMA0.out.sf.cw
  clear hbA0
  go_wp2_with fail
  refine (HX.out A0 HMA0.out.b0).mono ?_
  rintro _ U0 ⟨rfl, hbU0⟩
  have HMU0 := Lib.hid (HMA0.out.below hbU0)
  clear k0 k1 k2 k3 k4 k5 k6 k7 l0 l1 l2 l3 l4 l5 l6 l7 hcw hbU0 hA0
  go_wp2_with fail
  go_ret2
  first | exact ⟨rfl, HMU0.out.bw⟩ | exact ⟨rfl, HGG.out ▸ HMU0.out.bw⟩

/-- What the closure answers is the expression's type. -/
theorem workt_is (W0 : World) (gr gl gw ga : Nat) (a : Option Addr) (n c : Nat) (l : List Col) (hn : l.length = n) (hsf : SfT W0 gr gl gw ga a n c) (hrin : SlC W0 a c l) : ∀ (e : Ex), okB mayV (hasBelow n) e = true → e.In W0 → WorkT W0 gl gw ga e (foldT (tys l) e).1 (foldT (tys l) e).2 := by
  intro e
  induction e using Ex.ind with
  | h e ih =>
    intro hok hin
    have hok2 := hok
    unfold okB at hok2
    rw [Ex.allB_eq, Bool.and_eq_true, allTo_iff] at hok2
    obtain ⟨hf, hk⟩ := hok2
    unfold formedB at hf
    rw [Bool.and_eq_true, decide_eq_true_eq] at hf
    obtain ⟨hl, hf⟩ := hf
    have ihk := fun i (hi : i < e.len) => ih i hi (hk i hi) (hin.kid' hi)
    have a2 := arity_le e.op
    by_cases h0 : arity e.op = 0
    · have e1 : foldT (tys l) e = (leafT (tys l) e, 0) := by rw [foldT_eq, if_pos h0]
      rw [e1]
      refine workt_leaf W0 gr gl gw ga a n c l hn hsf hrin e h0 (fun h2 => ?_) _ rfl
      rw [if_neg (by omega), if_pos h2, Bool.and_eq_true] at hf
      exact hf.2
    · have k0 := ihk 0 (by omega)
      by_cases f0 : (foldT (tys l) (e.kid 0)).2 = 0
      · rw [f0] at k0
        by_cases h1 : arity e.op = 1
        · have e1 : foldT (tys l) e = typedR e.op (foldT (tys l) (e.kid 0)).1 0 := by
            rw [foldT_eq, if_neg h0, if_neg (fun h => h f0), if_pos h1]
          rw [e1]
          exact workt_one W0 gr gl gw ga a n c hsf e hin h1 (by omega) _ k0 _ _ rfl
        · have h2 : arity e.op = 2 := by omega
          have k1 := ihk 1 (by omega)
          by_cases f1 : (foldT (tys l) (e.kid 1)).2 = 0
          · rw [f1] at k1
            have e1 : foldT (tys l) e = typedR e.op (foldT (tys l) (e.kid 0)).1 (foldT (tys l) (e.kid 1)).1 := by
              rw [foldT_eq, if_neg h0, if_neg (fun h => h f0), if_neg h1, if_neg (fun h => h f1)]
            rw [e1]
            exact workt_two W0 gr gl gw ga a n c hsf e hin h2 (by omega) _ _ k0 k1 _ _ rfl
          · have e1 : foldT (tys l) e = foldT (tys l) (e.kid 1) := by
              rw [foldT_eq, if_neg h0, if_neg (fun h => h f0), if_neg h1, if_pos f1]
            rw [e1]
            exact workt_two1 W0 gr gl gw ga a n c hsf e hin h2 (by omega) _ _ _ k0 k1 f1
      · have e1 : foldT (tys l) e = foldT (tys l) (e.kid 0) := by
          rw [foldT_eq, if_neg h0, if_pos f0]
        rw [e1]
        by_cases h1 : arity e.op = 1
        · exact workt_one0 W0 gr gl gw ga a n c hsf e hin h1 (by omega) _ _ k0 f0
        · exact workt_two0 W0 gr gl gw ga a n c hsf e hin (by omega) (by omega) _ _ k0 f0

/-- The world in which expr.fold calls its closure. -/
theorem foldt_world (W : World) (n gr : Nat) (hn : W.heap.size = n) (a : Option Addr) (m c : Nat) (hr : gr < n) (hc : W.cell? ⟨gr, 0, none⟩ = some (.slice a m c)) (e : Ex) : ∃ V1 V2,
    ((W.alloc (.cells #[.int .u8 e.op, .int .u8 e.v.k, .int .i64 e.v.n, .int .i64 e.v.u, .string e.v.t, .int .i64 e.m, .slice e.a e.len e.cap] 27)).alloc (.cells #[.func (.func 81) #[] #[.pointer (some ⟨gr, 0, none⟩)]] 116)).alloc (.cells #[.func (.func 82) #[] #[]] 117) = V1 ∧
    V1.alloc (.cells #[.func (.func 95) #[] #[.pointer (some ⟨n + 1, 0, none⟩), .pointer (some ⟨n + 1 + 1 + 1, 0, none⟩), .pointer (some ⟨n + 1 + 1, 0, none⟩)]] 124) = V2 ∧
    V1.heap.size = n + 1 + 1 + 1 ∧ SfT V2 gr (n + 1) (n + 1 + 1 + 1) (n + 1 + 1) a m c ∧ Below W.heap.size W V2 ∧ BoxE V2 n e := by
  subst hn
  have hb : Below W.heap.size W ((((W.alloc (.cells #[.int .u8 e.op, .int .u8 e.v.k, .int .i64 e.v.n, .int .i64 e.v.u, .string e.v.t, .int .i64 e.m, .slice e.a e.len e.cap] 27)).alloc (.cells #[.func (.func 81) #[] #[.pointer (some ⟨gr, 0, none⟩)]] 116)).alloc (.cells #[.func (.func 82) #[] #[]] 117)).alloc (.cells #[.func (.func 95) #[] #[.pointer (some ⟨W.heap.size + 1, 0, none⟩), .pointer (some ⟨W.heap.size + 1 + 1 + 1, 0, none⟩), .pointer (some ⟨W.heap.size + 1 + 1, 0, none⟩)]] 124)) :=
    ((((Below.refl _ W).alloc (Nat.le_refl _) _).alloc (by simp) _).alloc (by simp <;> omega) _).alloc (by simp <;> omega) _
  refine ⟨_, _, rfl, rfl, by simp, ⟨by rw [hb.cell hr]; exact hc, ?_, ?_, ?_, by simp <;> omega, by simp <;> omega, by simp, by simp <;> omega⟩, hb, ⟨?_, ?_, ?_, ?_, ?_, ?_, ?_, by simp <;> omega⟩⟩ <;> go_simp

set_option maxRecDepth 100000 in
set_option maxHeartbeats 2000000 in
theorem foldt_is (e : Ex) (gr : Nat) (a : Option Addr) (m c : Nat) (l : List Col) (hl : l.length = m) (w : World) (hgr : gr < w.heap.size) (hc : w.cell? ⟨gr, 0, none⟩ = some (.slice a m c)) (hrin : SlC w a c l) (hok : okB mayV (hasBelow m) e = true) (hin : e.In w) (v f : Int) (hv : foldT (tys l) e = (v, f)) :
    Calls Try.prog 80 #[.agg #[.int .u8 e.op, .int .u8 e.v.k, .int .i64 e.v.n, .int .i64 e.v.u, .string e.v.t, .int .i64 e.m, .slice e.a e.len e.cap], .func (.func 81) #[] #[.pointer (some ⟨gr, 0, none⟩)], .func (.func 82) #[] #[]] w fun x w' => x = .returned (.tuple #[.int .u8 v, .int .i64 f]) ∧ Below w.heap.size w w' := by
  obtain ⟨n, hn⟩ : ∃ n, w.heap.size = n := ⟨_, rfl⟩
  obtain ⟨V1, V2, hV1, hV2, hs, hsf, hb, hE⟩ := foldt_world w n gr hn a m c (by omega) hc e
  have HC := workt_is V2 gr _ _ _ a m c l hl hsf (hrin.below hb) e hok (hin.below hb) V2 (Below.refl _ _)
  rw [hv] at HC
  have HCC := Lib.hid HC
  have HB := Lib.hid hb
  have HN := Lib.hid hn
  have hcw := hsf.cw
  obtain ⟨e0, e1, e2, e3, e4, e5, e6, e7⟩ := hE
  clear HC hb hsf hv hok hin hrin hc hgr
  go_enter Try.func80, Try.ntmps80
  go_wp2_with fail
  refine HCC.out.mono ?_
  rintro x w2 ⟨rfl, hb2⟩
  have HW2 := Lib.hid (below_tr HB.out hb2)
  clear hb2 e0 e1 e2 e3 e4 e5 e6 e7 hV1 hV2 hcw
  go_wp2_with fail
  go_ret2
  first | exact ⟨rfl, HW2.out⟩ | exact ⟨rfl, HN.out ▸ HW2.out⟩
end Go.Proofs.Ytkipnkbmpgjcoaa
