/-
  The closure that calls itself in expr.fold, at values: a leaf; an Arg that is refused; an operation.
-/
import Derived.Test.YtflclkmhdngmaaaEWork
namespace Go.Proofs.Ytflclkmhdngmaaa
open Go.RowKit

/-- What a call of the closure answers for an expression, in whatever world to come. -/
def WorkC (W0 : World) (gl gw ga : Nat) (e : Ex) (v : Val) (f : Int) : Prop :=
  ∀ W, Below W0.heap.size W0 W → Calls Try.prog 54 #[.agg #[.int .u8 e.op, .int .u8 e.v.k, .int .i64 e.v.n, .int .i64 e.v.u, .string e.v.t, .int .i64 e.m, .slice e.a e.len e.cap], .pointer (some ⟨gl, 0, none⟩), .pointer (some ⟨gw, 0, none⟩), .pointer (some ⟨ga, 0, none⟩)] W
    fun x W' => x = .returned (.tuple #[.agg #[.int .u8 v.k, .int .i64 v.n, .int .i64 v.u, .string v.t], .int .i64 f]) ∧ Below W.heap.size W W'

set_option maxRecDepth 100000 in
set_option maxHeartbeats 1000000 in
theorem work_leaf (W0 : World) (gr gl gw ga : Nat) (r : Rw) (hsf : Sf W0 gr gl gw ga r) (hrin : r.In W0) (e : Ex) (ha : arity e.op = 0) (hm : e.op = 2 → hasBelow r.len e.m = true) (v : Val) (hv : leafV r e = v) :
    WorkC W0 gl gw ga e v 0 := by
  intro W hW0
  obtain ⟨W1, g, hg, hW, B, R, S, hb, hs⟩ := boxER W e
  have hsfW := hsf.below hW0
  have HSF := Lib.hid (hsfW.below hb)
  have HRIN := Lib.hid ((hrin.below hW0).below hb)
  have HM := Lib.hid hm
  have HV := Lib.hid hv
  have HA : Hid ((arity e.op : Int) = 0) := Lib.hid (by rw [ha]; rfl)
  have HB := Lib.hid hb
  have HG := Lib.hid hg
  have HR := Lib.hid R
  have HS := Lib.hid S
  obtain ⟨e0, e1, e2, e3, e4, e5, e6, e7⟩ := B
  obtain ⟨f0, f1, f2, f3, f4, f5, f6, f7⟩ := HSF.out
  clear hb hs hsf hrin hm hv ha hW0 hsfW R S
  go_enter Try.func54, Try.ntmps54
  go_wp2_with fail
  refine (arity_is e.op 0 HA.out _).mono ?_
  rintro x w2 ⟨rfl, rfl⟩
  go_wp2_with fail
  refine (leaf_is gr r e _ HSF.out.lr HSF.out.cr HRIN.out HM.out v HV.out).mono ?_
  rintro x w2 ⟨rfl, hb2⟩
  have hw2 := below_tr HB.out hb2
  obtain ⟨r0, r1, r2, r3, r4⟩ := HR.out.below hb2
  obtain ⟨s0, s1, s2, s3, s4⟩ := HS.out.below hb2
  clear hb2 f0 f1 f2 f3 f4 f5 f6 f7 e0 e1 e2 e3 e4 e5 e6 e7 hW
  go_wp2_with fail
  have hwz := below_put4 hw2 (by have := HG.out; omega : W.heap.size ≤ g + 1) v.k v.n v.u v.t
  obtain ⟨q0, q1, q2, q3, q4⟩ := boxed_put4 (⟨r0, r1, r2, r3, r4⟩ : Boxed w2 (g + 1) 0 0 0 ⟨#[]⟩) v.k v.n v.u v.t
  exact bodyPost_ret (w := put4 w2 (g + 1) v.k v.n v.u v.t) (v := .tuple #[.agg #[.int .u8 v.k, .int .i64 v.n, .int .i64 v.u, .string v.t], .int .i64 0]) (by simp [results, Try.results54, go_sem, q0, q1, q2, q3]) rfl ⟨rfl, hwz⟩

/-- Two values in one block, which may be written. -/
structure Arr (W : World) (g : Nat) (x y : Val) : Prop where
  two : Two W g x.k x.n x.u x.t y.k y.n y.u y.t
  f0 : W.frozen? ⟨g, 0, none⟩ = false
  f1 : W.frozen? ⟨g, 1, none⟩ = false
  f2 : W.frozen? ⟨g, 2, none⟩ = false
  f3 : W.frozen? ⟨g, 3, none⟩ = false
  f4 : W.frozen? ⟨g, 4, none⟩ = false
  f5 : W.frozen? ⟨g, 5, none⟩ = false
  f6 : W.frozen? ⟨g, 6, none⟩ = false
  f7 : W.frozen? ⟨g, 7, none⟩ = false

theorem Arr.lt {W : World} {g : Nat} {x y : Val} (h : Arr W g x y) : g < W.heap.size := h.two.1.2.2.2.2

theorem Arr.below {W W' : World} {g : Nat} {x y : Val} (h : Arr W g x y) (hb : Below W.heap.size W W') : Arr W' g x y := by
  have hg := h.lt
  exact ⟨h.two.below hb, by rw [hb.frozen hg]; exact h.f0, by rw [hb.frozen hg]; exact h.f1, by rw [hb.frozen hg]; exact h.f2, by rw [hb.frozen hg]; exact h.f3, by rw [hb.frozen hg]; exact h.f4, by rw [hb.frozen hg]; exact h.f5, by rw [hb.frozen hg]; exact h.f6, by rw [hb.frozen hg]; exact h.f7⟩

theorem Arr.new (w : World) : Arr (w.alloc (.cells #[.int .u8 0, .int .i64 0, .int .i64 0, .string ⟨#[]⟩, .int .u8 0, .int .i64 0, .int .i64 0, .string ⟨#[]⟩] 85)) w.heap.size Val.zero Val.zero := by
  refine ⟨Two.new w 0 0 0 ⟨#[]⟩ 0 0 0 ⟨#[]⟩ 85, ?_, ?_, ?_, ?_, ?_, ?_, ?_, ?_⟩ <;> go_simp

def put4b (W : World) (g : Nat) (k n hi : Int) (t : ByteArray) : World :=
  (((W.setCell ⟨g, 4, none⟩ (.int .u8 k)).setCell ⟨g, 5, none⟩ (.int .i64 n)).setCell ⟨g, 6, none⟩ (.int .i64 hi)).setCell ⟨g, 7, none⟩ (.string t)

theorem below_put4b {B : Nat} {a W : World} (h : Below B a W) {g : Nat} (hg : B ≤ g) (k n hi : Int) (t : ByteArray) : Below B a (put4b W g k n hi t) :=
  (((h.setCell (by exact hg) _).setCell (by exact hg) _).setCell (by exact hg) _).setCell (by exact hg) _

theorem size_put4b (W : World) (g : Nat) (k n hi : Int) (t : ByteArray) : (put4b W g k n hi t).heap.size = W.heap.size := by simp [put4b, World.setCell]

theorem Arr.set0 {W : World} {g : Nat} {x y : Val} (h : Arr W g x y) (z : Val) : Arr (put4 W g z.k z.n z.u z.t) g z y := by
  obtain ⟨⟨⟨a0, a1, a2, a3, a4⟩, a5, a6, a7, a8⟩, f0, f1, f2, f3, f4, f5, f6, f7⟩ := h
  have hs := size_put4 W g z.k z.n z.u z.t
  refine ⟨⟨⟨?_, ?_, ?_, ?_, by rw [hs]; exact a4⟩, ?_, ?_, ?_, ?_⟩, ?_, ?_, ?_, ?_, ?_, ?_, ?_, ?_⟩ <;> (unfold put4; go_simp)

theorem Arr.set1 {W : World} {g : Nat} {x y : Val} (h : Arr W g x y) (z : Val) : Arr (put4b W g z.k z.n z.u z.t) g x z := by
  obtain ⟨⟨⟨a0, a1, a2, a3, a4⟩, a5, a6, a7, a8⟩, f0, f1, f2, f3, f4, f5, f6, f7⟩ := h
  have hs := size_put4b W g z.k z.n z.u z.t
  refine ⟨⟨⟨?_, ?_, ?_, ?_, by rw [hs]; exact a4⟩, ?_, ?_, ?_, ?_⟩, ?_, ?_, ?_, ?_, ?_, ?_, ?_, ?_⟩ <;> (unfold put4b; go_simp)

/-- What holds while the closure works on the Args of an operation. -/
structure Mid (W0 W : World) (gr gl gw ga : Nat) (r : Rw) (g : Nat) (e : Ex) (x y : Val) (V : World) : Prop where
  hg : W.heap.size = g
  sf : Sf V gr gl gw ga r
  box : BoxE V g e
  res : Boxed V (g + 1) 0 0 0 ⟨#[]⟩
  soft : Soft V (g + 1)
  arr : Arr V (g + 1 + 1) x y
  bw : Below W.heap.size W V
  b0 : Below W0.heap.size W0 V

theorem Mid.below {W0 W V V' : World} {gr gl gw ga : Nat} {r : Rw} {g : Nat} {e : Ex} {x y : Val} (h : Mid W0 W gr gl gw ga r g e x y V) (hb : Below V.heap.size V V') : Mid W0 W gr gl gw ga r g e x y V' :=
  ⟨h.hg, h.sf.below hb, h.box.below hb, h.res.below hb, h.soft.below hb, h.arr.below hb, below_tr h.bw hb, h.b0.trans (hb.mono h.b0.size)⟩

theorem Mid.set {W0 W V V' : World} {gr gl gw ga : Nat} {r : Rw} {g : Nat} {e : Ex} {x y x' y' : Val} (h : Mid W0 W gr gl gw ga r g e x y V) (hw : W0.heap.size ≤ W.heap.size) (hlt : gr < g ∧ gl < g ∧ gw < g ∧ ga < g) (hb : Below (g + 1 + 1) V V') (ha : Arr V' (g + 1 + 1) x' y') : Mid W0 W gr gl gw ga r g e x' y' V' := by
  have hg := h.hg
  have hsz := hb.size
  have c : ∀ k, k < g + 1 + 1 → V'.cell? ⟨k, 0, none⟩ = V.cell? ⟨k, 0, none⟩ := fun k hk => hb.cell hk
  obtain ⟨a1, a2, a3, a4⟩ := hlt
  refine ⟨hg, ⟨by rw [c gr (by omega)]; exact h.sf.cr, by rw [c gl (by omega)]; exact h.sf.cl, by rw [c gw (by omega)]; exact h.sf.cw, by rw [c ga (by omega)]; exact h.sf.ca, Nat.lt_of_lt_of_le h.sf.lr hsz, Nat.lt_of_lt_of_le h.sf.ll hsz, Nat.lt_of_lt_of_le h.sf.lw hsz, Nat.lt_of_lt_of_le h.sf.la hsz⟩, ?_, ?_, ?_, ha, h.bw.trans (hb.mono (by omega)), h.b0.trans (hb.mono (by omega))⟩
  · obtain ⟨h0, h1, h2, h3, h4, h5, h6, h7⟩ := h.box
    have c2 : ∀ i, V'.cell? ⟨g, i, none⟩ = V.cell? ⟨g, i, none⟩ := fun i => hb.cell (p := ⟨g, i, none⟩) (by show g < g + 1 + 1; omega)
    exact ⟨by rw [c2]; exact h0, by rw [c2]; exact h1, by rw [c2]; exact h2, by rw [c2]; exact h3, by rw [c2]; exact h4, by rw [c2]; exact h5, by rw [c2]; exact h6, Nat.lt_of_lt_of_le h7 hsz⟩
  · obtain ⟨h0, h1, h2, h3, h7⟩ := h.res
    have c2 : ∀ i, V'.cell? ⟨g + 1, i, none⟩ = V.cell? ⟨g + 1, i, none⟩ := fun i => hb.cell (p := ⟨g + 1, i, none⟩) (by show g + 1 < g + 1 + 1; omega)
    exact ⟨by rw [c2]; exact h0, by rw [c2]; exact h1, by rw [c2]; exact h2, by rw [c2]; exact h3, Nat.lt_of_lt_of_le h7 hsz⟩
  · obtain ⟨h0, h1, h2, h3, h7⟩ := h.soft
    have c2 : ∀ i, V'.frozen? ⟨g + 1, i, none⟩ = V.frozen? ⟨g + 1, i, none⟩ := fun i => hb.frozen (p := ⟨g + 1, i, none⟩) (by show g + 1 < g + 1 + 1; omega)
    exact ⟨by rw [c2]; exact h0, by rw [c2]; exact h1, by rw [c2]; exact h2, by rw [c2]; exact h3, Nat.lt_of_lt_of_le h7 hsz⟩

theorem Arr.two' {W : World} {g : Nat} {x y : Val} (h : Arr W g x y) : Boxed W g x.k x.n x.u x.t := h.two.1

/-- A new value's block, by name. -/
theorem boxX (w : World) (x : Val) : ∃ W g, w.alloc (.cells #[.int .u8 x.k, .int .i64 x.n, .int .i64 x.u, .string x.t] 23) = W ∧ w.heap.size = g ∧ Boxed W g x.k x.n x.u x.t ∧ Below w.heap.size w W :=
  ⟨_, _, rfl, rfl, Boxed.new w _ _ _ _ _, Below.allocs w _⟩

/-- A new expression's block, by name. -/
theorem boxE' (w : World) (e : Ex) : ∃ W g, w.alloc (.cells #[.int .u8 e.op, .int .u8 e.v.k, .int .i64 e.v.n, .int .i64 e.v.u, .string e.v.t, .int .i64 e.m, .slice e.a e.len e.cap] 26) = W ∧ w.heap.size = g ∧ BoxE W g e ∧ Below w.heap.size w W :=
  ⟨_, _, rfl, rfl, BoxE.new w e, Below.allocs w _⟩

theorem put_nm (W : World) (g : Nat) (x : Val) : ∃ Z, (((W.setCell ⟨g, 0, none⟩ (.int .u8 x.k)).setCell ⟨g, 1, none⟩ (.int .i64 x.n)).setCell ⟨g, 2, none⟩ (.int .i64 x.u)).setCell ⟨g, 3, none⟩ (.string x.t) = Z ∧ Z = put4 W g x.k x.n x.u x.t := ⟨_, rfl, rfl⟩
theorem put_nmb (W : World) (g : Nat) (x : Val) : ∃ Z, (((W.setCell ⟨g, 4, none⟩ (.int .u8 x.k)).setCell ⟨g, 5, none⟩ (.int .i64 x.n)).setCell ⟨g, 6, none⟩ (.int .i64 x.u)).setCell ⟨g, 7, none⟩ (.string x.t) = Z ∧ Z = put4b W g x.k x.n x.u x.t := ⟨_, rfl, rfl⟩

set_option maxRecDepth 100000 in
set_option maxHeartbeats 4000000 in
theorem work_two (W0 : World) (gr gl gw ga : Nat) (r : Rw) (hsf : Sf W0 gr gl gw ga r) (e : Ex) (hin : e.In W0) (ha : arity e.op = 2) (hl : e.len = 2) (x y : Val) (hx : WorkC W0 gl gw ga (e.kid 0) x 0) (hy : WorkC W0 gl gw ga (e.kid 1) y 0)
    (hxn : I64 x.n) (hyn : I64 y.n) (z : Res) (hz : appR e.op x y = z) : WorkC W0 gl gw ga e ⟨z.k, z.n, 0, ⟨#[]⟩⟩ z.e := by
  intro W hW0
  obtain ⟨W1, g, hg, hW, B, R, S, hb, hs⟩ := boxER W e
  obtain ⟨W2, hW2⟩ : ∃ W2, W1.alloc (.cells #[.int .u8 0, .int .i64 0, .int .i64 0, .string ⟨#[]⟩, .int .u8 0, .int .i64 0, .int .i64 0, .string ⟨#[]⟩] 85) = W2 := ⟨_, rfl⟩
  have A := Arr.new W1
  have hbA := Below.allocs W1 (.cells #[.int .u8 0, .int .i64 0, .int .i64 0, .string ⟨#[]⟩, .int .u8 0, .int .i64 0, .int .i64 0, .string ⟨#[]⟩] 85)
  rw [hs, hW2] at A
  rw [hW2] at hbA
  have hb2 := below_tr hb hbA
  have hb02 := hW0.trans (hb2.mono hW0.size)
  have HLT : Hid (gr < g ∧ gl < g ∧ gw < g ∧ ga < g) := Lib.hid (by have := hsf.lr; have := hsf.ll; have := hsf.lw; have := hsf.la; have := hW0.size; omega)
  have HWW := Lib.hid hW0.size
  have HM0 : Hid (Mid W0 W gr gl gw ga r g e Val.zero Val.zero W2) := Lib.hid ⟨hg, ((hsf.below hW0).below hb).below hbA, B.below hbA, R.below hbA, S.below hbA, A, hb2, hb02⟩
  obtain ⟨b, o, hea, hat⟩ := hin.args (by omega)
  have HAT := Lib.hid hat
  obtain ⟨p, hp0⟩ : ∃ p, e.kid 0 = p := ⟨_, rfl⟩
  have hk0 := hat 0 (by omega)
  rw [hp0] at hx hk0
  rw [show o + 0 * 7 = o by omega] at hk0
  have HK0 := Lib.hid hk0
  have HX := Lib.hid hx
  obtain ⟨q, hp1⟩ : ∃ p, e.kid 1 = p := ⟨_, rfl⟩
  have hk1 := hat 1 (by omega)
  rw [hp1] at hy hk1
  rw [show o + 1 * 7 = o + 7 by omega] at hk1
  have HK1 := Lib.hid hk1
  have HY := Lib.hid hy
  have HA : Hid ((arity e.op : Int) = 2) := Lib.hid (by rw [ha]; rfl)
  have HA' := Lib.hid ha
  have HN := Lib.hid (And.intro hxn hyn)
  have HZ := Lib.hid hz
  obtain ⟨e0, e1, e2, e3, e4, e5, e6, e7⟩ := B
  obtain ⟨d0, d1, d2, d3, d4, d5, d6, d7⟩ := HM0.out.box
  rw [hl, hea] at e6 d6
  clear hb hsf hin ha hl hea hW0 R S hat hk0 hp0 hk1 hp1 hb2 hb02 hbA A hx hy hxn hyn hz 
  go_enter Try.func54, Try.ntmps54
  go_wp2_with fail
  refine (arity_is e.op 2 HA.out _).mono ?_
  rintro x w2 ⟨rfl, rfl⟩
  clear e0 e1 e2 e3 e4 e5 e6 e7
  go_wp2_with fail
  refine wp_loop_rounds 3 ?_
  rw [rounds_succ]
  obtain ⟨A0, m0, hA0, hm0, BA0, hbA0⟩ := boxE' W2 p
  have HMA0 := Lib.hid (HM0.out.below hbA0)
  obtain ⟨k0, k1, k2, k3, k4, k5, k6, k7⟩ := HK0.out.below HM0.out.b0
  obtain ⟨l0, l1, l2, l3, l4, l5, l6, l7⟩ := BA0
  have hcw := HMA0.out.sf.cw
  clear hbA0
  go_wp2_with fail
  refine (HX.out A0 HMA0.out.b0).mono ?_
  rintro _ U0 ⟨rfl, hbU0⟩
  have HMU0 := Lib.hid (HMA0.out.below hbU0)
  obtain ⟨C0, n0, hC0, hn0, BC0, hbC0⟩ := boxX U0 x
  have HMC0 := Lib.hid (HMU0.out.below hbC0)
  obtain ⟨c0, c1, c2, c3, c4⟩ := BC0
  clear k0 k1 k2 k3 k4 k5 k6 k7 l0 l1 l2 l3 l4 l5 l6 l7 hcw hbU0 hbC0 hA0
  obtain ⟨⟨⟨a0, a1, a2, a3, a8⟩, a4, a5, a6, a7⟩, f0, f1, f2, f3, f4, f5, f6, f7⟩ := HMC0.out.arr
  obtain ⟨Z0, hZ0, hZ0'⟩ := put_nm C0 (g + 1 + 1) x
  have HM1 : Hid (Mid W0 W gr gl gw ga r g e x Val.zero Z0) := Lib.hid (HMC0.out.set HWW.out HLT.out (by rw [hZ0']; exact below_put4 (Below.refl _ _) (Nat.le_refl _) _ _ _ _) (by rw [hZ0']; exact HMC0.out.arr.set0 x))
  obtain ⟨d0, d1, d2, d3, d4, d5, d6, d7⟩ := HM1.out.box
  clear hZ0'
  go_wp2_with fail
  clear a0 a1 a2 a3 a4 a5 a6 a7 a8 f0 f1 f2 f3 f4 f5 f6 f7 c0 c1 c2 c3 c4 hZ0 hC0
  rw [rounds_succ]
  obtain ⟨A1, m1, hA1, hm1, BA1, hbA1⟩ := boxE' Z0 q
  have HMA1 := Lib.hid (HM1.out.below hbA1)
  obtain ⟨k0, k1, k2, k3, k4, k5, k6, k7⟩ := HK1.out.below HM1.out.b0
  obtain ⟨l0, l1, l2, l3, l4, l5, l6, l7⟩ := BA1
  have hcw := HMA1.out.sf.cw
  clear hbA1
  go_wp2_with fail
  refine (HY.out A1 HMA1.out.b0).mono ?_
  rintro _ U1 ⟨rfl, hbU1⟩
  have HMU1 := Lib.hid (HMA1.out.below hbU1)
  obtain ⟨C1, n1, hC1, hn1, BC1, hbC1⟩ := boxX U1 y
  have HMC1 := Lib.hid (HMU1.out.below hbC1)
  obtain ⟨c0, c1, c2, c3, c4⟩ := BC1
  clear k0 k1 k2 k3 k4 k5 k6 k7 l0 l1 l2 l3 l4 l5 l6 l7 hcw hbU1 hbC1 hA1
  obtain ⟨⟨⟨a0, a1, a2, a3, a8⟩, a4, a5, a6, a7⟩, f0, f1, f2, f3, f4, f5, f6, f7⟩ := HMC1.out.arr
  obtain ⟨Z1, hZ1, hZ1'⟩ := put_nmb C1 (g + 1 + 1) y
  have HM2 : Hid (Mid W0 W gr gl gw ga r g e x y Z1) := Lib.hid (HMC1.out.set HWW.out HLT.out (by rw [hZ1']; exact below_put4b (Below.refl _ _) (Nat.le_refl _) _ _ _ _) (by rw [hZ1']; exact HMC1.out.arr.set1 y))
  obtain ⟨d0, d1, d2, d3, d4, d5, d6, d7⟩ := HM2.out.box
  clear hZ1'
  go_wp2_with fail
  clear a0 a1 a2 a3 a4 a5 a6 a7 a8 f0 f1 f2 f3 f4 f5 f6 f7 c0 c1 c2 c3 c4 hZ1 hC1
  rw [rounds_succ]
  have hca := HM2.out.sf.ca
  obtain ⟨⟨⟨a0, a1, a2, a3, a8⟩, a4, a5, a6, a7⟩, f0, f1, f2, f3, f4, f5, f6, f7⟩ := HM2.out.arr
  go_wp2_with fail
  refine (apply_is e.op x y z HZ.out (by rw [HA'.out]; decide) HN.out.1 HN.out.2 _).mono ?_
  rintro _ U ⟨rfl, hbU⟩
  have HM := Lib.hid (HM2.out.below hbU)
  obtain ⟨r0, r1, r2, r3, r4⟩ := HM.out.res
  obtain ⟨s0, s1, s2, s3, s4⟩ := HM.out.soft
  clear hbU hca a0 a1 a2 a3 a4 a5 a6 a7 a8 f0 f1 f2 f3 f4 f5 f6 f7
  go_wp2_with fail
  have hwz := below_put4 HM.out.bw (by have := HM.out.hg; omega : W.heap.size ≤ g + 1) z.k z.n 0 ⟨#[]⟩
  obtain ⟨q0, q1, q2, q3, q4⟩ := boxed_put4 HM.out.res z.k z.n 0 ⟨#[]⟩
  exact bodyPost_ret (w := put4 U (g + 1) z.k z.n 0 ⟨#[]⟩) (v := .tuple #[.agg #[.int .u8 z.k, .int .i64 z.n, .int .i64 0, .string ⟨#[]⟩], .int .i64 z.e]) (by simp [results, Try.results54, go_sem, q0, q1, q2, q3]) rfl ⟨rfl, hwz⟩

set_option maxRecDepth 100000 in
set_option maxHeartbeats 4000000 in
theorem work_two0 (W0 : World) (gr gl gw ga : Nat) (r : Rw) (hsf : Sf W0 gr gl gw ga r) (e : Ex) (hin : e.In W0) (ha : arity e.op = 2) (hl : e.len = 2) (x : Val) (f : Int) (hx : WorkC W0 gl gw ga (e.kid 0) x f)
    (hf : f ≠ 0) : WorkC W0 gl gw ga e x f := by
  intro W hW0
  obtain ⟨W1, g, hg, hW, B, R, S, hb, hs⟩ := boxER W e
  obtain ⟨W2, hW2⟩ : ∃ W2, W1.alloc (.cells #[.int .u8 0, .int .i64 0, .int .i64 0, .string ⟨#[]⟩, .int .u8 0, .int .i64 0, .int .i64 0, .string ⟨#[]⟩] 85) = W2 := ⟨_, rfl⟩
  have A := Arr.new W1
  have hbA := Below.allocs W1 (.cells #[.int .u8 0, .int .i64 0, .int .i64 0, .string ⟨#[]⟩, .int .u8 0, .int .i64 0, .int .i64 0, .string ⟨#[]⟩] 85)
  rw [hs, hW2] at A
  rw [hW2] at hbA
  have hb2 := below_tr hb hbA
  have hb02 := hW0.trans (hb2.mono hW0.size)
  have HLT : Hid (gr < g ∧ gl < g ∧ gw < g ∧ ga < g) := Lib.hid (by have := hsf.lr; have := hsf.ll; have := hsf.lw; have := hsf.la; have := hW0.size; omega)
  have HWW := Lib.hid hW0.size
  have HM0 : Hid (Mid W0 W gr gl gw ga r g e Val.zero Val.zero W2) := Lib.hid ⟨hg, ((hsf.below hW0).below hb).below hbA, B.below hbA, R.below hbA, S.below hbA, A, hb2, hb02⟩
  obtain ⟨b, o, hea, hat⟩ := hin.args (by omega)
  have HAT := Lib.hid hat
  obtain ⟨p, hp0⟩ : ∃ p, e.kid 0 = p := ⟨_, rfl⟩
  have hk0 := hat 0 (by omega)
  rw [hp0] at hx hk0
  rw [show o + 0 * 7 = o by omega] at hk0
  have HK0 := Lib.hid hk0
  have HX := Lib.hid hx
  have HA : Hid ((arity e.op : Int) = 2) := Lib.hid (by rw [ha]; rfl)
  have HA' := Lib.hid ha
  have hfb : (f != 0) = true := by simpa using hf
  obtain ⟨e0, e1, e2, e3, e4, e5, e6, e7⟩ := B
  obtain ⟨d0, d1, d2, d3, d4, d5, d6, d7⟩ := HM0.out.box
  rw [hl, hea] at e6 d6
  clear hb hsf hin ha hl hea hW0 R S hat hk0 hp0 hb2 hb02 hbA A hx hf 
  go_enter Try.func54, Try.ntmps54
  go_wp2_with fail
  refine (arity_is e.op 2 HA.out _).mono ?_
  rintro x w2 ⟨rfl, rfl⟩
  clear e0 e1 e2 e3 e4 e5 e6 e7
  go_wp2_with fail
  refine wp_loop_rounds 3 ?_
  rw [rounds_succ]
  obtain ⟨A0, m0, hA0, hm0, BA0, hbA0⟩ := boxE' W2 p
  have HMA0 := Lib.hid (HM0.out.below hbA0)
  obtain ⟨k0, k1, k2, k3, k4, k5, k6, k7⟩ := HK0.out.below HM0.out.b0
  obtain ⟨l0, l1, l2, l3, l4, l5, l6, l7⟩ := BA0
  have hcw := HMA0.out.sf.cw
  clear hbA0
  go_wp2_with fail
  refine (HX.out A0 HMA0.out.b0).mono ?_
  rintro _ U0 ⟨rfl, hbU0⟩
  have HMU0 := Lib.hid (HMA0.out.below hbU0)
  obtain ⟨C0, n0, hC0, hn0, BC0, hbC0⟩ := boxX U0 x
  have HMC0 := Lib.hid (HMU0.out.below hbC0)
  obtain ⟨c0, c1, c2, c3, c4⟩ := BC0
  clear k0 k1 k2 k3 k4 k5 k6 k7 l0 l1 l2 l3 l4 l5 l6 l7 hcw hbU0 hbC0 hA0
  obtain ⟨r0, r1, r2, r3, r4⟩ := HMC0.out.res
  obtain ⟨s0, s1, s2, s3, s4⟩ := HMC0.out.soft
  go_wp2_with fail
  have hwz := below_put4 HMC0.out.bw (by have := HMC0.out.hg; omega : W.heap.size ≤ g + 1) x.k x.n x.u x.t
  obtain ⟨q0, q1, q2, q3, q4⟩ := boxed_put4 HMC0.out.res x.k x.n x.u x.t
  exact bodyPost_ret (w := put4 C0 (g + 1) x.k x.n x.u x.t) (v := .tuple #[.agg #[.int .u8 x.k, .int .i64 x.n, .int .i64 x.u, .string x.t], .int .i64 f]) (by simp [results, Try.results54, go_sem, q0, q1, q2, q3]) rfl ⟨rfl, hwz⟩

set_option maxRecDepth 100000 in
set_option maxHeartbeats 4000000 in
theorem work_two1 (W0 : World) (gr gl gw ga : Nat) (r : Rw) (hsf : Sf W0 gr gl gw ga r) (e : Ex) (hin : e.In W0) (ha : arity e.op = 2) (hl : e.len = 2) (x y : Val) (f : Int) (hx : WorkC W0 gl gw ga (e.kid 0) x 0) (hy : WorkC W0 gl gw ga (e.kid 1) y f)
    (hf : f ≠ 0) : WorkC W0 gl gw ga e y f := by
  intro W hW0
  obtain ⟨W1, g, hg, hW, B, R, S, hb, hs⟩ := boxER W e
  obtain ⟨W2, hW2⟩ : ∃ W2, W1.alloc (.cells #[.int .u8 0, .int .i64 0, .int .i64 0, .string ⟨#[]⟩, .int .u8 0, .int .i64 0, .int .i64 0, .string ⟨#[]⟩] 85) = W2 := ⟨_, rfl⟩
  have A := Arr.new W1
  have hbA := Below.allocs W1 (.cells #[.int .u8 0, .int .i64 0, .int .i64 0, .string ⟨#[]⟩, .int .u8 0, .int .i64 0, .int .i64 0, .string ⟨#[]⟩] 85)
  rw [hs, hW2] at A
  rw [hW2] at hbA
  have hb2 := below_tr hb hbA
  have hb02 := hW0.trans (hb2.mono hW0.size)
  have HLT : Hid (gr < g ∧ gl < g ∧ gw < g ∧ ga < g) := Lib.hid (by have := hsf.lr; have := hsf.ll; have := hsf.lw; have := hsf.la; have := hW0.size; omega)
  have HWW := Lib.hid hW0.size
  have HM0 : Hid (Mid W0 W gr gl gw ga r g e Val.zero Val.zero W2) := Lib.hid ⟨hg, ((hsf.below hW0).below hb).below hbA, B.below hbA, R.below hbA, S.below hbA, A, hb2, hb02⟩
  obtain ⟨b, o, hea, hat⟩ := hin.args (by omega)
  have HAT := Lib.hid hat
  obtain ⟨p, hp0⟩ : ∃ p, e.kid 0 = p := ⟨_, rfl⟩
  have hk0 := hat 0 (by omega)
  rw [hp0] at hx hk0
  rw [show o + 0 * 7 = o by omega] at hk0
  have HK0 := Lib.hid hk0
  have HX := Lib.hid hx
  obtain ⟨q, hp1⟩ : ∃ p, e.kid 1 = p := ⟨_, rfl⟩
  have hk1 := hat 1 (by omega)
  rw [hp1] at hy hk1
  rw [show o + 1 * 7 = o + 7 by omega] at hk1
  have HK1 := Lib.hid hk1
  have HY := Lib.hid hy
  have HA : Hid ((arity e.op : Int) = 2) := Lib.hid (by rw [ha]; rfl)
  have HA' := Lib.hid ha
  have hfb : (f != 0) = true := by simpa using hf
  obtain ⟨e0, e1, e2, e3, e4, e5, e6, e7⟩ := B
  obtain ⟨d0, d1, d2, d3, d4, d5, d6, d7⟩ := HM0.out.box
  rw [hl, hea] at e6 d6
  clear hb hsf hin ha hl hea hW0 R S hat hk0 hp0 hk1 hp1 hb2 hb02 hbA A hx hy hf 
  go_enter Try.func54, Try.ntmps54
  go_wp2_with fail
  refine (arity_is e.op 2 HA.out _).mono ?_
  rintro x w2 ⟨rfl, rfl⟩
  clear e0 e1 e2 e3 e4 e5 e6 e7
  go_wp2_with fail
  refine wp_loop_rounds 3 ?_
  rw [rounds_succ]
  obtain ⟨A0, m0, hA0, hm0, BA0, hbA0⟩ := boxE' W2 p
  have HMA0 := Lib.hid (HM0.out.below hbA0)
  obtain ⟨k0, k1, k2, k3, k4, k5, k6, k7⟩ := HK0.out.below HM0.out.b0
  obtain ⟨l0, l1, l2, l3, l4, l5, l6, l7⟩ := BA0
  have hcw := HMA0.out.sf.cw
  clear hbA0
  go_wp2_with fail
  refine (HX.out A0 HMA0.out.b0).mono ?_
  rintro _ U0 ⟨rfl, hbU0⟩
  have HMU0 := Lib.hid (HMA0.out.below hbU0)
  obtain ⟨C0, n0, hC0, hn0, BC0, hbC0⟩ := boxX U0 x
  have HMC0 := Lib.hid (HMU0.out.below hbC0)
  obtain ⟨c0, c1, c2, c3, c4⟩ := BC0
  clear k0 k1 k2 k3 k4 k5 k6 k7 l0 l1 l2 l3 l4 l5 l6 l7 hcw hbU0 hbC0 hA0
  obtain ⟨⟨⟨a0, a1, a2, a3, a8⟩, a4, a5, a6, a7⟩, f0, f1, f2, f3, f4, f5, f6, f7⟩ := HMC0.out.arr
  obtain ⟨Z0, hZ0, hZ0'⟩ := put_nm C0 (g + 1 + 1) x
  have HM1 : Hid (Mid W0 W gr gl gw ga r g e x Val.zero Z0) := Lib.hid (HMC0.out.set HWW.out HLT.out (by rw [hZ0']; exact below_put4 (Below.refl _ _) (Nat.le_refl _) _ _ _ _) (by rw [hZ0']; exact HMC0.out.arr.set0 x))
  obtain ⟨d0, d1, d2, d3, d4, d5, d6, d7⟩ := HM1.out.box
  clear hZ0'
  go_wp2_with fail
  clear a0 a1 a2 a3 a4 a5 a6 a7 a8 f0 f1 f2 f3 f4 f5 f6 f7 c0 c1 c2 c3 c4 hZ0 hC0
  rw [rounds_succ]
  obtain ⟨A1, m1, hA1, hm1, BA1, hbA1⟩ := boxE' Z0 q
  have HMA1 := Lib.hid (HM1.out.below hbA1)
  obtain ⟨k0, k1, k2, k3, k4, k5, k6, k7⟩ := HK1.out.below HM1.out.b0
  obtain ⟨l0, l1, l2, l3, l4, l5, l6, l7⟩ := BA1
  have hcw := HMA1.out.sf.cw
  clear hbA1
  go_wp2_with fail
  refine (HY.out A1 HMA1.out.b0).mono ?_
  rintro _ U1 ⟨rfl, hbU1⟩
  have HMU1 := Lib.hid (HMA1.out.below hbU1)
  obtain ⟨C1, n1, hC1, hn1, BC1, hbC1⟩ := boxX U1 y
  have HMC1 := Lib.hid (HMU1.out.below hbC1)
  obtain ⟨c0, c1, c2, c3, c4⟩ := BC1
  clear k0 k1 k2 k3 k4 k5 k6 k7 l0 l1 l2 l3 l4 l5 l6 l7 hcw hbU1 hbC1 hA1
  obtain ⟨r0, r1, r2, r3, r4⟩ := HMC1.out.res
  obtain ⟨s0, s1, s2, s3, s4⟩ := HMC1.out.soft
  go_wp2_with fail
  have hwz := below_put4 HMC1.out.bw (by have := HMC1.out.hg; omega : W.heap.size ≤ g + 1) y.k y.n y.u y.t
  obtain ⟨q0, q1, q2, q3, q4⟩ := boxed_put4 HMC1.out.res y.k y.n y.u y.t
  exact bodyPost_ret (w := put4 C1 (g + 1) y.k y.n y.u y.t) (v := .tuple #[.agg #[.int .u8 y.k, .int .i64 y.n, .int .i64 y.u, .string y.t], .int .i64 f]) (by simp [results, Try.results54, go_sem, q0, q1, q2, q3]) rfl ⟨rfl, hwz⟩

set_option maxRecDepth 100000 in
set_option maxHeartbeats 4000000 in
theorem work_one (W0 : World) (gr gl gw ga : Nat) (r : Rw) (hsf : Sf W0 gr gl gw ga r) (e : Ex) (hin : e.In W0) (ha : arity e.op = 1) (hl : e.len = 1) (x : Val) (hx : WorkC W0 gl gw ga (e.kid 0) x 0)
    (hxn : I64 x.n) (z : Res) (hz : appR e.op x Val.zero = z) : WorkC W0 gl gw ga e ⟨z.k, z.n, 0, ⟨#[]⟩⟩ z.e := by
  intro W hW0
  obtain ⟨W1, g, hg, hW, B, R, S, hb, hs⟩ := boxER W e
  obtain ⟨W2, hW2⟩ : ∃ W2, W1.alloc (.cells #[.int .u8 0, .int .i64 0, .int .i64 0, .string ⟨#[]⟩, .int .u8 0, .int .i64 0, .int .i64 0, .string ⟨#[]⟩] 85) = W2 := ⟨_, rfl⟩
  have A := Arr.new W1
  have hbA := Below.allocs W1 (.cells #[.int .u8 0, .int .i64 0, .int .i64 0, .string ⟨#[]⟩, .int .u8 0, .int .i64 0, .int .i64 0, .string ⟨#[]⟩] 85)
  rw [hs, hW2] at A
  rw [hW2] at hbA
  have hb2 := below_tr hb hbA
  have hb02 := hW0.trans (hb2.mono hW0.size)
  have HLT : Hid (gr < g ∧ gl < g ∧ gw < g ∧ ga < g) := Lib.hid (by have := hsf.lr; have := hsf.ll; have := hsf.lw; have := hsf.la; have := hW0.size; omega)
  have HWW := Lib.hid hW0.size
  have HM0 : Hid (Mid W0 W gr gl gw ga r g e Val.zero Val.zero W2) := Lib.hid ⟨hg, ((hsf.below hW0).below hb).below hbA, B.below hbA, R.below hbA, S.below hbA, A, hb2, hb02⟩
  obtain ⟨b, o, hea, hat⟩ := hin.args (by omega)
  have HAT := Lib.hid hat
  obtain ⟨p, hp0⟩ : ∃ p, e.kid 0 = p := ⟨_, rfl⟩
  have hk0 := hat 0 (by omega)
  rw [hp0] at hx hk0
  rw [show o + 0 * 7 = o by omega] at hk0
  have HK0 := Lib.hid hk0
  have HX := Lib.hid hx
  have HA : Hid ((arity e.op : Int) = 1) := Lib.hid (by rw [ha]; rfl)
  have HA' := Lib.hid ha
  have HN := Lib.hid (And.intro hxn trivial)
  have HZ := Lib.hid hz
  obtain ⟨e0, e1, e2, e3, e4, e5, e6, e7⟩ := B
  obtain ⟨d0, d1, d2, d3, d4, d5, d6, d7⟩ := HM0.out.box
  rw [hl, hea] at e6 d6
  clear hb hsf hin ha hl hea hW0 R S hat hk0 hp0 hb2 hb02 hbA A hx hxn hz 
  go_enter Try.func54, Try.ntmps54
  go_wp2_with fail
  refine (arity_is e.op 1 HA.out _).mono ?_
  rintro x w2 ⟨rfl, rfl⟩
  clear e0 e1 e2 e3 e4 e5 e6 e7
  go_wp2_with fail
  refine wp_loop_rounds 2 ?_
  rw [rounds_succ]
  obtain ⟨A0, m0, hA0, hm0, BA0, hbA0⟩ := boxE' W2 p
  have HMA0 := Lib.hid (HM0.out.below hbA0)
  obtain ⟨k0, k1, k2, k3, k4, k5, k6, k7⟩ := HK0.out.below HM0.out.b0
  obtain ⟨l0, l1, l2, l3, l4, l5, l6, l7⟩ := BA0
  have hcw := HMA0.out.sf.cw
  clear hbA0
  go_wp2_with fail
  refine (HX.out A0 HMA0.out.b0).mono ?_
  rintro _ U0 ⟨rfl, hbU0⟩
  have HMU0 := Lib.hid (HMA0.out.below hbU0)
  obtain ⟨C0, n0, hC0, hn0, BC0, hbC0⟩ := boxX U0 x
  have HMC0 := Lib.hid (HMU0.out.below hbC0)
  obtain ⟨c0, c1, c2, c3, c4⟩ := BC0
  clear k0 k1 k2 k3 k4 k5 k6 k7 l0 l1 l2 l3 l4 l5 l6 l7 hcw hbU0 hbC0 hA0
  obtain ⟨⟨⟨a0, a1, a2, a3, a8⟩, a4, a5, a6, a7⟩, f0, f1, f2, f3, f4, f5, f6, f7⟩ := HMC0.out.arr
  obtain ⟨Z0, hZ0, hZ0'⟩ := put_nm C0 (g + 1 + 1) x
  have HM1 : Hid (Mid W0 W gr gl gw ga r g e x Val.zero Z0) := Lib.hid (HMC0.out.set HWW.out HLT.out (by rw [hZ0']; exact below_put4 (Below.refl _ _) (Nat.le_refl _) _ _ _ _) (by rw [hZ0']; exact HMC0.out.arr.set0 x))
  obtain ⟨d0, d1, d2, d3, d4, d5, d6, d7⟩ := HM1.out.box
  clear hZ0'
  go_wp2_with fail
  clear a0 a1 a2 a3 a4 a5 a6 a7 a8 f0 f1 f2 f3 f4 f5 f6 f7 c0 c1 c2 c3 c4 hZ0 hC0
  rw [rounds_succ]
  have hca := HM1.out.sf.ca
  obtain ⟨⟨⟨a0, a1, a2, a3, a8⟩, a4, a5, a6, a7⟩, f0, f1, f2, f3, f4, f5, f6, f7⟩ := HM1.out.arr
  go_wp2_with fail
  refine (apply_is e.op x Val.zero z HZ.out (by rw [HA'.out]; decide) HN.out.1 (by decide) _).mono ?_
  rintro _ U ⟨rfl, hbU⟩
  have HM := Lib.hid (HM1.out.below hbU)
  obtain ⟨r0, r1, r2, r3, r4⟩ := HM.out.res
  obtain ⟨s0, s1, s2, s3, s4⟩ := HM.out.soft
  clear hbU hca a0 a1 a2 a3 a4 a5 a6 a7 a8 f0 f1 f2 f3 f4 f5 f6 f7
  go_wp2_with fail
  have hwz := below_put4 HM.out.bw (by have := HM.out.hg; omega : W.heap.size ≤ g + 1) z.k z.n 0 ⟨#[]⟩
  obtain ⟨q0, q1, q2, q3, q4⟩ := boxed_put4 HM.out.res z.k z.n 0 ⟨#[]⟩
  exact bodyPost_ret (w := put4 U (g + 1) z.k z.n 0 ⟨#[]⟩) (v := .tuple #[.agg #[.int .u8 z.k, .int .i64 z.n, .int .i64 0, .string ⟨#[]⟩], .int .i64 z.e]) (by simp [results, Try.results54, go_sem, q0, q1, q2, q3]) rfl ⟨rfl, hwz⟩

set_option maxRecDepth 100000 in
set_option maxHeartbeats 4000000 in
theorem work_one0 (W0 : World) (gr gl gw ga : Nat) (r : Rw) (hsf : Sf W0 gr gl gw ga r) (e : Ex) (hin : e.In W0) (ha : arity e.op = 1) (hl : e.len = 1) (x : Val) (f : Int) (hx : WorkC W0 gl gw ga (e.kid 0) x f)
    (hf : f ≠ 0) : WorkC W0 gl gw ga e x f := by
  intro W hW0
  obtain ⟨W1, g, hg, hW, B, R, S, hb, hs⟩ := boxER W e
  obtain ⟨W2, hW2⟩ : ∃ W2, W1.alloc (.cells #[.int .u8 0, .int .i64 0, .int .i64 0, .string ⟨#[]⟩, .int .u8 0, .int .i64 0, .int .i64 0, .string ⟨#[]⟩] 85) = W2 := ⟨_, rfl⟩
  have A := Arr.new W1
  have hbA := Below.allocs W1 (.cells #[.int .u8 0, .int .i64 0, .int .i64 0, .string ⟨#[]⟩, .int .u8 0, .int .i64 0, .int .i64 0, .string ⟨#[]⟩] 85)
  rw [hs, hW2] at A
  rw [hW2] at hbA
  have hb2 := below_tr hb hbA
  have hb02 := hW0.trans (hb2.mono hW0.size)
  have HLT : Hid (gr < g ∧ gl < g ∧ gw < g ∧ ga < g) := Lib.hid (by have := hsf.lr; have := hsf.ll; have := hsf.lw; have := hsf.la; have := hW0.size; omega)
  have HWW := Lib.hid hW0.size
  have HM0 : Hid (Mid W0 W gr gl gw ga r g e Val.zero Val.zero W2) := Lib.hid ⟨hg, ((hsf.below hW0).below hb).below hbA, B.below hbA, R.below hbA, S.below hbA, A, hb2, hb02⟩
  obtain ⟨b, o, hea, hat⟩ := hin.args (by omega)
  have HAT := Lib.hid hat
  obtain ⟨p, hp0⟩ : ∃ p, e.kid 0 = p := ⟨_, rfl⟩
  have hk0 := hat 0 (by omega)
  rw [hp0] at hx hk0
  rw [show o + 0 * 7 = o by omega] at hk0
  have HK0 := Lib.hid hk0
  have HX := Lib.hid hx
  have HA : Hid ((arity e.op : Int) = 1) := Lib.hid (by rw [ha]; rfl)
  have HA' := Lib.hid ha
  have hfb : (f != 0) = true := by simpa using hf
  obtain ⟨e0, e1, e2, e3, e4, e5, e6, e7⟩ := B
  obtain ⟨d0, d1, d2, d3, d4, d5, d6, d7⟩ := HM0.out.box
  rw [hl, hea] at e6 d6
  clear hb hsf hin ha hl hea hW0 R S hat hk0 hp0 hb2 hb02 hbA A hx hf 
  go_enter Try.func54, Try.ntmps54
  go_wp2_with fail
  refine (arity_is e.op 1 HA.out _).mono ?_
  rintro x w2 ⟨rfl, rfl⟩
  clear e0 e1 e2 e3 e4 e5 e6 e7
  go_wp2_with fail
  refine wp_loop_rounds 2 ?_
  rw [rounds_succ]
  obtain ⟨A0, m0, hA0, hm0, BA0, hbA0⟩ := boxE' W2 p
  have HMA0 := Lib.hid (HM0.out.below hbA0)
  obtain ⟨k0, k1, k2, k3, k4, k5, k6, k7⟩ := HK0.out.below HM0.out.b0
  obtain ⟨l0, l1, l2, l3, l4, l5, l6, l7⟩ := BA0
  have hcw := HMA0.out.sf.cw
  clear hbA0
  go_wp2_with fail
  refine (HX.out A0 HMA0.out.b0).mono ?_
  rintro _ U0 ⟨rfl, hbU0⟩
  have HMU0 := Lib.hid (HMA0.out.below hbU0)
  obtain ⟨C0, n0, hC0, hn0, BC0, hbC0⟩ := boxX U0 x
  have HMC0 := Lib.hid (HMU0.out.below hbC0)
  obtain ⟨c0, c1, c2, c3, c4⟩ := BC0
  clear k0 k1 k2 k3 k4 k5 k6 k7 l0 l1 l2 l3 l4 l5 l6 l7 hcw hbU0 hbC0 hA0
  obtain ⟨r0, r1, r2, r3, r4⟩ := HMC0.out.res
  obtain ⟨s0, s1, s2, s3, s4⟩ := HMC0.out.soft
  go_wp2_with fail
  have hwz := below_put4 HMC0.out.bw (by have := HMC0.out.hg; omega : W.heap.size ≤ g + 1) x.k x.n x.u x.t
  obtain ⟨q0, q1, q2, q3, q4⟩ := boxed_put4 HMC0.out.res x.k x.n x.u x.t
  exact bodyPost_ret (w := put4 C0 (g + 1) x.k x.n x.u x.t) (v := .tuple #[.agg #[.int .u8 x.k, .int .i64 x.n, .int .i64 x.u, .string x.t], .int .i64 f]) (by simp [results, Try.results54, go_sem, q0, q1, q2, q3]) rfl ⟨rfl, hwz⟩

end Go.Proofs.Ytflclkmhdngmaaa
