/-
  The closure that calls itself in expr.fold, at values: what an expression comes to.
-/
import Derived.Test.YtflclkmhdngmaaaEApply
import Derived.Test.YtflclkmhdngmaaaEMayE
import Derived.LoopN
namespace Go.Proofs.Ytflclkmhdngmaaa
open Go.RowKit

/-- What the kinds of a value's fields ask. -/
structure Val.wf (v : Val) : Prop where
  k0 : 0 ≤ v.k
  k1 : v.k ≤ 255
  n : I64 v.n
  u : I64 v.u
  t : v.t.size ≤ 140737488351232

/-- A slice of values. -/
structure Rw where
  a : Option Addr
  len : Nat
  cap : Nat
  vals : Nat → Val

def Rw.v (r : Rw) : Value := .slice r.a r.len r.cap

def AtV (W : World) (b o : Nat) (v : Val) : Prop :=
  W.cell? ⟨b, o, none⟩ = some (.int .u8 v.k) ∧ W.cell? ⟨b, o + 1, none⟩ = some (.int .i64 v.n) ∧ W.cell? ⟨b, o + 2, none⟩ = some (.int .i64 v.u) ∧ W.cell? ⟨b, o + 3, none⟩ = some (.string v.t) ∧ b < W.heap.size

theorem AtV.below {W W' : World} {b o : Nat} {v : Val} (h : AtV W b o v) (hb : Below W.heap.size W W') : AtV W' b o v := by
  obtain ⟨h0, h1, h2, h3, h7⟩ := h
  exact ⟨by rw [hb.cell h7]; exact h0, by rw [hb.cell h7]; exact h1, by rw [hb.cell h7]; exact h2, by rw [hb.cell h7]; exact h3, Nat.lt_of_lt_of_le h7 hb.size⟩

structure Rw.In (W : World) (r : Rw) : Prop where
  lc : r.len ≤ r.cap
  cm : r.cap ≤ maxLen
  at' : 0 < r.len → ∃ b o, r.a = some ⟨b, o, none⟩ ∧ ∀ i, i < r.len → AtV W b (o + i * 4) (r.vals i)
  wf : ∀ i, i < r.len → (r.vals i).wf

theorem Rw.In.below {W W' : World} {r : Rw} (h : r.In W) (hb : Below W.heap.size W W') : r.In W' :=
  ⟨h.lc, h.cm, fun hl => by obtain ⟨b, o, e, hx⟩ := h.at' hl; exact ⟨b, o, e, fun i hi => (hx i hi).below hb⟩, h.wf⟩

/-- What the closures captured: the leaves' closure (and the row's variable behind it), the closure itself, apply. -/
structure Sf (W : World) (gr gl gw ga : Nat) (r : Rw) : Prop where
  cr : W.cell? ⟨gr, 0, none⟩ = some (.slice r.a r.len r.cap)
  cl : W.cell? ⟨gl, 0, none⟩ = some (.func (.func 35) #[] #[.pointer (some ⟨gr, 0, none⟩)])
  cw : W.cell? ⟨gw, 0, none⟩ = some (.func (.func 54) #[] #[.pointer (some ⟨gl, 0, none⟩), .pointer (some ⟨gw, 0, none⟩), .pointer (some ⟨ga, 0, none⟩)])
  ca : W.cell? ⟨ga, 0, none⟩ = some (.func (.func 36) #[] #[])
  lr : gr < W.heap.size
  ll : gl < W.heap.size
  lw : gw < W.heap.size
  la : ga < W.heap.size

theorem Sf.below {W W' : World} {gr gl gw ga : Nat} {r : Rw} (h : Sf W gr gl gw ga r) (hb : Below W.heap.size W W') : Sf W' gr gl gw ga r :=
  ⟨by rw [hb.cell h.lr]; exact h.cr, by rw [hb.cell h.ll]; exact h.cl, by rw [hb.cell h.lw]; exact h.cw, by rw [hb.cell h.la]; exact h.ca,
    Nat.lt_of_lt_of_le h.lr hb.size, Nat.lt_of_lt_of_le h.ll hb.size, Nat.lt_of_lt_of_le h.lw hb.size, Nat.lt_of_lt_of_le h.la hb.size⟩

def leafV (r : Rw) (e : Ex) : Val := if e.op = 2 then r.vals e.m.toNat else e.v

/-- The expression's own block, and behind it the result's. -/
theorem boxER (w : World) (e : Ex) : ∃ W g, w.heap.size = g ∧ (w.alloc (.cells #[.int .u8 e.op, .int .u8 e.v.k, .int .i64 e.v.n, .int .i64 e.v.u, .string e.v.t, .int .i64 e.m, .slice e.a e.len e.cap] 26)).alloc (.cells #[.int .u8 0, .int .i64 0, .int .i64 0, .string ⟨#[]⟩] 23) = W ∧ BoxE W g e ∧ Boxed W (g + 1) 0 0 0 ⟨#[]⟩ ∧ Soft W (g + 1) ∧ Below w.heap.size w W ∧ W.heap.size = g + 1 + 1 := by
  have h1 := Boxed.new (w.alloc (.cells #[.int .u8 e.op, .int .u8 e.v.k, .int .i64 e.v.n, .int .i64 e.v.u, .string e.v.t, .int .i64 e.m, .slice e.a e.len e.cap] 26)) 0 0 0 ⟨#[]⟩ 23
  have h2 := Soft.new (w.alloc (.cells #[.int .u8 e.op, .int .u8 e.v.k, .int .i64 e.v.n, .int .i64 e.v.u, .string e.v.t, .int .i64 e.m, .slice e.a e.len e.cap] 26)) 0 0 0 ⟨#[]⟩ 23
  rw [show (w.alloc (.cells #[.int .u8 e.op, .int .u8 e.v.k, .int .i64 e.v.n, .int .i64 e.v.u, .string e.v.t, .int .i64 e.m, .slice e.a e.len e.cap] 26)).heap.size = w.heap.size + 1 by simp] at h1 h2
  exact ⟨_, _, rfl, rfl, (BoxE.new w e).below (Below.allocs _ _), h1, h2, ((Below.refl _ _).alloc (Nat.le_refl _) _).alloc (by simp) _, by simp⟩

set_option maxRecDepth 100000 in
set_option maxHeartbeats 1000000 in
theorem leaf_lit (gr : Nat) (e : Ex) (w : World) (ho : e.op ≠ 2) :
    Calls Try.prog 35 #[.agg #[.int .u8 e.op, .int .u8 e.v.k, .int .i64 e.v.n, .int .i64 e.v.u, .string e.v.t, .int .i64 e.m, .slice e.a e.len e.cap], .pointer (some ⟨gr, 0, none⟩)] w fun x w' => x = .returned (.agg #[.int .u8 e.v.k, .int .i64 e.v.n, .int .i64 e.v.u, .string e.v.t]) ∧ Below w.heap.size w w' := by
  have o2 : (e.op == 2) = false := by simpa using ho
  obtain ⟨W, g, hg, hW, B, R, S, hb, hs⟩ := boxER w e
  have HR := Lib.hid R
  have HB := Lib.hid hb
  have HG := Lib.hid hg
  obtain ⟨e0, e1, e2, e3, e4, e5, e6, e7⟩ := B
  obtain ⟨r0, r1, r2, r3, r4⟩ := R
  obtain ⟨s0, s1, s2, s3, s4⟩ := S
  clear hb hs ho
  go_enter Try.func35, Try.ntmps35
  go_wp2_with fail
  have hwz := below_put4 HB.out (by have := HG.out; omega : w.heap.size ≤ g + 1) e.v.k e.v.n e.v.u e.v.t
  obtain ⟨q0, q1, q2, q3, q4⟩ := boxed_put4 HR.out e.v.k e.v.n e.v.u e.v.t
  exact bodyPost_ret (w := put4 W (g + 1) e.v.k e.v.n e.v.u e.v.t) (v := .agg #[.int .u8 e.v.k, .int .i64 e.v.n, .int .i64 e.v.u, .string e.v.t]) (by simp [results, Try.results35, go_sem, q0, q1, q2, q3]) rfl ⟨rfl, hwz⟩

set_option maxRecDepth 100000 in
set_option maxHeartbeats 1000000 in
theorem leaf_col (gr : Nat) (r : Rw) (e : Ex) (w : World) (hgr : gr < w.heap.size) (hc : w.cell? ⟨gr, 0, none⟩ = some (.slice r.a r.len r.cap)) (hin : r.In w) (ho : e.op = 2) (k : Nat) (hk : e.m = (k : Int)) (hl : k < r.len) :
    Calls Try.prog 35 #[.agg #[.int .u8 e.op, .int .u8 e.v.k, .int .i64 e.v.n, .int .i64 e.v.u, .string e.v.t, .int .i64 e.m, .slice e.a e.len e.cap], .pointer (some ⟨gr, 0, none⟩)] w fun x w' => x = .returned (.agg #[.int .u8 (r.vals k).k, .int .i64 (r.vals k).n, .int .i64 (r.vals k).u, .string (r.vals k).t]) ∧ Below w.heap.size w w' := by
  have o2 : (e.op == 2) = true := by simpa using ho
  obtain ⟨b, o, ha, hat⟩ := hin.at' (by omega)
  obtain ⟨W, g, hg, hW, B, R, S, hb, hs⟩ := boxER w e
  have hcr : W.cell? ⟨gr, 0, none⟩ = some (.slice (some ⟨b, o, none⟩) r.len r.cap) := by rw [hb.cell hgr, hc, ha]
  have hat' := (hat k hl).below hb
  obtain ⟨v, hv⟩ : ∃ v, r.vals k = v := ⟨_, rfl⟩
  rw [hv] at hat' ⊢
  have hm : r.len ≤ 9223372036854775807 := by have := hin.lc; have := hin.cm; unfold maxLen at this; omega
  have HR := Lib.hid R
  have HB := Lib.hid hb
  have HG := Lib.hid hg
  obtain ⟨a0, a1, a2, a3, a4⟩ := hat'
  obtain ⟨e0, e1, e2, e3, e4, e5, e6, e7⟩ := B
  rw [hk] at e5
  obtain ⟨r0, r1, r2, r3, r4⟩ := R
  obtain ⟨s0, s1, s2, s3, s4⟩ := S
  clear hb hs ho hat hin hc hv ha
  have HK := Lib.hid hk
  clear hk
  go_enter Try.func35, Try.ntmps35
  go_wp2_with fail
  have hwz := below_put4 HB.out (by have := HG.out; omega : w.heap.size ≤ g + 1) v.k v.n v.u v.t
  obtain ⟨q0, q1, q2, q3, q4⟩ := boxed_put4 HR.out v.k v.n v.u v.t
  exact bodyPost_ret (w := put4 W (g + 1) v.k v.n v.u v.t) (v := .agg #[.int .u8 v.k, .int .i64 v.n, .int .i64 v.u, .string v.t]) (by simp [results, Try.results35, go_sem, q0, q1, q2, q3]) rfl ⟨rfl, hwz⟩

/-- What a leaf comes to. -/
theorem leaf_is (gr : Nat) (r : Rw) (e : Ex) (w : World) (hgr : gr < w.heap.size) (hc : w.cell? ⟨gr, 0, none⟩ = some (.slice r.a r.len r.cap)) (hin : r.In w) (hm : e.op = 2 → hasBelow r.len e.m = true) (v : Val) (hv : leafV r e = v) :
    Calls Try.prog 35 #[.agg #[.int .u8 e.op, .int .u8 e.v.k, .int .i64 e.v.n, .int .i64 e.v.u, .string e.v.t, .int .i64 e.m, .slice e.a e.len e.cap], .pointer (some ⟨gr, 0, none⟩)] w fun x w' => x = .returned (.agg #[.int .u8 v.k, .int .i64 v.n, .int .i64 v.u, .string v.t]) ∧ Below w.heap.size w w' := by
  subst hv
  by_cases ho : e.op = 2
  · have hb := hm ho
    simp only [hasBelow, Bool.and_eq_true, decide_eq_true_eq] at hb
    have e1 : leafV r e = r.vals e.m.toNat := by unfold leafV; rw [if_pos ho]
    rw [e1]
    exact leaf_col gr r e w hgr hc hin ho e.m.toNat (by omega) (by omega)
  · have e1 : leafV r e = e.v := by unfold leafV; rw [if_neg ho]
    rw [e1]
    exact leaf_lit gr e w ho

end Go.Proofs.Ytflclkmhdngmaaa
