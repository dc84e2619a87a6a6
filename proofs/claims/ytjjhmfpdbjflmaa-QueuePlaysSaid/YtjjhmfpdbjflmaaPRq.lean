/-
  The document's lock, as the laws see it (stage 14).
-/
import Derived.Test.YtjjhmfpdbjflmaaPRcopy
namespace Go.Proofs.Ytjjhmfpdbjflmaa
open Go.RowKit
set_option linter.unusedVariables false

structure Rq (X : Nat → Prop) (N : Nat) (W : World) (x z : Nat) (A : Lk) : Prop where
  ok : Ok A
  xs : ∀ k, X k → k < W.heap.size
  nw : N ≤ W.heap.size
  len : A.hd.length + A.wt.length ≤ z
  is : ∃ s t, RkM W x s t A ∧ ∀ k, RkF x s t k → QF X N k

section
variable {X : Nat → Prop} {N : Nat} {W W' w : World} {x z : Nat} {A : Lk}
theorem Rq.stay (H : Rq X N W x z A) (hs : Stay (QF X N) W W') : Rq X N W' x z A := by
  obtain ⟨s, t, h1, h3⟩ := H.is
  exact ⟨H.ok, fun k hk => Nat.lt_of_lt_of_le (H.xs k hk) hs.size, Nat.le_trans H.nw hs.size, H.len, s, t, h1.stay (hs.mono h3), h3⟩
theorem Rq.below (H : Rq X N W x z A) (hb : Below W.heap.size W W') : Rq X N W' x z A := H.stay (Stay.of_below hb)
theorem Rq.own (H : Rq X N W x z A) : ∃ Y : Nat → Prop, (∀ k, Y k → QF X N k ∧ k < W.heap.size) ∧ ∀ W', Stay Y W W' → Rq X N W' x z A := by
  obtain ⟨s, t, h1, h3⟩ := H.is
  exact ⟨RkF x s t, fun k hk => ⟨h3 k hk, h1.lt k hk⟩, fun W' hs => ⟨H.ok, fun k hk => Nat.lt_of_lt_of_le (H.xs k hk) hs.size, Nat.le_trans H.nw hs.size, H.len, s, t, h1.stay hs, h3⟩⟩
theorem Rq.apart (H : Rq X N W x z A) {Y : Nat → Prop} (hy : ∀ k, Y k → W.heap.size ≤ k) (hY : ∀ k, Y k → k < W'.heap.size) (hb : Below W.heap.size W W') : Rq (fun k => X k ∨ Y k) N W' x z A := by
  obtain ⟨s, t, h1, h3⟩ := H.is
  exact ⟨H.ok, fun k hk => hk.elim (fun e => Nat.lt_of_lt_of_le (H.xs k e) hb.size) (hY k), Nat.le_trans H.nw hb.size, H.len, s, t, h1.below hb, fun k hk => ⟨(h3 k hk).1, fun e => e.elim (h3 k hk).2 (fun e => by have := h1.lt k hk; have := hy k e; omega)⟩⟩
theorem Rq.fewer (H : Rq X N W x z A) {Y : Nat → Prop} (hy : ∀ k, Y k → X k) : Rq Y N W x z A := by
  obtain ⟨s, t, h1, h3⟩ := H.is
  exact ⟨H.ok, fun k hk => H.xs k (hy k hk), H.nw, H.len, s, t, h1, fun k hk => ⟨(h3 k hk).1, fun e => (h3 k hk).2 (hy k e)⟩⟩
theorem Rq.older (H : Rq X N W x z A) {M : Nat} (hm : M ≤ N) : Rq X M W x z A := by
  obtain ⟨s, t, h1, h3⟩ := H.is
  exact ⟨H.ok, H.xs, Nat.le_trans hm H.nw, H.len, s, t, h1, fun k hk => ⟨Nat.le_trans hm (h3 k hk).1, (h3 k hk).2⟩⟩

theorem rnew_q (c : Int) (w : World) (hc : c = 1 ∨ c = 2) : Calls Try.prog 10 #[.int .u8 c] w fun e w' => ∃ x, e = .returned (.tuple #[.pointer (some ⟨x, 0, none⟩), .int .i64 0]) ∧ Rq (fun _ => False) w.heap.size w' x 0 (Lk.new c) ∧ Below w.heap.size w w' := by
  refine (rnew_is c w hc).mono ?_
  rintro e w' ⟨x, rfl, h1, h2, h4⟩
  refine ⟨x, rfl, ⟨Ok.new hc, fun k hk => hk.elim, h4.size, Nat.le_refl _, _, _, h1, fun k hk => ⟨?_, fun e => e.elim⟩⟩, h4⟩
  rcases hk with rfl | hk | hk
  · exact h2
  · cases hk
  · cases hk
theorem rask_q (y m : Int) (hy : I64 y) (hm : U8 m) (hz : z ≤ 50000) (H : Rq X N w x z A) :
    Calls Try.prog 17 #[.pointer (some ⟨x, 0, none⟩), .int .i64 y, .int .u8 m] w fun e w' => e = .returned (.tuple #[.bool (A.askB y m), .int .i64 (A.askE y m)]) ∧ Rq X N w' x (z + 1) (A.ask y m) ∧ Touch (QF X N) w w' := by
  obtain ⟨s, t, h1, h3⟩ := H.is
  refine (rask_is w x s t A y m H.ok.ok hm (by have := H.len; omega) h1).mono ?_
  rintro e w' ⟨rfl, s', t', q1, q2, q3⟩
  refine ⟨rfl, ⟨H.ok.ask hy, fun k hk => Nat.lt_of_lt_of_le (H.xs k hk) q3.size, Nat.le_trans H.nw q3.size, by have := ask_len A y m; have := H.len; omega, s', t', q1, fun k hk => ?_⟩, q3.mono h3⟩
  rcases q2 k hk with e | e
  · exact h3 k e
  · exact ⟨Nat.le_trans H.nw e, fun e2 => by have := H.xs k e2; omega⟩
theorem rdrop_q (y : Int) (hz : z ≤ 50000) (H : Rq X N w x z A) :
    Calls Try.prog 14 #[.pointer (some ⟨x, 0, none⟩), .int .i64 y] w fun e w' => ∃ v, e = .returned (.tuple #[v, .int .i64 (Lk.dropE y)]) ∧ RowI w' v (A.dropG y) ∧ (∀ k, v.ownBlock = some k → w.heap.size ≤ k) ∧ Rq X N w' x z (A.drop y) ∧ Touch (QF X N) w w' := by
  obtain ⟨s, t, h1, h3⟩ := H.is
  refine (rdrop_is w x s t A y H.ok.ok (by have := H.len; omega) h1).mono ?_
  rintro e w' ⟨v, rfl, r1, r2, s', t', q1, q2, q3⟩
  refine ⟨v, rfl, r1, r2, ⟨H.ok.drop y, fun k hk => Nat.lt_of_lt_of_le (H.xs k hk) q3.size, Nat.le_trans H.nw q3.size, by have := drop_len A y; have := H.len; omega, s', t', q1, fun k hk => ?_⟩, q3.mono h3⟩
  rcases q2 k hk with e | e
  · exact h3 k e
  · exact ⟨Nat.le_trans H.nw e, fun e2 => by have := H.xs k e2; omega⟩
theorem rcopy_q (hz : z ≤ 50000) (H : Rq X N w x z A) :
    Calls Try.prog 12 #[.pointer (some ⟨x, 0, none⟩)] w fun e w' => ∃ x', e = .returned (.pointer (some ⟨x', 0, none⟩)) ∧ Rq (fun _ => False) w.heap.size w' x' z A ∧ Below w.heap.size w w' := by
  obtain ⟨s, t, h1, h3⟩ := H.is
  refine (rcopy_is w x s t A (by have := H.len; omega) (by have := H.len; omega) h1).mono ?_
  rintro e w' ⟨x', s', t', rfl, q1, q2, q3⟩
  exact ⟨x', rfl, ⟨H.ok, fun k hk => hk.elim, q3.size, H.len, s', t', q1, fun k hk => ⟨q2 k hk, fun e => e.elim⟩⟩, q3⟩
theorem rheld_q (y : Int) (H : Rq X N w x z A) (r : Int) (hr : heldL A.hd y = r) : Calls Try.prog 43 #[.pointer (some ⟨x, 0, none⟩), .int .i64 y] w fun e w' => e = .returned (.int .u16 r) ∧ Below w.heap.size w w' := by
  obtain ⟨s, t, h1, h3⟩ := H.is
  exact rheld_is w x s t A y h1 r hr
theorem rwaits_q (y : Int) (H : Rq X N w x z A) (m : Int) (hm : waitsV A y = m) (q : Bool) (hq : waitsB A y = q) : Calls Try.prog 45 #[.pointer (some ⟨x, 0, none⟩), .int .i64 y] w fun e w' => e = .returned (.tuple #[.int .u8 m, .bool q]) ∧ Below w.heap.size w w' := by
  obtain ⟨s, t, h1, h3⟩ := H.is
  exact rwaits_is w x s t A y h1 m hm q hq
theorem rfor_q (y : Int) (hz : z ≤ 50000) (H : Rq X N w x z A) : Calls Try.prog 46 #[.pointer (some ⟨x, 0, none⟩), .int .i64 y] w fun e w' => ∃ v, e = .returned v ∧ RowI w' v (A.whom y) ∧ (∀ k, v.ownBlock = some k → w.heap.size ≤ k) ∧ Below w.heap.size w w' := by
  obtain ⟨s, t, h1, h3⟩ := H.is
  exact rfor_is w x s t A y H.ok.ok (by have := H.len; omega) h1
theorem rhold_q (hz : z ≤ 50000) (H : Rq X N w x z A) : Calls Try.prog 47 #[.pointer (some ⟨x, 0, none⟩)] w fun e w' => ∃ v, e = .returned v ∧ RowI w' v (fsts A.hd) ∧ (∀ k, v.ownBlock = some k → w.heap.size ≤ k) ∧ Below w.heap.size w w' := by
  obtain ⟨s, t, h1, h3⟩ := H.is
  exact rhold_is w x s t A (by have := H.len; omega) h1
theorem rrow_q (hz : z ≤ 50000) (H : Rq X N w x z A) : Calls Try.prog 48 #[.pointer (some ⟨x, 0, none⟩)] w fun e w' => ∃ v, e = .returned v ∧ RowI w' v (fsts A.wt) ∧ (∀ k, v.ownBlock = some k → w.heap.size ≤ k) ∧ Below w.heap.size w w' := by
  obtain ⟨s, t, h1, h3⟩ := H.is
  exact rrow_is w x s t A (by have := H.len; omega) h1
/-- Its two rows, as they lie. -/
theorem Rq.cells (H : Rq X N W x z A) : ∃ sa sn sc ta tn tc, sn = A.hd.length ∧ tn = A.wt.length ∧ ∀ W', Below W.heap.size W W' → W'.cell? ⟨x, 1, none⟩ = some (.slice sa sn sc) ∧ W'.cell? ⟨x, 2, none⟩ = some (.slice ta tn tc) ∧ x < W'.heap.size := by
  obtain ⟨s, t, h1, h3⟩ := H.is
  obtain ⟨sa, sc, rfl, -, -⟩ := h1.hd.form
  obtain ⟨ta, tc, rfl, -, -⟩ := h1.wt.form
  exact ⟨sa, _, sc, ta, _, tc, rfl, rfl, fun W' hb => ⟨(h1.below hb).cells.2.1, (h1.below hb).cells.2.2.1, (h1.below hb).cells.2.2.2⟩⟩
end

end Go.Proofs.Ytjjhmfpdbjflmaa
