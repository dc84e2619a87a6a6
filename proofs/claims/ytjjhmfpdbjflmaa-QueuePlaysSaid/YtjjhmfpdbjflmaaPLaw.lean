/-
  A lock, as the laws see it: newer than N, apart from the blocks X (stage 14); steps as they lie.
-/
import Derived.Test.YtjjhmfpdbjflmaaPAsk
namespace Go.Proofs.Ytjjhmfpdbjflmaa
open Go.RowKit
set_option linter.unusedVariables false

/-- The blocks that a lock may have: newer than N, none of X. -/
def QF (X : Nat → Prop) (N : Nat) (k : Nat) : Prop := N ≤ k ∧ ¬ X k
/-- At block h stands the lock A; so many steps at most were done. -/
structure Qu (X : Nat → Prop) (N : Nat) (W : World) (h z : Nat) (A : Lk) : Prop where
  ok : Ok A
  xs : ∀ k, X k → k < W.heap.size
  nw : N ≤ W.heap.size
  is : ∃ b s n, LkM W h b s n A ∧ n + A.wt.length ≤ z ∧ ∀ k, LkF h b s k → QF X N k

section
variable {X : Nat → Prop} {N : Nat} {W W' w : World} {h z : Nat} {A : Lk}
theorem Qu.stay (H : Qu X N W h z A) (hs : Stay (QF X N) W W') : Qu X N W' h z A := by
  obtain ⟨b, s, n, h1, h2, h3⟩ := H.is
  exact ⟨H.ok, fun k hk => Nat.lt_of_lt_of_le (H.xs k hk) hs.size, Nat.le_trans H.nw hs.size, b, s, n, h1.stay (hs.mono h3), h2, h3⟩
theorem Qu.below (H : Qu X N W h z A) (hb : Below W.heap.size W W') : Qu X N W' h z A := H.stay (Stay.of_below hb)
theorem Qu.mono (H : Qu X N W h z A) {z' : Nat} (hz : z ≤ z') : Qu X N W h z' A := by
  obtain ⟨b, s, n, h1, h2, h3⟩ := H.is
  exact ⟨H.ok, H.xs, H.nw, b, s, n, h1, Nat.le_trans h2 hz, h3⟩
/-- Apart from what is new. -/
theorem Qu.apart (H : Qu X N W h z A) {Y : Nat → Prop} (hy : ∀ k, Y k → W.heap.size ≤ k) (hw : W.heap.size ≤ W'.heap.size) (hY : ∀ k, Y k → k < W'.heap.size) (hb : Below W.heap.size W W') : Qu (fun k => X k ∨ Y k) N W' h z A := by
  obtain ⟨b, s, n, h1, h2, h3⟩ := H.is
  exact ⟨H.ok, fun k hk => hk.elim (fun e => Nat.lt_of_lt_of_le (H.xs k e) hw) (hY k), Nat.le_trans H.nw hw, b, s, n, h1.below hb, h2, fun k hk => ⟨(h3 k hk).1, fun e => e.elim (h3 k hk).2 (fun e => by have := h1.lt k hk; have := hy k e; omega)⟩⟩
theorem Qu.fewer (H : Qu X N W h z A) {Y : Nat → Prop} (hy : ∀ k, Y k → X k) : Qu Y N W h z A := by
  obtain ⟨b, s, n, h1, h2, h3⟩ := H.is
  exact ⟨H.ok, fun k hk => H.xs k (hy k hk), H.nw, b, s, n, h1, h2, fun k hk => ⟨(h3 k hk).1, fun e => (h3 k hk).2 (hy k e)⟩⟩
theorem Qu.older (H : Qu X N W h z A) {M : Nat} (hm : M ≤ N) : Qu X M W h z A := by
  obtain ⟨b, s, n, h1, h2, h3⟩ := H.is
  exact ⟨H.ok, H.xs, Nat.le_trans hm H.nw, b, s, n, h1, h2, fun k hk => ⟨Nat.le_trans hm (h3 k hk).1, (h3 k hk).2⟩⟩

theorem new_q (c : Int) (w : World) (hc : c = 1 ∨ c = 2) : Calls Try.prog 9 #[.int .u8 c] w fun e w' => ∃ h, e = .returned (.tuple #[.pointer (some ⟨h, 0, none⟩), .int .i64 0]) ∧ Qu (fun _ => False) w.heap.size w' h 0 (Lk.new c) ∧ Below w.heap.size w w' := by
  refine (new_is c w hc).mono ?_
  rintro e w' ⟨h, b, rfl, h1, h2, h3, h4⟩
  refine ⟨h, rfl, ⟨Ok.new hc, fun k hk => hk.elim, h4.size, b, _, 0, h1, Nat.le_refl _, fun k hk => ⟨?_, fun e => e.elim⟩⟩, h4⟩
  rcases hk with rfl | rfl | hk
  · exact h2
  · exact h3
  · cases hk

theorem ask_q (x m : Int) (hx : I64 x) (hm : U8 m) (hz : z ≤ 50000) (H : Qu X N w h z A) :
    Calls Try.prog 16 #[.pointer (some ⟨h, 0, none⟩), .int .i64 x, .int .u8 m] w fun e w' => e = .returned (.tuple #[.bool (A.askB x m), .int .i64 (A.askE x m)]) ∧ Qu X N w' h (z + 1) (A.ask x m) ∧ Touch (QF X N) w w' := by
  obtain ⟨b, s, n, h1, h2, h3⟩ := H.is
  refine (ask_is w h b s n A x m H.ok.ok hx hm (by omega) h1).mono ?_
  rintro e w' ⟨rfl, s', n', q1, q2, q3, q4⟩
  refine ⟨rfl, ⟨H.ok.ask hx, fun k hk => Nat.lt_of_lt_of_le (H.xs k hk) q4.size, Nat.le_trans H.nw q4.size, b, s', n', q1, by omega, fun k hk => ?_⟩, q4.mono h3⟩
  rcases hk with rfl | rfl | hk
  · exact h3 _ (.inl rfl)
  · exact h3 _ (.inr (.inl rfl))
  · rcases q3 k hk with e | e
    · exact h3 k (.inr (.inr e))
    · exact ⟨Nat.le_trans H.nw e, fun e2 => by have := H.xs k e2; omega⟩

theorem drop_q (x : Int) (hx : I64 x) (hz : z ≤ 50000) (H : Qu X N w h z A) :
    Calls Try.prog 13 #[.pointer (some ⟨h, 0, none⟩), .int .i64 x] w fun e w' => ∃ v, e = .returned (.tuple #[v, .int .i64 (Lk.dropE x)]) ∧ RowI w' v (A.dropG x) ∧ (∀ k, v.ownBlock = some k → w.heap.size ≤ k) ∧ Qu X N w' h z (A.drop x) ∧ Touch (QF X N) w w' := by
  obtain ⟨b, s, n, h1, h2, h3⟩ := H.is
  refine (drop_is w h b s n A x H.ok.ok hx (by omega) h1).mono ?_
  rintro e w' ⟨v, rfl, r1, r2, s', n', q1, q2, q3, q4⟩
  refine ⟨v, rfl, r1, r2, ⟨H.ok.drop x, fun k hk => Nat.lt_of_lt_of_le (H.xs k hk) q4.size, Nat.le_trans H.nw q4.size, b, s', n', q1, by omega, fun k hk => h3 k ?_⟩, q4.mono h3⟩
  rcases hk with rfl | rfl | hk
  · exact .inl rfl
  · exact .inr (.inl rfl)
  · exact .inr (.inr (by rw [← q2]; exact hk))

theorem copy_q (hz : z ≤ 50000) (H : Qu X N w h z A) :
    Calls Try.prog 11 #[.pointer (some ⟨h, 0, none⟩)] w fun e w' => ∃ h2, e = .returned (.pointer (some ⟨h2, 0, none⟩)) ∧ Qu (fun _ => False) w.heap.size w' h2 z A ∧ Below w.heap.size w w' := by
  obtain ⟨b, s, n, h1, h2, h3⟩ := H.is
  refine (copy_is w h b s n A (by omega) h1).mono ?_
  rintro e w' ⟨h5, b5, s5, rfl, q1, q2, q3⟩
  exact ⟨h5, rfl, ⟨H.ok, fun k hk => hk.elim, q3.size, b5, s5, n, q1, h2, fun k hk => ⟨q2 k hk, fun e => e.elim⟩⟩, q3⟩

theorem held_q (x : Int) (hx : I64 x) (H : Qu X N w h z A) (r : Int) (hr : heldL A.hd x = r) :
    Calls Try.prog 20 #[.pointer (some ⟨h, 0, none⟩), .int .i64 x] w fun e w' => e = .returned (.int .u16 r) ∧ Below w.heap.size w w' := by
  obtain ⟨b, s, n, h1, h2, h3⟩ := H.is
  exact held_is w h b s n A x hx h1 r hr
theorem waits_q (x : Int) (hz : z ≤ 50000) (H : Qu X N w h z A) (m : Int) (hm : waitsV A x = m) (q : Bool) (hq : waitsB A x = q) :
    Calls Try.prog 19 #[.pointer (some ⟨h, 0, none⟩), .int .i64 x] w fun e w' => e = .returned (.tuple #[.int .u8 m, .bool q]) ∧ Below w.heap.size w w' := by
  obtain ⟨b, s, n, h1, h2, h3⟩ := H.is
  exact waits_is w h b s n A x (by omega) h1 m hm q hq
theorem idle_q (H : Qu X N w h z A) (q : Bool) (hq : decide (A.hd = [] ∧ A.wt = []) = q) :
    Calls Try.prog 24 #[.pointer (some ⟨h, 0, none⟩)] w fun e w' => e = .returned (.bool q) ∧ Below w.heap.size w w' := by
  obtain ⟨b, s, n, h1, h2, h3⟩ := H.is
  exact idle_is w h b s n A H.ok.ok h1 q hq
theorem for_q (x : Int) (hz : z ≤ 50000) (H : Qu X N w h z A) :
    Calls Try.prog 21 #[.pointer (some ⟨h, 0, none⟩), .int .i64 x] w fun e w' => ∃ v, e = .returned v ∧ RowI w' v (A.whom x) ∧ (∀ k, v.ownBlock = some k → w.heap.size ≤ k) ∧ Below w.heap.size w w' := by
  obtain ⟨b, s, n, h1, h2, h3⟩ := H.is
  exact for_is w h b s n A x H.ok.ok (by omega) h1
theorem holders_q (hz : z ≤ 50000) (H : Qu X N w h z A) :
    Calls Try.prog 22 #[.pointer (some ⟨h, 0, none⟩)] w fun e w' => ∃ v, e = .returned v ∧ RowI w' v (fsts A.hd) ∧ (∀ k, v.ownBlock = some k → w.heap.size ≤ k) ∧ Below w.heap.size w w' := by
  obtain ⟨b, s, n, h1, h2, h3⟩ := H.is
  exact holders_is w h b s n A H.ok.ok (by omega) h1
theorem row_q (hz : z ≤ 50000) (H : Qu X N w h z A) :
    Calls Try.prog 23 #[.pointer (some ⟨h, 0, none⟩)] w fun e w' => ∃ v, e = .returned v ∧ RowI w' v (fsts A.wt) ∧ (∀ k, v.ownBlock = some k → w.heap.size ≤ k) ∧ Below w.heap.size w w' := by
  obtain ⟨b, s, n, h1, h2, h3⟩ := H.is
  exact row_is w h b s n A (by omega) h1
/-- There are no more waiting than steps. -/
theorem Qu.wlen (H : Qu X N W h z A) : A.wt.length ≤ z := by
  obtain ⟨b, s, n, h1, h2, h3⟩ := H.is
  omega
end

/-! ### Steps -/

structure Stp where
  who : Int
  mode : Int
  drop : Bool
def stpC (s : Stp) : List Value := [.int .i64 s.who, .int .u8 s.mode, .bool s.drop]
structure Stp.wf (s : Stp) : Prop where
  who : I64 s.who
  mode : U8 s.mode

def AtS (W : World) (b o : Nat) (s : Stp) : Prop := b < W.heap.size ∧ ∀ j v, (stpC s)[j]? = some v → W.cell? ⟨b, o + j, none⟩ = some v
structure SlSt (W : World) (a : Option Addr) (c : Nat) (l : List Stp) : Prop where
  lc : l.length ≤ c
  cm : c ≤ maxLen
  at' : l ≠ [] → ∃ b o, a = some ⟨b, o, none⟩ ∧ ∀ i s, l[i]? = some s → AtS W b (o + i * 3) s
  wf : ∀ s ∈ l, s.wf
/-- All that is older than N is as it was. -/
theorem AtS.below {N : Nat} {W W' : World} {b o : Nat} {s : Stp} (h : AtS W b o s) (hb : Below N W W') (hN : b < N) : AtS W' b o s :=
  ⟨Nat.lt_of_lt_of_le h.1 hb.size, fun j v hv => by rw [hb.cell (p := ⟨b, o + j, none⟩) hN]; exact h.2 j v hv⟩
theorem SlSt.below {W W' : World} {a : Option Addr} {c : Nat} {l : List Stp} (h : SlSt W a c l) (hb : Below W.heap.size W W') : SlSt W' a c l :=
  ⟨h.lc, h.cm, fun hl => by obtain ⟨b, o, e, hx⟩ := h.at' hl; exact ⟨b, o, e, fun i s hs => (hx i s hs).below hb (hx i s hs).1⟩, h.wf⟩
theorem SlSt.nil (W : World) (a : Option Addr) (c : Nat) (hc : c ≤ maxLen) : SlSt W a c [] := ⟨Nat.zero_le _, hc, fun h => absurd rfl h, fun _ h => absurd h List.not_mem_nil⟩
theorem SlSt.get {W : World} {a : Option Addr} {c : Nat} {l : List Stp} (h : SlSt W a c l) {i : Nat} (hi : i < l.length) : ∃ (s : Stp) (b o : Nat), l[i]? = some s ∧ a = some ⟨b, o, none⟩ ∧ s.wf ∧ b < W.heap.size ∧ W.cell? ⟨b, o + i * 3, none⟩ = some (.int .i64 s.who) ∧ W.cell? ⟨b, o + i * 3 + 1, none⟩ = some (.int .u8 s.mode) ∧ W.cell? ⟨b, o + i * 3 + 2, none⟩ = some (.bool s.drop) := by
  have hs : l[i]? = some l[i] := List.getElem?_eq_getElem hi
  obtain ⟨b, o, e, hx⟩ := h.at' (by intro e; rw [e] at hi; exact absurd hi (Nat.not_lt_zero _))
  obtain ⟨h1, h2⟩ := hx i _ hs
  exact ⟨l[i], b, o, hs, e, h.wf _ (List.getElem_mem hi), h1, h2 0 _ rfl, h2 1 _ rfl, h2 2 _ rfl⟩
/-- One step of them. -/
theorem SlSt.one {W : World} {b o c : Nat} {l : List Stp} (h : SlSt W (some ⟨b, o, none⟩) c l) {i : Nat} {s : Stp} (hs : l[i]? = some s) : SlSt W (some ⟨b, o + i * 3, none⟩) (c - i) [s] := by
  have hi := (List.getElem?_eq_some_iff.1 hs).1
  have := h.lc
  refine ⟨by simp; omega, by have := h.cm; omega, fun _ => ⟨b, _, rfl, fun j t ht => ?_⟩, fun t ht => ?_⟩
  · obtain ⟨b', o', e, hx⟩ := h.at' (by intro e; rw [e] at hi; exact absurd hi (Nat.not_lt_zero _))
    cases e
    cases j with
    | zero =>
      simp only [List.getElem?_cons_zero, Option.some.injEq] at ht
      subst ht
      rw [Nat.zero_mul, Nat.add_zero]
      exact hx i _ hs
    | succ j => simp at ht
  · rw [List.mem_singleton] at ht
    subst ht
    exact h.wf _ (List.mem_of_getElem? hs)

/-- A step, done. -/
def Lk.do (A : Lk) (s : Stp) : Lk := if s.drop then A.drop s.who else A.ask s.who s.mode
def Lk.play (A : Lk) (l : List Stp) : Lk := l.foldl Lk.do A
theorem play_nil (A : Lk) : A.play [] = A := rfl
theorem play_one (A : Lk) (s : Stp) : A.play [s] = A.do s := rfl
theorem play_take {A : Lk} {l : List Stp} {i : Nat} {s : Stp} (h : l[i]? = some s) : A.play (l.take (i + 1)) = (A.play (l.take i)).do s := by
  unfold Lk.play
  rw [List.take_add_one, h, List.foldl_append]
  rfl
theorem do_c (A : Lk) (s : Stp) : (A.do s).c = A.c := by
  unfold Lk.do
  split
  · exact drop_c _ _
  · exact ask_c _ _ _
theorem play_c (A : Lk) (l : List Stp) : (A.play l).c = A.c := by
  unfold Lk.play
  induction l generalizing A with
  | nil => rfl
  | cons s l ih => rw [List.foldl_cons, ih, do_c]

/-! ### Is a number among others? -/

set_option maxRecDepth 100000 in
set_option maxHeartbeats 4000000 in
theorem in_ex (a : Option Addr) (n c : Nat) (l : List Int) (hln : l.length = n) (x : Int) (w : World) (h : RowI w (.slice a n c) l) (hn : n ≤ 1000000) (q : Bool) (hq : decide (x ∈ l) = q) :
    Calls Try.prog 28 #[.slice a n c, .int .i64 x] w fun e w' => e = .returned (.bool q) ∧ Below w.heap.size w w' := by
  have HR := Lib.hid h
  have HL := Lib.hid hln
  have HQ := Lib.hid hq
  clear h hln hq
  go_enter Try.func28, Try.ntmps28
  go_wp2_with fail
  go_loopg [5] n (fun gg s5 wr => ∃ (i : Nat), s5 = .int .i64 i ∧ i ≤ n ∧ n - i ≤ gg ∧ wr = w ∧ Hid (∀ j : Nat, j < i → l.getD j 0 ≠ x))
  case atStart => exact ⟨0, rfl, Nat.zero_le _, by omega, rfl, Lib.hid (fun j hj => by omega)⟩
  case round =>
    obtain ⟨i, rfl, hi, hgg, rfl, HN⟩ := hrel
    by_cases hlt : i < n
    · have hltz : (i : Int) < (n : Int) := by omega
      obtain ⟨b, c', e1, -, -, hbl, c0, -⟩ := HR.out.at (j := i) (by rw [HL.out]; exact hlt)
      have ea : a = some ⟨b, 0, none⟩ := by
        simp only [Value.slice.injEq] at e1
        exact e1.1
      subst ea
      have d0 := c0 i (by rw [HL.out]; exact hlt)
      obtain ⟨y, hy⟩ : ∃ y, l.getD i 0 = y := ⟨_, rfl⟩
      rw [hy] at d0
      have HY := Lib.hid hy
      clear e1 c0 hy
      have HLT := Lib.hid (And.intro hlt (And.intro hi hgg))
      clear hi hgg
      by_cases hyx : y = x
      · have hc : (y == x) = true := by simpa using hyx
        go_wp2_with fail
        go_ret
        have e9 := HQ.out
        have : x ∈ l := by
          rw [← hyx, ← HY.out]
          have : i < l.length := by rw [HL.out]; exact HLT.out.1
          rw [List.getD_eq_getElem?_getD, List.getElem?_eq_getElem this]
          exact List.getElem_mem this
        rw [decide_eq_true this] at e9
        subst e9
        exact ⟨rfl, Below.refl _ _⟩
      · have hc : (y == x) = false := by simpa using hyx
        have HNE := Lib.hid hyx
        clear hyx
        go_wp2_with fail
        go_roundg (n - (i + 1))
        case measure => have := HLT.out; omega
        case rel => exact ⟨i + 1, by go_num, by have := HLT.out; omega, Nat.le_refl _, rfl, Lib.hid (fun j hj => by
          by_cases e : j = i
          · subst e
            rw [HY.out]
            exact HNE.out
          · exact HN.out j (by omega))⟩
    · have hltz : ¬ (i : Int) < (n : Int) := by omega
      have hni : i = n := by omega
      subst hni
      go_wp2_with fail
      go_ret
      have e9 := HQ.out
      have : x ∉ l := fun hx => by
        obtain ⟨j, hj, e⟩ := List.mem_iff_getElem.1 hx
        have := HN.out j (by rw [← HL.out]; exact hj)
        rw [List.getD_eq_getElem?_getD, List.getElem?_eq_getElem hj] at this
        exact this e
      rw [decide_eq_false this] at e9
      subst e9
      exact ⟨rfl, Below.refl _ _⟩
theorem in_is (v : Value) (l : List Int) (x : Int) (w : World) (h : RowI w v l) (hn : l.length ≤ 1000000) (q : Bool) (hq : decide (x ∈ l) = q) :
    Calls Try.prog 28 #[v, .int .i64 x] w fun e w' => e = .returned (.bool q) ∧ Below w.heap.size w w' := by
  obtain ⟨a, c, rfl, -, -⟩ := h.form
  exact in_ex a l.length c l rfl x w h hn q hq

end Go.Proofs.Ytjjhmfpdbjflmaa
