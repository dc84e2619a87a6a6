/-
  Package heap, as the document tells it (stage 11): each call, at a heap that stands in blocks of its own.
-/
import Derived.Test.YtbgnbaogclnpgaaHMath
namespace Go.Proofs.Ytbgnbaogclnpgaa
open Go.RowKit
set_option linter.unusedVariables false

/-- At block h stands A, in the blocks F. -/
def Std (W : World) (h : Nat) (A : Ab) (z : Nat) (F : Nat → Prop) : Prop := ∃ M L, (∀ k, F k ↔ L k ≠ .no) ∧ HpM W h M z L ∧ Rep M A ∧ A.Ok

section
variable {W W' : World} {h z : Nat} {A : Ab} {F : Nat → Prop}
theorem Std.stay (H : Std W h A z F) (hs : Stay F W W') : Std W' h A z F := by
  obtain ⟨M, L, h1, h2, h3, h4⟩ := H
  exact ⟨M, L, h1, h2.stay (hs.mono (fun k hk => (h1 k).2 hk)), h3, h4⟩
theorem Std.below (H : Std W h A z F) (hb : Below W.heap.size W W') : Std W' h A z F := H.stay (Stay.of_below hb)
theorem Std.more {z' : Nat} (H : Std W h A z F) (hz : z ≤ z') : Std W h A z' F := by
  obtain ⟨M, L, h1, h2, h3, h4⟩ := H
  exact ⟨M, L, h1, h2.more hz, h3, h4⟩
theorem Std.lt (H : Std W h A z F) : ∀ k, F k → k < W.heap.size := by
  obtain ⟨M, L, h1, h2, h3, h4⟩ := H
  exact fun k hk => h2.lt k ((h1 k).1 hk)
theorem Std.ok (H : Std W h A z F) : A.Ok := by
  obtain ⟨M, L, h1, h2, h3, h4⟩ := H
  exact h4
theorem Std.len (H : Std W h A z F) : A.pl.length ≤ z := by
  obtain ⟨M, L, h1, h2, h3, h4⟩ := H
  have := h3.len
  have := h2.nz
  omega
/-- What others do. -/
theorem Std.apart {F2 : Nat → Prop} (H : Std W h A z F) (ht : Touch F2 W W') (hd : ∀ k, F k → ¬ F2 k) : Std W' h A z F := H.stay (ht.stay hd)
end

/-- F' is F, and besides blocks from N on alone. -/
structure More (N : Nat) (F F' : Nat → Prop) : Prop where
  old : ∀ k, F k → F' k
  new : ∀ k, F' k → F k ∨ N ≤ k
theorem More.refl (N : Nat) (F : Nat → Prop) : More N F F := ⟨fun _ h => h, fun _ h => .inl h⟩
theorem More.trans {N : Nat} {F F1 F2 : Nat → Prop} (h : More N F F1) (h2 : More N F1 F2) : More N F F2 := ⟨fun k hk => h2.old k (h.old k hk), fun k hk => (h2.new k hk).elim (h.new k) .inr⟩
theorem More.mono {N N' : Nat} {F F' : Nat → Prop} (h : More N F F') (hN : N' ≤ N) : More N' F F' := ⟨h.old, fun k hk => (h.new k hk).imp id (fun h => by omega)⟩
theorem More.of {N : Nat} {L L' : Nat → Lab} {F : Nat → Prop} (h : Ext N L L') (hF : ∀ k, F k ↔ L k ≠ .no) : More N F (fun k => L' k ≠ .no) :=
  ⟨fun k hk => by show L' k ≠ .no; rw [h.old k ((hF k).1 hk)]; exact (hF k).1 hk, fun k hk => (h.new k hk).imp (fun e => (hF k).2 e) id⟩

theorem new_std (w : World) : Calls Try.prog 7 #[] w fun e w' => ∃ h, e = .returned (ptrV h) ∧ ∃ F, Std w' h Ab.new 0 F ∧ (∀ k, F k → w.heap.size ≤ k) ∧ Below w.heap.size w w' := by
  refine (new_is w).mono ?_
  rintro e w' ⟨rfl, rfl⟩
  refine ⟨_, rfl, _, ⟨noHp, _, fun k => Iff.rfl, new_hp w, Rep.new, Ab.Ok.new⟩, fun k hk => ?_, Below.allocs _ _⟩
  by_cases e : k = w.heap.size
  · omega
  · have hk : setL (fun _ => Lab.no) w.heap.size .hp k ≠ .no := hk
    rw [setL_ne _ _ e] at hk; exact absurd rfl hk

/-! ### Next -/

def Ab.nx (A : Ab) (x : Int) : Ab := if Most x then A.nxt x else A
def Ab.nxV (A : Ab) (x : Int) : Int := if Most x then A.nxtI x else 0

/-! ### Put -/

def goodT (t : Tup) : Prop := Most t.no ∧ Most t.id
instance (t : Tup) : Decidable (goodT t) := inferInstanceAs (Decidable (_ ∧ _))
def Ab.pt (A : Ab) (t : Tup) : Ab := if goodT t then A.put t else A
def Ab.ptV (A : Ab) (t : Tup) : Int := if goodT t then (A.slot : Int) else 0
def Ab.ptE (A : Ab) (t : Tup) : Int := if goodT t then 0 else 1

theorem put_std (w : World) (h : Nat) (A : Ab) (z : Nat) (F : Nat → Prop) (t : Tup) (s : Value) (hz : z ≤ 90000) (hw : t.wf) (hr : RowV w s t.row) (H : Std w h A z F) :
    Calls Try.prog 31 #[ptrV h, tupV t s] w fun e w' => e = .returned (.tuple #[.int .i64 (A.ptV t), .int .i64 (A.ptE t)]) ∧ ∃ F', Std w' h (A.pt t) (z + 3) F' ∧ More w.heap.size F F' ∧ Touch F w w' := by
  obtain ⟨M, L, h1, h2, h3, h4⟩ := H
  unfold Ab.pt Ab.ptV Ab.ptE
  by_cases hx : goodT t
  · rw [if_pos hx, if_pos hx, if_pos hx]
    refine (put_ok w h M z L t s hz hw hx.1 hx.2 hr h2 h3.hh h3.frlt).mono ?_
    rintro e w' ⟨slot, rfl, M1, L', h5, h6, h7, h8⟩
    obtain rfl := h3.slot h5
    exact ⟨rfl, _, ⟨_, L', fun k => Iff.rfl, h6, h3.put h4 h5, h4.put hw hx.1 hx.2⟩, More.of h7 h1, h8.mono (fun k hk => (h1 k).2 hk)⟩
  · rw [if_neg hx, if_neg hx, if_neg hx]
    refine (put_bad w h t s hx hr).mono ?_
    rintro e w' ⟨rfl, hb⟩
    exact ⟨rfl, F, ⟨M, L, h1, (h2.below hb).more (by omega), h3, h4⟩, More.refl _ _, Touch.of_below hb⟩

/-! ### A slot -/

def Ab.tupI (A : Ab) (x : Int) : Option Tup := if 0 ≤ x then A.tup x.toNat else none

/-- Whether there is a version in a slot. -/
theorem slot_cases {w : World} {h z : Nat} {M : Hp} {A : Ab} {L : Nat → Lab} (h2 : HpM w h M z L) (h3 : Rep M A) (h4 : A.Ok) (hz : z ≤ 90000) (x : Int) :
    (∃ t, A.tupI x = some t ∧ x = (x.toNat : Int) ∧ x.toNat < M.n ∧ M.tup x.toNat = some t) ∨
    (A.tupI x = none ∧ ∀ W, Below w.heap.size w W → Calls Try.prog 33 #[ptrV h, .int .i64 x] W fun e w' => e = .returned (.tuple #[.pointer none, .int .i64 1]) ∧ w' = W) := by
  cases e : A.tupI x with
  | some t =>
    left
    unfold Ab.tupI at e
    by_cases hx : 0 ≤ x
    · rw [if_pos hx] at e
      obtain ⟨q1, q2⟩ := (h3.tup _ t).2 ((h4.tup _ t).1 e)
      exact ⟨t, rfl, by omega, q1, q2⟩
    · rw [if_neg hx] at e; cases e
  | none =>
    right
    refine ⟨rfl, fun W hb => ?_⟩
    obtain ⟨s, f, m, tp, hl, hs, hf, ht⟩ := h2.ex
    refine find_no W h s f m L M.n M.tup tp x (hl.below hb) (hs.stay (Stay.of_below (G := fun _ => True) hb) (fun _ _ => trivial)) (fun i hi hin => ?_) (by have := h2.nz; omega)
    cases e2 : M.tup i with
    | none => rfl
    | some t =>
      unfold Ab.tupI at e
      rw [if_pos (by omega), show x.toNat = i by omega, (h4.tup i t).2 ((h3.tup i t).1 ⟨hin, e2⟩)] at e
      cases e

def Ab.atE (A : Ab) (x : Int) : Int := if A.tupI x = none then 1 else 0
def Ab.kl (A : Ab) (x a c : Int) : Ab := if A.tupI x = none then A else A.kill x.toNat a c
def Ab.fe (A : Ab) (x : Int) : Ab := if A.tupI x = none then A else A.free x.toNat

theorem kill_std (w : World) (h : Nat) (A : Ab) (z : Nat) (F : Nat → Prop) (x a c : Int) (ha : I64 a) (hc : I64 c) (hz : z ≤ 90000) (H : Std w h A z F) :
    Calls Try.prog 30 #[ptrV h, .int .i64 x, .int .i64 a, .int .i64 c] w fun e w' => e = .returned (.int .i64 (A.atE x)) ∧ Std w' h (A.kl x a c) z F ∧ Touch F w w' := by
  obtain ⟨M, L, h1, h2, h3, h4⟩ := H
  unfold Ab.kl Ab.atE
  rcases slot_cases h2 h3 h4 hz x with ⟨t, e1, e2, e3, e4⟩ | ⟨e1, e2⟩
  · rw [e1, if_neg (by simp), if_neg (by simp)]
    have := kill_in w h M z L x.toNat t a c (by omega) h2 e3 e4
    rw [← e2] at this
    refine this.mono ?_
    rintro e w' ⟨rfl, h5, h6⟩
    exact ⟨rfl, ⟨_, L, h1, h5, h3.kill h4 e3 e4 a c, h4.kill _ ha hc⟩, h6.mono (fun k hk => (h1 k).2 hk)⟩
  · rw [e1, if_pos rfl, if_pos rfl]
    refine (kill_no w (ptrV h) x a c 1 (by decide) (e2 w (Below.refl _ _))).mono ?_
    rintro e w' ⟨rfl, rfl⟩
    exact ⟨rfl, ⟨M, L, h1, h2, h3, h4⟩, Touch.refl _ _⟩

theorem free_std (w : World) (h : Nat) (A : Ab) (z : Nat) (F : Nat → Prop) (x : Int) (hz : z ≤ 80000) (H : Std w h A z F) :
    Calls Try.prog 32 #[ptrV h, .int .i64 x] w fun e w' => e = .returned (.int .i64 (A.atE x)) ∧ ∃ F', Std w' h (A.fe x) (z + 2) F' ∧ More w.heap.size F F' ∧ Touch F w w' := by
  obtain ⟨M, L, h1, h2, h3, h4⟩ := H
  unfold Ab.fe Ab.atE
  rcases slot_cases h2 h3 h4 (by omega) x with ⟨t, e1, e2, e3, e4⟩ | ⟨e1, e2⟩
  · rw [e1, if_neg (by simp), if_neg (by simp)]
    obtain ⟨T, hT, hm⟩ := h3.table e3 e4
    obtain ⟨hw, hn, hi⟩ := h4.wf _ ((h3.tup _ t).1 ⟨e3, e4⟩)
    have := free_in w h M z L x.toNat t T hz h2 h3.hh e3 e4 hw.no hw.id hT hm
    rw [← e2] at this
    refine this.mono ?_
    rintro e w' ⟨rfl, fr', L', h5, h6, h7, h8, h9⟩
    exact ⟨rfl, _, ⟨_, L', fun k => Iff.rfl, h5, h3.free h4 e3 e4 hT h6 h7, h4.free _⟩, More.of h8 h1, h9.mono (fun k hk => (h1 k).2 hk)⟩
  · rw [e1, if_pos rfl, if_pos rfl]
    refine (free_no w (ptrV h) x 1 (by decide) (e2 w (Below.refl _ _))).mono ?_
    rintro e w' ⟨rfl, rfl⟩
    exact ⟨rfl, F, ⟨M, L, h1, h2.more (by omega), h3, h4⟩, More.refl _ _, Touch.refl _ _⟩

/-! ### What is told -/

def Ab.atT (A : Ab) (x : Int) : Tup := (A.tupI x).getD tup0
def Ab.atB (A : Ab) (x : Int) : Bool := (A.tupI x).isSome

theorem at_std (w : World) (h : Nat) (A : Ab) (z : Nat) (F : Nat → Prop) (x : Int) (hz : z ≤ 90000) (H : Std w h A z F) :
    Calls Try.prog 17 #[ptrV h, .int .i64 x] w fun e w' => ∃ s, e = .returned (.tuple #[tupV (A.atT x) s, .bool (A.atB x)]) ∧ RowV w' s (A.atT x).row ∧ (∀ k, s.ownBlock = some k → w.heap.size ≤ k) ∧ Below w.heap.size w w' := by
  obtain ⟨M, L, h1, h2, h3, h4⟩ := H
  unfold Ab.atT Ab.atB
  rcases slot_cases h2 h3 h4 hz x with ⟨t, e1, e2, e3, e4⟩ | ⟨e1, e2⟩
  · rw [e1]
    obtain ⟨s, f, m, tp, hl, hs, hf, ht⟩ := h2.ex
    obtain ⟨hw, hn, hi⟩ := h4.wf _ ((h3.tup _ t).1 ⟨e3, e4⟩)
    have := at_is w h s f m L M.n M.tup tp x.toNat t hw hl hs e3 e4 (by have := h2.nz; omega)
    rw [← e2] at this
    refine this.mono ?_
    rintro e w' ⟨s', rfl, h5, h6, h7⟩
    exact ⟨s', rfl, h5, h6, h7⟩
  · rw [e1]
    refine (at_none w (ptrV h) x 1 (by decide) e2).mono ?_
    rintro e w' ⟨rfl, h5⟩
    exact ⟨_, rfl, RowF.nil _ _ _ _, fun k hk => (by cases hk), h5⟩

theorem len_std (w : World) (h : Nat) (A : Ab) (z : Nat) (F : Nat → Prop) (hz : z ≤ 90000) (H : Std w h A z F) :
    Calls Try.prog 87 #[ptrV h] w fun e w' => e = .returned (.int .i64 (A.pl.length : Int)) ∧ Below w.heap.size w w' := by
  obtain ⟨M, L, h1, h2, h3, h4⟩ := H
  exact len_is w h M z L (by omega) h2 _ (by have := h3.len; omega)

theorem slots_std (w : World) (h : Nat) (A : Ab) (z : Nat) (F : Nat → Prop) (x y : Int) (hx : I64 x) (hy : I64 y) (hz : z ≤ 90000) (H : Std w h A z F) :
    Calls Try.prog 27 #[ptrV h, .int .i64 x, .int .i64 y] w fun e w' => ∃ s, e = .returned s ∧ RowI w' s (natI (A.slots x y)) ∧ (∀ k, s.ownBlock = some k → w.heap.size ≤ k) ∧ Below w.heap.size w w' := by
  have hlen := H.len
  obtain ⟨M, L, h1, h2, h3, h4⟩ := H
  obtain ⟨mv, h5, h6⟩ := index_is h2 hx
  rw [← h3.ix x y]
  refine slots_is (ptrV h) x y mv (M.tbl x).ix z (by omega) w hy h5 h6 (.inr ⟨h, rfl⟩) fun v => ?_
  rw [h3.ix]
  unfold Ab.slots
  rw [List.length_map]
  exact Nat.le_trans (List.length_filter_le _ _) hlen

/-- The IDs of a table; the tables. -/
def Ab.IsIDs (A : Ab) (x : Int) (l : List Int) : Prop := Rise l ∧ ∀ y, y ∈ l ↔ ∃ p ∈ A.pl, p.2.no = x ∧ p.2.id = y
def Ab.IsTabs (A : Ab) (l : List Int) : Prop := Rise l ∧ ∀ x, x ∈ l ↔ ∃ p ∈ A.pl, p.2.no = x

theorem slots_ne {A : Ab} {x y : Int} : A.slots x y ≠ [] ↔ ∃ p ∈ A.pl, p.2.no = x ∧ p.2.id = y := by
  unfold Ab.slots
  rw [Ne, List.map_eq_nil_iff, List.filter_eq_nil_iff]
  constructor
  · intro h
    apply Classical.byContradiction
    intro h2
    exact h fun p hp e => h2 ⟨p, hp, by simpa using e⟩
  · rintro ⟨p, hp, h1⟩ h
    exact h p hp (by simp [h1])

end Go.Proofs.Ytbgnbaogclnpgaa
