/-
  What the laws of stage 9 lean on: a table of their own, steps.
-/
import Derived.Test.YtpdfknknnklioaaYDo
namespace Go.Proofs.Ytpdfknknnklioaa
open Go.RowKit
set_option linter.unusedVariables false

/-- A table that is newer than the world w0, of which what was there is as it was. -/
structure One (w0 W : World) (t : Nat) (T : Tb) (F : Nat → Prop) : Prop where
  is : Is W t T F
  far : ∀ k, F k → w0.heap.size ≤ k
  bel : Below w0.heap.size w0 W

section
variable {w0 W W' : World} {t : Nat} {T T' : Tb} {F : Nat → Prop}

theorem One.below (h : One w0 W t T F) (hb : Below W.heap.size W W') : One w0 W' t T F := ⟨h.is.below hb, h.far, below_tr h.bel hb⟩

theorem one_new (hb : Below w0.heap.size w0 W) : Calls Try.prog 9 #[] W fun e w' => ∃ t F, e = .returned (.pointer (some ⟨t, 0, none⟩)) ∧ One w0 w' t Tb.new F ∧ (∀ k, F k → W.heap.size ≤ k) ∧ Below W.heap.size W w' := by
  refine (new_is W).mono ?_
  rintro e w' ⟨t, F, rfl, h1, h2, h3⟩
  exact ⟨t, F, rfl, ⟨h1, fun k hk => Nat.le_trans hb.size (h2 k hk), below_tr hb h3⟩, h2, h3⟩

/-- What a call that changes the table leaves. -/
def Next (w0 W : World) (t : Nat) (F : Nat → Prop) (T' : Tb) (v : Value) (e : Ending) (w' : World) : Prop := ∃ F', e = .returned v ∧ One w0 w' t T' F' ∧ Touch F W w' ∧ ∀ k, F' k → F k ∨ W.heap.size ≤ k

theorem one_begin (h : One w0 W t T F) (hn : T.n ≤ 1000) (p a b : Int) (hp : I64 p) (ha : T.begI p = a) (hb : T.begE p = b) (hT : T.begT p = T') :
    Calls Try.prog 25 #[.pointer (some ⟨t, 0, none⟩), .int .i64 p] W fun e w' => Next w0 W t F T' (.tuple #[.int .i64 a, .int .i64 b]) e w' := by
  refine (begin_is W t T F (by omega) p hp h.is).mono ?_
  rintro e w' ⟨F', rfl, h1, h2, h3⟩
  rw [ha, hb]
  rw [hT] at h1
  exact ⟨F', rfl, ⟨h1, fun k hk => (h2 k hk).elim (h.far k) (Nat.le_trans h.bel.size), h.bel.trans (h3.below h.far h.bel.size)⟩, h3, h2⟩

theorem one_commit (h : One w0 W t T F) (hn : T.n ≤ 1000) (hl : T.last ≤ 1000) (id b : Int) (hp : I64 id) (hb : T.err id = b) (hT : T.comT id = T') :
    Calls Try.prog 26 #[.pointer (some ⟨t, 0, none⟩), .int .i64 id] W fun e w' => Next w0 W t F T' (.int .i64 b) e w' := by
  refine (commit_is W t T F hn hl id hp h.is).mono ?_
  rintro e w' ⟨rfl, h1, h3⟩
  rw [hb]
  rw [hT] at h1
  exact ⟨F, rfl, ⟨h1, h.far, h.bel.trans (h3.below h.far h.bel.size)⟩, h3, fun k hk => .inl hk⟩

theorem one_abort (h : One w0 W t T F) (hn : T.n ≤ 1000) (id b : Int) (hp : I64 id) (hb : T.err id = b) (hT : T.aboT id = T') :
    Calls Try.prog 24 #[.pointer (some ⟨t, 0, none⟩), .int .i64 id] W fun e w' => Next w0 W t F T' (.int .i64 b) e w' := by
  refine (abort_is W t T F hn id hp h.is).mono ?_
  rintro e w' ⟨rfl, h1, h3⟩
  rw [hb]
  rw [hT] at h1
  exact ⟨F, rfl, ⟨h1, h.far, h.bel.trans (h3.below h.far h.bel.size)⟩, h3, fun k hk => .inl hk⟩

theorem one_state (h : One w0 W t T F) (id a : Int) (hi : I64 id) (ha : T.g T.st id = a) : Calls Try.prog 37 #[.pointer (some ⟨t, 0, none⟩), .int .i64 id] W fun e w' => e = .returned (.int .u8 a) ∧ Below W.heap.size W w' := by
  have := st_is W t T F id hi h.is.tab
  rwa [ha] at this
theorem one_top (h : One w0 W t T F) (id a : Int) (hi : I64 id) (ha : T.g T.top id = a) : Calls Try.prog 23 #[.pointer (some ⟨t, 0, none⟩), .int .i64 id] W fun e w' => e = .returned (.int .i64 a) ∧ Below W.heap.size W w' := by
  have := top_is W t T F id hi h.is.tab
  rwa [ha] at this
theorem one_counts (h : One w0 W t T F) (id : Int) (b : Bool) (hi : I64 id) (hb : T.cnt id = b) : Calls Try.prog 21 #[.pointer (some ⟨t, 0, none⟩), .int .i64 id] W fun e w' => e = .returned (.bool b) ∧ Below W.heap.size W w' := counts_is W t T F id hi h.is.tab b hb
theorem one_number (h : One w0 W t T F) (hn : T.n ≤ 1000) (id a : Int) (hi : I64 id) (ha : T.numI id = a) : Calls Try.prog 22 #[.pointer (some ⟨t, 0, none⟩), .int .i64 id] W fun e w' => e = .returned (.int .i64 a) ∧ Below W.heap.size W w' := by
  have := number_is W t T F id hi (by omega) h.is
  rwa [ha] at this
theorem one_last (h : One w0 W t T F) (a : Int) (ha : (T.last : Int) = a) : Calls Try.prog 30 #[.pointer (some ⟨t, 0, none⟩)] W fun e w' => e = .returned (.int .i64 a) ∧ Below W.heap.size W w' := by
  have := last_is W t T F h.is.tab
  rwa [ha] at this
theorem one_len (h : One w0 W t T F) (a : Int) (ha : (T.n : Int) = a) : Calls Try.prog 44 #[.pointer (some ⟨t, 0, none⟩)] W fun e w' => e = .returned (.int .i64 a) ∧ Below W.heap.size W w' := by
  have := len_is W t T F h.is.tab
  rwa [ha] at this
end

/-! ### What is told of all -/

/-! ### Steps -/

structure Stp where
  kind : Int
  id : Int

def recP (l : List Stp) (j : Nat) : List Value := match l[j]? with | some s => [.int .u8 s.kind, .int .i64 s.id] | none => []

/-- A slice of the steps l. -/
structure SlSt (W : World) (a : Option Addr) (c : Nat) (l : List Stp) : Prop where
  lc : l.length ≤ c
  cm : c ≤ maxLen
  at' : l ≠ [] → ∃ b o, a = some ⟨b, o, none⟩ ∧ b < W.heap.size ∧ ∀ (i : Nat) s, l[i]? = some s → W.cell? ⟨b, o + i * 2, none⟩ = some (.int .u8 s.kind) ∧ W.cell? ⟨b, o + i * 2 + 1, none⟩ = some (.int .i64 s.id)
  wf : ∀ s ∈ l, (0 ≤ s.kind ∧ s.kind ≤ 255) ∧ I64 s.id

theorem SlSt.below {W W' : World} {a : Option Addr} {c : Nat} {l : List Stp} (h : SlSt W a c l) (hb : Below W.heap.size W W') : SlSt W' a c l :=
  ⟨h.lc, h.cm, fun hl => by
    obtain ⟨b, o, e, hlt, hx⟩ := h.at' hl
    exact ⟨b, o, e, Nat.lt_of_lt_of_le hlt hb.size, fun i s hs => ⟨by rw [hb.cell hlt]; exact (hx i s hs).1, by rw [hb.cell hlt]; exact (hx i s hs).2⟩⟩, h.wf⟩

theorem at_st {W : World} {a : Option Addr} {c : Nat} {l : List Stp} (h : SlSt W a c l) {i : Nat} {s : Stp} (hs : l[i]? = some s) : ∃ b o, a = some ⟨b, o, none⟩ ∧ b < W.heap.size ∧ W.cell? ⟨b, o + i * 2, none⟩ = some (.int .u8 s.kind) ∧ W.cell? ⟨b, o + i * 2 + 1, none⟩ = some (.int .i64 s.id) := by
  obtain ⟨b, o, ea, hl, hx⟩ := h.at' (by rintro rfl; simp at hs)
  exact ⟨b, o, ea, hl, (hx i s hs).1, (hx i s hs).2⟩

/-- All steps done, one behind the other. -/
def Tb.run (T : Tb) : List Stp → Tb
  | [] => T
  | s :: l => (T.stp s.kind s.id).run l
theorem Tb.run_snoc (T : Tb) (l : List Stp) (s : Stp) : T.run (l ++ [s]) = (T.run l).stp s.kind s.id := by
  induction l generalizing T with
  | nil => rfl
  | cons x l ih => exact ih _
theorem Tb.Ok.run {T : Tb} (h : T.Ok) (l : List Stp) : (T.run l).Ok := by
  induction l generalizing T with
  | nil => exact h
  | cons x l ih => exact ih (h.stp _ _)
theorem Tb.Small.run {T : Tb} {B : Nat} (h : T.Small B) (l : List Stp) : (T.run l).Small (B + l.length) := by
  induction l generalizing T B with
  | nil => exact h
  | cons x l ih =>
    have := ih (h.stp x.kind x.id)
    rwa [show B + 1 + l.length = B + (x :: l).length by simp; omega] at this
theorem Tb.new_small : Tb.new.Small 0 := ⟨Nat.le_refl _, Nat.le_refl _⟩

end Go.Proofs.Ytpdfknknnklioaa
