/-
  The laws' own helpers of stage 11: Ints, tuple, puts; one heap that is newer than the call's world.
-/
import Derived.Test.YtbgnbaogclnpgaaHStd
namespace Go.Proofs.Ytbgnbaogclnpgaa
open Go.RowKit
set_option linter.unusedVariables false

/-- A literal of numbers. -/
theorem lit_rowI (W : World) (l : List Int) (n : Nat) (hn : l.length = n) (hm : n ≤ maxLen) : RowI (W.alloc (.cells (l.map (Value.int .i64)).toArray 3)) (.slice (some ⟨W.heap.size, 0, none⟩) n n) l := by
  subst hn
  refine RowI.of_own (base := 0) ?_
  have := World.ownsRow_lit (e := 3) (size := 1) (base := 0) W (l.map (Value.int .i64)).toArray l.length (Nat.zero_le _) hm (by simp)
  simpa using this

/-! ### tuple, puts -/

def tup2 (x y : Int) : Tup := ⟨x, y, 3, 0, 0, 0, []⟩
theorem i64_3 : I64 3 := by unfold I64; omega

theorem tup2_wf {x y : Int} (hx : I64 x) (hy : I64 y) : (tup2 x y).wf := ⟨hx, hy, i64_3, i64_0, i64_0, i64_0, fun v hv => (by cases hv), Nat.zero_le _⟩

/-! ### One heap, newer than w0 -/

/-- A heap that is newer than w0, apart from the blocks X. -/
def One (X : Nat → Prop) (w0 W : World) (h : Nat) (A : Ab) (z : Nat) : Prop := ∃ F, Std W h A z F ∧ (∀ k, F k → w0.heap.size ≤ k) ∧ Below w0.heap.size w0 W ∧ ∀ k, X k → ¬ F k ∧ k < W.heap.size

section
variable {X : Nat → Prop} {w0 w : World} {h z : Nat} {A : Ab}
theorem One.bel (H : One X w0 w h A z) : Below w0.heap.size w0 w := by obtain ⟨F, h1, h2, h3, h4⟩ := H; exact h3
theorem One.below {w' : World} (H : One X w0 w h A z) (hb : Below w.heap.size w w') : One X w0 w' h A z := by
  obtain ⟨F, h1, h2, h3, h4⟩ := H
  exact ⟨F, h1.below hb, h2, below_tr h3 hb, fun k hk => ⟨(h4 k hk).1, Nat.lt_of_lt_of_le (h4 k hk).2 hb.size⟩⟩
theorem One.ok (H : One X w0 w h A z) : A.Ok := by obtain ⟨F, h1, h2, h3, h4⟩ := H; exact h1.ok
theorem One.len (H : One X w0 w h A z) : A.pl.length ≤ z := by obtain ⟨F, h1, h2, h3, h4⟩ := H; exact h1.len
theorem One.of {w' : World} {A' : Ab} {z' : Nat} {F F' : Nat → Prop} (h2 : ∀ k, F k → w0.heap.size ≤ k) (h3 : Below w0.heap.size w0 w) (q1 : Std w' h A' z' F') (q2 : More w.heap.size F F') (q3 : Touch F w w') (h4 : ∀ k, X k → ¬ F k ∧ k < w.heap.size) : One X w0 w' h A' z' ∧ Stay X w w' :=
  ⟨⟨F', q1, fun k hk => (q2.new k hk).elim (h2 k) (fun e => Nat.le_trans h3.size e), h3.trans (q3.below h2 h3.size), fun k hk => ⟨fun hf => (q2.new k hf).elim (h4 k hk).1 (fun e => by have := (h4 k hk).2; omega), Nat.lt_of_lt_of_le (h4 k hk).2 q3.size⟩⟩, q3.stay (fun k hk => (h4 k hk).1)⟩

theorem one_new (hb : Below w0.heap.size w0 w) (hX : ∀ k, X k → k < w.heap.size) : Calls Try.prog 7 #[] w fun e w' => ∃ h, e = .returned (.pointer (some ⟨h, 0, none⟩)) ∧ One X w0 w' h Ab.new 0 := by
  refine (new_std w).mono ?_
  rintro e w' ⟨h, rfl, F, h1, h2, h3⟩
  exact ⟨h, rfl, F, h1, fun k hk => Nat.le_trans hb.size (h2 k hk), below_tr hb h3, fun k hk => ⟨fun hf => by have := h2 k hf; have := hX k hk; omega, Nat.lt_of_lt_of_le (hX k hk) h3.size⟩⟩

theorem one_put {A' : Ab} {r er : Int} (H : One X w0 w h A z) (t : Tup) (s : Value) (hw : t.wf) (hs : RowV w s t.row) (hz : z ≤ 90000) (hA : A.pt t = A') (hr : A.ptV t = r) (he : A.ptE t = er) :
    Calls Try.prog 31 #[.pointer (some ⟨h, 0, none⟩), tupV t s] w fun e w' => e = .returned (.tuple #[.int .i64 r, .int .i64 er]) ∧ One X w0 w' h A' (z + 3) ∧ Stay X w w' := by
  subst hA hr he
  obtain ⟨F, h1, h2, h3, h4⟩ := H
  refine (put_std w h A z F t s hz hw hs h1).mono ?_
  rintro e w' ⟨rfl, F', q1, q2, q3⟩
  exact ⟨rfl, One.of h2 h3 q1 q2 q3 h4⟩

theorem one_kill {A' : Ab} {er : Int} (H : One X w0 w h A z) (x a c : Int) (ha : I64 a) (hc : I64 c) (hz : z ≤ 90000) (hA : A.kl x a c = A') (he : A.atE x = er) :
    Calls Try.prog 30 #[.pointer (some ⟨h, 0, none⟩), .int .i64 x, .int .i64 a, .int .i64 c] w fun e w' => e = .returned (.int .i64 er) ∧ One X w0 w' h A' z ∧ Stay X w w' := by
  subst hA he
  obtain ⟨F, h1, h2, h3, h4⟩ := H
  refine (kill_std w h A z F x a c ha hc hz h1).mono ?_
  rintro e w' ⟨rfl, q1, q3⟩
  exact ⟨rfl, One.of h2 h3 q1 (More.refl _ _) q3 h4⟩

theorem one_free {A' : Ab} {er : Int} (H : One X w0 w h A z) (x : Int) (hz : z ≤ 80000) (hA : A.fe x = A') (he : A.atE x = er) :
    Calls Try.prog 32 #[.pointer (some ⟨h, 0, none⟩), .int .i64 x] w fun e w' => e = .returned (.int .i64 er) ∧ One X w0 w' h A' (z + 2) ∧ Stay X w w' := by
  subst hA he
  obtain ⟨F, h1, h2, h3, h4⟩ := H
  refine (free_std w h A z F x hz h1).mono ?_
  rintro e w' ⟨rfl, F', q1, q2, q3⟩
  exact ⟨rfl, One.of h2 h3 q1 q2 q3 h4⟩

theorem one_at {t : Tup} {b : Bool} (H : One X w0 w h A z) (x : Int) (hz : z ≤ 90000) (ht : A.atT x = t) (hb : A.atB x = b) :
    Calls Try.prog 17 #[.pointer (some ⟨h, 0, none⟩), .int .i64 x] w fun e w' => ∃ s, e = .returned (.tuple #[tupV t s, .bool b]) ∧ RowV w' s t.row ∧ (∀ k, s.ownBlock = some k → w.heap.size ≤ k) ∧ One X w0 w' h A z ∧ Below w.heap.size w w' := by
  subst ht hb
  obtain ⟨F, h1, h2, h3, h4⟩ := H
  refine (at_std w h A z F x hz h1).mono ?_
  rintro e w' ⟨s, rfl, q1, q2, q3⟩
  exact ⟨s, rfl, q1, q2, ⟨F, h1.below q3, h2, below_tr h3 q3, fun k hk => ⟨(h4 k hk).1, Nat.lt_of_lt_of_le (h4 k hk).2 q3.size⟩⟩, q3⟩

theorem one_len {n : Int} (H : One X w0 w h A z) (hz : z ≤ 90000) (hn : (A.pl.length : Int) = n) :
    Calls Try.prog 87 #[.pointer (some ⟨h, 0, none⟩)] w fun e w' => e = .returned (.int .i64 n) ∧ One X w0 w' h A z ∧ Below w.heap.size w w' := by
  subst hn
  obtain ⟨F, h1, h2, h3, h4⟩ := H
  refine (len_std w h A z F hz h1).mono ?_
  rintro e w' ⟨rfl, q3⟩
  exact ⟨rfl, ⟨F, h1.below q3, h2, below_tr h3 q3, fun k hk => ⟨(h4 k hk).1, Nat.lt_of_lt_of_le (h4 k hk).2 q3.size⟩⟩, q3⟩

theorem one_slots {l : List Int} (H : One X w0 w h A z) (x y : Int) (hx : I64 x) (hy : I64 y) (hz : z ≤ 90000) (hl : natI (A.slots x y) = l) :
    Calls Try.prog 27 #[.pointer (some ⟨h, 0, none⟩), .int .i64 x, .int .i64 y] w fun e w' => ∃ s, e = .returned s ∧ RowI w' s l ∧ (∀ k, s.ownBlock = some k → w.heap.size ≤ k) ∧ One X w0 w' h A z ∧ Below w.heap.size w w' := by
  subst hl
  obtain ⟨F, h1, h2, h3, h4⟩ := H
  refine (slots_std w h A z F x y hx hy hz h1).mono ?_
  rintro e w' ⟨s, rfl, q1, q2, q3⟩
  exact ⟨s, rfl, q1, q2, ⟨F, h1.below q3, h2, below_tr h3 q3, fun k hk => ⟨(h4 k hk).1, Nat.lt_of_lt_of_le (h4 k hk).2 q3.size⟩⟩, q3⟩

/-- Blocks that came behind the heap's are apart from it. -/
theorem One.foreign {w' : World} (H : One X w0 w h A z) (hb : Below w.heap.size w w') (Y : Nat → Prop) (hY : ∀ k, Y k → (X k ∨ w.heap.size ≤ k) ∧ k < w'.heap.size) : One Y w0 w' h A z := by
  obtain ⟨F, h1, h2, h3, h4⟩ := H
  exact ⟨F, h1.below hb, h2, below_tr h3 hb, fun k hk => ⟨fun hf => by
    rcases (hY k hk).1 with e | e
    · exact (h4 k e).1 hf
    · have := h1.lt k hf; omega, (hY k hk).2⟩⟩
/-- A block that is apart is written. -/
theorem One.wrote {w' : World} {Y : Nat → Prop} (H : One X w0 w h A z) (ht : Touch Y w w') (hY : ∀ k, Y k → X k ∧ w0.heap.size ≤ k) : One X w0 w' h A z := by
  obtain ⟨F, h1, h2, h3, h4⟩ := H
  exact ⟨F, h1.apart ht (fun k hk hy => (h4 k (hY k hy).1).1 hk), h2, h3.trans (ht.below (fun k hk => (hY k hk).2) h3.size), fun k hk => ⟨(h4 k hk).1, Nat.lt_of_lt_of_le (h4 k hk).2 ht.size⟩⟩
end

/-- The lists that rise and have the same numbers are the same. -/
theorem Ab.IsIDs.eq {A : Ab} {x : Int} {l m : List Int} (h : A.IsIDs x l) (h2 : A.IsIDs x m) : l = m := rise_eq h.1 h2.1 fun y => (h.2 y).trans (h2.2 y).symm
theorem Ab.IsTabs.eq {A : Ab} {l m : List Int} (h : A.IsTabs l) (h2 : A.IsTabs m) : l = m := rise_eq h.1 h2.1 fun y => (h.2 y).trans (h2.2 y).symm

/-! ### Closed lists -/

theorem isIDs_of {A : Ab} {x : Int} {l : List Int} (h : l.Pairwise (· < ·) ∧ (∀ y ∈ l, y ∈ (A.pl.filter fun p => decide (p.2.no = x)).map fun p => p.2.id) ∧ ∀ y ∈ (A.pl.filter fun p => decide (p.2.no = x)).map fun p => p.2.id, y ∈ l) : A.IsIDs x l :=
  ⟨h.1, fun y => ⟨fun hy => by
    obtain ⟨p, hp, e⟩ := List.mem_map.1 (h.2.1 y hy)
    obtain ⟨h1, h2⟩ := List.mem_filter.1 hp
    exact ⟨p, h1, by simpa using h2, e⟩, fun ⟨p, hp, e1, e2⟩ => h.2.2 y (List.mem_map.2 ⟨p, List.mem_filter.2 ⟨hp, by simp [e1]⟩, e2⟩)⟩⟩
theorem isTabs_of {A : Ab} {l : List Int} (h : l.Pairwise (· < ·) ∧ (∀ y ∈ l, y ∈ A.pl.map fun p => p.2.no) ∧ ∀ y ∈ A.pl.map fun p => p.2.no, y ∈ l) : A.IsTabs l :=
  ⟨h.1, fun y => ⟨fun hy => by
    obtain ⟨p, hp, e⟩ := List.mem_map.1 (h.2.1 y hy)
    exact ⟨p, hp, e⟩, fun ⟨p, hp, e1⟩ => h.2.2 y (List.mem_map.2 ⟨p, hp, e1⟩)⟩⟩

theorem bel_step {w0 w w' : World} (h : Below w0.heap.size w0 w) (h2 : Below w.heap.size w w') : Below w0.heap.size w0 w' := below_tr h h2
/-- A literal of values. -/
theorem lit_rowV (W : World) (l : List Val) (n : Nat) (hn : l.length = n) (hm : n ≤ maxLen) : RowV (W.alloc (.cells (flatL l).toArray 90)) (.slice (some ⟨W.heap.size, 0, none⟩) n n) l := by
  subst hn
  refine RowV.of_own (base := 0) ?_
  have := World.ownsRow_lit (e := 90) (size := 4) (base := 0) W (flatL l).toArray l.length (Nat.zero_le _) hm (by simp [flatL_len])
  simpa using this

/-! ### Nil -/

theorem nil_put (w : World) (t : Tup) (s : Value) : Calls Try.prog 31 #[.pointer none, tupV t s] w fun e w' => e = .returned (.tuple #[.int .i64 0, .int .i64 2]) ∧ Below w.heap.size w w' := put_nil w t s
theorem nil_at (w : World) (x : Int) : Calls Try.prog 17 #[.pointer none, .int .i64 x] w fun e w' => e = .returned (.tuple #[tupV tup0 (.slice none 0 0), .bool false]) ∧ Below w.heap.size w w' := at_none w (.pointer none) x 2 (by decide) (fun W _ => find_nil W x)
theorem nil_kill (w : World) (x a c : Int) : Calls Try.prog 30 #[.pointer none, .int .i64 x, .int .i64 a, .int .i64 c] w fun e w' => e = .returned (.int .i64 2) ∧ Below w.heap.size w w' :=
  (kill_no w (.pointer none) x a c 2 (by decide) (find_nil w x)).mono fun e w' h => ⟨h.1, by rw [h.2]; exact Below.refl _ _⟩
theorem nil_free (w : World) (x : Int) : Calls Try.prog 32 #[.pointer none, .int .i64 x] w fun e w' => e = .returned (.int .i64 2) ∧ Below w.heap.size w w' :=
  (free_no w (.pointer none) x 2 (by decide) (find_nil w x)).mono fun e w' h => ⟨h.1, by rw [h.2]; exact Below.refl _ _⟩
theorem nil_slots (w : World) (x y : Int) (hy : I64 y) : Calls Try.prog 27 #[.pointer none, .int .i64 x, .int .i64 y] w fun e w' => ∃ a c, e = .returned (.slice a 0 c) ∧ Below w.heap.size w w' := by
  refine (slots_is (.pointer none) x y (.map none) (fun _ => []) 0 (by omega) w hy (index_nil w x) (.inl ⟨rfl, fun _ => rfl⟩) (.inl rfl) (fun _ => Nat.le_refl _)).mono ?_
  rintro e w' ⟨s, rfl, h1, h2, h3⟩
  obtain ⟨a, c, rfl, -, -⟩ := h1.form
  exact ⟨a, c, rfl, h3⟩
theorem nil_len (w : World) : Calls Try.prog 87 #[.pointer none] w fun e w' => e = .returned (.int .i64 0) ∧ Below w.heap.size w w' := (len_nil w).mono fun e w' h => ⟨h.1, by rw [h.2]; exact Below.refl _ _⟩
end Go.Proofs.Ytbgnbaogclnpgaa
