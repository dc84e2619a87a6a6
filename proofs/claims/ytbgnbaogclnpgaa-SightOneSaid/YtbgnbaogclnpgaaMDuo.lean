/-
  A heap and a table beside each other, newer than a world, apart from some blocks: each call (stage 12).
-/
import Derived.Test.YtbgnbaogclnpgaaMFresh
import Derived.Test.YtbgnbaogclnpgaaNLaw
namespace Go.Proofs.Ytbgnbaogclnpgaa
open Go.RowKit
set_option linter.unusedVariables false

/-- A heap at h and a table at t, apart from each other and from the blocks X, newer than w0. -/
def Duo (X : Nat → Prop) (w0 W : World) (h : Nat) (A : Ab) (z t : Nat) (T : Tb) : Prop := ∃ Fh Ft : Nat → Prop, Std W h A z Fh ∧ Is W t T Ft ∧ (∀ k, Fh k → w0.heap.size ≤ k) ∧ (∀ k, Ft k → w0.heap.size ≤ k) ∧ (∀ k, Fh k → ¬ Ft k) ∧ Below w0.heap.size w0 W ∧ ∀ k, X k → ¬ Fh k ∧ ¬ Ft k ∧ k < W.heap.size

section
variable {X : Nat → Prop} {w0 w w' : World} {h z t : Nat} {A : Ab} {T : Tb}

theorem Duo.bel (H : Duo X w0 w h A z t T) : Below w0.heap.size w0 w := by obtain ⟨Fh, Ft, h1, h2, h3, h4, h5, h6, h7⟩ := H; exact h6
theorem Duo.aok (H : Duo X w0 w h A z t T) : A.Ok := by obtain ⟨Fh, Ft, h1, h2, h3, h4, h5, h6, h7⟩ := H; exact h1.ok
theorem Duo.len (H : Duo X w0 w h A z t T) : A.pl.length ≤ z := by obtain ⟨Fh, Ft, h1, h2, h3, h4, h5, h6, h7⟩ := H; exact h1.len
theorem Duo.tok (H : Duo X w0 w h A z t T) : T.Ok := by obtain ⟨Fh, Ft, h1, h2, h3, h4, h5, h6, h7⟩ := H; exact h2.ok
theorem Duo.std (H : Duo X w0 w h A z t T) : ∃ F, Std w h A z F := by obtain ⟨Fh, Ft, h1, h2, h3, h4, h5, h6, h7⟩ := H; exact ⟨_, h1⟩
theorem Duo.tv (H : Duo X w0 w h A z t T) (hn : T.n ≤ 1000000) : TV w (.pointer (some ⟨t, 0, none⟩)) T := by obtain ⟨Fh, Ft, h1, h2, h3, h4, h5, h6, h7⟩ := H; exact .inl ⟨t, Ft, rfl, h2, hn⟩
theorem Duo.below (H : Duo X w0 w h A z t T) (hb : Below w.heap.size w w') : Duo X w0 w' h A z t T := by
  obtain ⟨Fh, Ft, h1, h2, h3, h4, h5, h6, h7⟩ := H
  exact ⟨Fh, Ft, h1.below hb, h2.below hb, h3, h4, h5, below_tr h6 hb, fun k hk => ⟨(h7 k hk).1, (h7 k hk).2.1, Nat.lt_of_lt_of_le (h7 k hk).2.2 hb.size⟩⟩
theorem Duo.more {z' : Nat} (H : Duo X w0 w h A z t T) (hz : z ≤ z') : Duo X w0 w h A z' t T := by
  obtain ⟨Fh, Ft, h1, h2, h3⟩ := H
  exact ⟨Fh, Ft, h1.more hz, h2, h3⟩
theorem Duo.sub {X' : Nat → Prop} (H : Duo X w0 w h A z t T) (hX : ∀ k, X' k → X k) : Duo X' w0 w h A z t T := by
  obtain ⟨Fh, Ft, h1, h2, h3, h4, h5, h6, h7⟩ := H
  exact ⟨Fh, Ft, h1, h2, h3, h4, h5, h6, fun k hk => h7 k (hX k hk)⟩
/-- A block is set apart: one that neither has. -/
theorem Duo.apart {X' : Nat → Prop} (H : Duo X w0 w h A z t T) (hb : Below w.heap.size w w') (hX : ∀ k, X' k → X k ∨ (w.heap.size ≤ k ∧ k < w'.heap.size)) : Duo X' w0 w' h A z t T := by
  obtain ⟨Fh, Ft, h1, h2, h3, h4, h5, h6, h7⟩ := H
  refine ⟨Fh, Ft, h1.below hb, h2.below hb, h3, h4, h5, below_tr h6 hb, fun k hk => ?_⟩
  rcases hX k hk with hk | ⟨hk, hl⟩
  · exact ⟨(h7 k hk).1, (h7 k hk).2.1, Nat.lt_of_lt_of_le (h7 k hk).2.2 hb.size⟩
  · exact ⟨fun hf => by have := h1.lt k hf; omega, fun hf => by have := h2.lt k hf; omega, hl⟩
/-- Blocks of X are written. -/
theorem Duo.wrote (H : Duo X w0 w h A z t T) (ht : Touch X w w') (hX : ∀ k, X k → w0.heap.size ≤ k) : Duo X w0 w' h A z t T := by
  obtain ⟨Fh, Ft, h1, h2, h3, h4, h5, h6, h7⟩ := H
  exact ⟨Fh, Ft, h1.apart ht (fun k hk hx => (h7 k hx).1 hk), h2.stay (ht.stay (fun k hk hx => (h7 k hx).2.1 hk)), h3, h4, h5, h6.trans (ht.below hX h6.size), fun k hk => ⟨(h7 k hk).1, (h7 k hk).2.1, Nat.lt_of_lt_of_le (h7 k hk).2.2 ht.size⟩⟩

theorem Duo.heap {A' : Ab} {z' : Nat} {Fh Ft Fh' : Nat → Prop} (h1 : Is w t T Ft) (h3 : ∀ k, Fh k → w0.heap.size ≤ k) (h4 : ∀ k, Ft k → w0.heap.size ≤ k) (h5 : ∀ k, Fh k → ¬ Ft k) (h6 : Below w0.heap.size w0 w) (h7 : ∀ k, X k → ¬ Fh k ∧ ¬ Ft k ∧ k < w.heap.size) (q1 : Std w' h A' z' Fh') (q2 : More w.heap.size Fh Fh') (q3 : Touch Fh w w') : Duo X w0 w' h A' z' t T ∧ Stay X w w' := by
  have hlt := h1.lt
  refine ⟨⟨Fh', Ft, q1, h1.stay (q3.stay (fun k hk hf => h5 k hf hk)), fun k hk => (q2.new k hk).elim (h3 k) (fun e => Nat.le_trans h6.size e), h4, fun k hk hf => (q2.new k hk).elim (fun e => h5 k e hf) (fun e => by have := hlt k hf; omega), h6.trans (q3.below h3 h6.size), fun k hk => ⟨fun hf => (q2.new k hf).elim (h7 k hk).1 (fun e => by have := (h7 k hk).2.2; omega), (h7 k hk).2.1, Nat.lt_of_lt_of_le (h7 k hk).2.2 q3.size⟩⟩, q3.stay (fun k hk => (h7 k hk).1)⟩

theorem Duo.table {T' : Tb} {Fh Ft Ft' : Nat → Prop} (h1 : Std w h A z Fh) (h3 : ∀ k, Fh k → w0.heap.size ≤ k) (h4 : ∀ k, Ft k → w0.heap.size ≤ k) (h5 : ∀ k, Fh k → ¬ Ft k) (h6 : Below w0.heap.size w0 w) (h7 : ∀ k, X k → ¬ Fh k ∧ ¬ Ft k ∧ k < w.heap.size) (q1 : Is w' t T' Ft') (q2 : ∀ k, Ft' k → Ft k ∨ w.heap.size ≤ k) (q3 : Touch Ft w w') : Duo X w0 w' h A z t T' ∧ Stay X w w' := by
  have hlt := h1.lt
  refine ⟨⟨Fh, Ft', h1.apart q3 h5, q1, h3, fun k hk => (q2 k hk).elim (h4 k) (fun e => Nat.le_trans h6.size e), fun k hk hf => (q2 k hf).elim (h5 k hk) (fun e => by have := hlt k hk; omega), h6.trans (q3.below h4 h6.size), fun k hk => ⟨(h7 k hk).1, fun hf => (q2 k hf).elim (h7 k hk).2.1 (fun e => by have := (h7 k hk).2.2; omega), Nat.lt_of_lt_of_le (h7 k hk).2.2 q3.size⟩⟩, q3.stay (fun k hk => (h7 k hk).2.1)⟩

/-! ### Calls that change something -/

theorem duo_put {A' : Ab} {r er : Int} (H : Duo X w0 w h A z t T) (u : Tup) (s : Value) (hw : u.wf) (hs : RowV w s u.row) (hz : z ≤ 90000) (hA : A.pt u = A') (hr : A.ptV u = r) (he : A.ptE u = er) :
    Calls Try.prog 31 #[.pointer (some ⟨h, 0, none⟩), tupV u s] w fun e w' => e = .returned (.tuple #[.int .i64 r, .int .i64 er]) ∧ Duo X w0 w' h A' (z + 3) t T ∧ Stay X w w' := by
  subst hA hr he
  obtain ⟨Fh, Ft, h1, h2, h3, h4, h5, h6, h7⟩ := H
  refine (put_std w h A z Fh u s hz hw hs h1).mono ?_
  rintro e w' ⟨rfl, F', q1, q2, q3⟩
  exact ⟨rfl, Duo.heap h2 h3 h4 h5 h6 h7 q1 q2 q3⟩
theorem duo_kill {A' : Ab} {er : Int} (H : Duo X w0 w h A z t T) (x a c : Int) (ha : I64 a) (hc : I64 c) (hz : z ≤ 90000) (hA : A.kl x a c = A') (he : A.atE x = er) :
    Calls Try.prog 30 #[.pointer (some ⟨h, 0, none⟩), .int .i64 x, .int .i64 a, .int .i64 c] w fun e w' => e = .returned (.int .i64 er) ∧ Duo X w0 w' h A' z t T ∧ Stay X w w' := by
  subst hA he
  obtain ⟨Fh, Ft, h1, h2, h3, h4, h5, h6, h7⟩ := H
  refine (kill_std w h A z Fh x a c ha hc hz h1).mono ?_
  rintro e w' ⟨rfl, q1, q3⟩
  exact ⟨rfl, Duo.heap h2 h3 h4 h5 h6 h7 q1 (More.refl _ _) q3⟩
theorem duo_free {A' : Ab} {er : Int} (H : Duo X w0 w h A z t T) (x : Int) (hz : z ≤ 80000) (hA : A.fe x = A') (he : A.atE x = er) :
    Calls Try.prog 32 #[.pointer (some ⟨h, 0, none⟩), .int .i64 x] w fun e w' => e = .returned (.int .i64 er) ∧ Duo X w0 w' h A' (z + 2) t T ∧ Stay X w w' := by
  subst hA he
  obtain ⟨Fh, Ft, h1, h2, h3, h4, h5, h6, h7⟩ := H
  refine (free_std w h A z Fh x hz h1).mono ?_
  rintro e w' ⟨rfl, F', q1, q2, q3⟩
  exact ⟨rfl, Duo.heap h2 h3 h4 h5 h6 h7 q1 q2 q3⟩
theorem duo_begin {T' : Tb} {a b : Int} (H : Duo X w0 w h A z t T) (hn : T.n ≤ 1000) (p : Int) (hp : I64 p) (ha : T.begI p = a) (hb : T.begE p = b) (hT : T.begT p = T') :
    Calls Try.prog 10 #[.pointer (some ⟨t, 0, none⟩), .int .i64 p] w fun e w' => e = .returned (.tuple #[.int .i64 a, .int .i64 b]) ∧ Duo X w0 w' h A z t T' ∧ Stay X w w' := by
  subst ha hb hT
  obtain ⟨Fh, Ft, h1, h2, h3, h4, h5, h6, h7⟩ := H
  refine (begin_is w t T Ft (by omega) p hp h2).mono ?_
  rintro e w' ⟨F', rfl, q1, q2, q3⟩
  exact ⟨rfl, Duo.table h1 h3 h4 h5 h6 h7 q1 q2 q3⟩
theorem duo_commit {T' : Tb} {b : Int} (H : Duo X w0 w h A z t T) (hn : T.n ≤ 1000) (hl : T.last ≤ 1000) (p : Int) (hp : I64 p) (hb : T.err p = b) (hT : T.comT p = T') :
    Calls Try.prog 11 #[.pointer (some ⟨t, 0, none⟩), .int .i64 p] w fun e w' => e = .returned (.int .i64 b) ∧ Duo X w0 w' h A z t T' ∧ Stay X w w' := by
  subst hb hT
  obtain ⟨Fh, Ft, h1, h2, h3, h4, h5, h6, h7⟩ := H
  refine (commit_is w t T Ft hn hl p hp h2).mono ?_
  rintro e w' ⟨rfl, q1, q3⟩
  exact ⟨rfl, Duo.table h1 h3 h4 h5 h6 h7 q1 (fun k hk => .inl hk) q3⟩
theorem duo_abort {T' : Tb} {b : Int} (H : Duo X w0 w h A z t T) (hn : T.n ≤ 1000) (p : Int) (hp : I64 p) (hb : T.err p = b) (hT : T.aboT p = T') :
    Calls Try.prog 12 #[.pointer (some ⟨t, 0, none⟩), .int .i64 p] w fun e w' => e = .returned (.int .i64 b) ∧ Duo X w0 w' h A z t T' ∧ Stay X w w' := by
  subst hb hT
  obtain ⟨Fh, Ft, h1, h2, h3, h4, h5, h6, h7⟩ := H
  refine (abort_is w t T Ft hn p hp h2).mono ?_
  rintro e w' ⟨rfl, q1, q3⟩
  exact ⟨rfl, Duo.table h1 h3 h4 h5 h6 h7 q1 (fun k hk => .inl hk) q3⟩

/-! ### Calls that tell -/

theorem duo_at {u : Tup} {b : Bool} (H : Duo X w0 w h A z t T) (x : Int) (hz : z ≤ 90000) (hu : A.atT x = u) (hb : A.atB x = b) :
    Calls Try.prog 17 #[.pointer (some ⟨h, 0, none⟩), .int .i64 x] w fun e w' => ∃ s, e = .returned (.tuple #[tupV u s, .bool b]) ∧ RowV w' s u.row ∧ (∀ k, s.ownBlock = some k → w.heap.size ≤ k) ∧ Below w.heap.size w w' := by
  subst hu hb
  obtain ⟨F, h1⟩ := H.std
  exact at_std w h A z F x hz h1
theorem duo_slots {l : List Int} (H : Duo X w0 w h A z t T) (x y : Int) (hx : I64 x) (hy : I64 y) (hz : z ≤ 90000) (hl : natI (A.slots x y) = l) :
    Calls Try.prog 27 #[.pointer (some ⟨h, 0, none⟩), .int .i64 x, .int .i64 y] w fun e w' => ∃ s, e = .returned s ∧ RowI w' s l ∧ (∀ k, s.ownBlock = some k → w.heap.size ≤ k) ∧ Below w.heap.size w w' := by
  subst hl
  obtain ⟨F, h1⟩ := H.std
  exact slots_std w h A z F x y hx hy hz h1
theorem duo_top (H : Duo X w0 w h A z t T) (hn : T.n ≤ 1000) (id a : Int) (hi : I64 id) (ha : T.g T.top id = a) : Calls Try.prog 26 #[.pointer (some ⟨t, 0, none⟩), .int .i64 id] w fun e w' => e = .returned (.int .i64 a) ∧ Below w.heap.size w w' := tv_top (H.tv (by omega)) id a hi ha
theorem duo_counts (H : Duo X w0 w h A z t T) (hn : T.n ≤ 1000) (id : Int) (b : Bool) (hi : I64 id) (hb : T.cnt id = b) : Calls Try.prog 28 #[.pointer (some ⟨t, 0, none⟩), .int .i64 id] w fun e w' => e = .returned (.bool b) ∧ Below w.heap.size w w' := tv_counts (H.tv (by omega)) id hi b hb
theorem duo_number (H : Duo X w0 w h A z t T) (hn : T.n ≤ 1000) (id a : Int) (hi : I64 id) (ha : T.numI id = a) : Calls Try.prog 29 #[.pointer (some ⟨t, 0, none⟩), .int .i64 id] w fun e w' => e = .returned (.int .i64 a) ∧ Below w.heap.size w w' := tv_number (H.tv (by omega)) id a hi ha
theorem duo_now (H : Duo X w0 w h A z t T) (hn : T.n ≤ 1000) (m la : Int) (hla : (T.last : Int) = la) : Calls Try.prog 9 #[.pointer (some ⟨t, 0, none⟩), .int .i64 m] w fun e w' => e = .returned (.agg #[.int .i64 la, .int .i64 m]) ∧ Below w.heap.size w w' := now_is w _ T m (H.tv (by omega)) la hla
theorem duo_own (H : Duo X w0 w h A z t T) (hn : T.n ≤ 1000) (hz : z ≤ 90000) (a m x y : Int) (hx : I64 x) (hy : I64 y) (b : Bool) (hb : ownR T m (A.vs x y) = b) : Calls Try.prog 21 #[.pointer (some ⟨h, 0, none⟩), .pointer (some ⟨t, 0, none⟩), .agg #[.int .i64 a, .int .i64 m], .int .i64 x, .int .i64 y] w fun e w' => e = .returned (.bool b) ∧ Below w.heap.size w w' := by
  obtain ⟨F, h1⟩ := H.std
  exact vown_is w h z A F _ T a m x y hx hy hz h1 (H.tv (by omega)) b hb
theorem duo_seen (H : Duo X w0 w h A z t T) (hn : T.n ≤ 1000) (hz : z ≤ 90000) (a m x y : Int) (hx : I64 x) (hy : I64 y) (b : Bool) (r : Int) (hb : seenB T A a m x y = b) (hr : seenV T A a m x y = r) : Calls Try.prog 19 #[.pointer (some ⟨h, 0, none⟩), .pointer (some ⟨t, 0, none⟩), .agg #[.int .i64 a, .int .i64 m], .int .i64 x, .int .i64 y] w fun e w' => e = .returned (.tuple #[.int .i64 r, .bool b]) ∧ Below w.heap.size w w' := by
  obtain ⟨F, h1⟩ := H.std
  exact vseen_is w h z A F _ T a m x y hx hy hz h1 (H.tv (by omega)) b r hb hr
theorem duo_newest (H : Duo X w0 w h A z t T) (hn : T.n ≤ 1000) (hz : z ≤ 90000) (x y : Int) (hx : I64 x) (hy : I64 y) (b : Bool) (r : Int) (hb : seenB T A T.last 0 x y = b) (hr : seenV T A T.last 0 x y = r) : Calls Try.prog 22 #[.pointer (some ⟨h, 0, none⟩), .pointer (some ⟨t, 0, none⟩), .int .i64 x, .int .i64 y] w fun e w' => e = .returned (.tuple #[.int .i64 r, .bool b]) ∧ Below w.heap.size w w' := by
  obtain ⟨F, h1⟩ := H.std
  exact vnewest_is w h z A F _ T x y hx hy hz h1 (H.tv (by omega)) b r hb hr
theorem duo_fresh (H : Duo X w0 w h A z t T) (hn : T.n ≤ 1000) (hz : z ≤ 90000) (a m x y : Int) (hx : I64 x) (hy : I64 y) (b : Bool) (hb : freshB T A a m x y = b) : Calls Try.prog 20 #[.pointer (some ⟨h, 0, none⟩), .pointer (some ⟨t, 0, none⟩), .agg #[.int .i64 a, .int .i64 m], .int .i64 x, .int .i64 y] w fun e w' => e = .returned (.bool b) ∧ Below w.heap.size w w' := by
  obtain ⟨F, h1⟩ := H.std
  exact vfresh_is w h z A F _ T a m x y hx hy hz h1 (H.tv (by omega)) b hb
theorem duo_dead (H : Duo X w0 w h A z t T) (hn : T.n ≤ 1000) (hz : z ≤ 90000) (a slot : Int) (b : Bool) (hb : deadB T A a slot = b) : Calls Try.prog 18 #[.pointer (some ⟨h, 0, none⟩), .pointer (some ⟨t, 0, none⟩), .int .i64 a, .int .i64 slot] w fun e w' => e = .returned (.bool b) ∧ Below w.heap.size w w' := by
  obtain ⟨F, h1⟩ := H.std
  exact vdead_is w h z A F t T a slot hz h1 (H.tv (by omega)) b hb

/-- New ones. -/
theorem heap_new (X : Nat → Prop) (hb : Below w0.heap.size w0 w) (hX : ∀ k, X k → k < w.heap.size) : Calls Try.prog 7 #[] w fun e w' => ∃ h, e = .returned (.pointer (some ⟨h, 0, none⟩)) ∧ ∃ Fh : Nat → Prop, Std w' h Ab.new 0 Fh ∧ (∀ k, Fh k → w0.heap.size ≤ k) ∧ (∀ k, X k → ¬ Fh k) ∧ Below w.heap.size w w' := by
  refine (new_std w).mono ?_
  rintro e w' ⟨h, rfl, F, h1, h2, h3⟩
  exact ⟨h, rfl, F, h1, fun k hk => Nat.le_trans hb.size (h2 k hk), fun k hk hf => by have := h2 k hf; have := hX k hk; omega, h3⟩
theorem duo_new (X : Nat → Prop) {Fh : Nat → Prop} (H : Std w h A z Fh) (hf : ∀ k, Fh k → w0.heap.size ≤ k) (hXf : ∀ k, X k → ¬ Fh k) (hb : Below w0.heap.size w0 w) (hX : ∀ k, X k → k < w.heap.size) : Calls Try.prog 8 #[] w fun e w' => ∃ t, e = .returned (.pointer (some ⟨t, 0, none⟩)) ∧ Duo X w0 w' h A z t Tb.new ∧ Below w.heap.size w w' := by
  have hlt := H.lt
  refine (tnew_is w).mono ?_
  rintro e w' ⟨t, F, rfl, h1, h2, h3⟩
  exact ⟨t, rfl, ⟨Fh, F, H.below h3, h1, hf, fun k hk => Nat.le_trans hb.size (h2 k hk), fun k hk hx => by have := hlt k hk; have := h2 k hx; omega, below_tr hb h3, fun k hk => ⟨hXf k hk, fun hx => by have := hX k hk; have := h2 k hx; omega, Nat.lt_of_lt_of_le (hX k hk) h3.size⟩⟩, h3⟩
end

end Go.Proofs.Ytbgnbaogclnpgaa
