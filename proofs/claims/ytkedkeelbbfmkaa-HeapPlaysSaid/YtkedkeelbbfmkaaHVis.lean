/-
  What was visited, of a heap's versions (stage 11): for the law that goes over all of them.
-/
import Derived.Test.YtkedkeelbbfmkaaHMore
namespace Go.Proofs.Ytkedkeelbbfmkaa
open Go.RowKit
set_option linter.unusedVariables false

theorem nodup_sub {α : Type} [DecidableEq α] : ∀ {l m : List α}, l.Nodup → (∀ x ∈ l, x ∈ m) → l.length ≤ m.length
  | [], _, _, _ => Nat.zero_le _
  | a :: l, m, hn, h => by
    rw [List.nodup_cons] at hn
    have h1 := h a (List.mem_cons_self ..)
    have h2 := nodup_sub (m := m.erase a) hn.2 fun x hx => (List.mem_erase_of_ne (fun e => hn.1 (by rw [← e]; exact hx))).2 (h x (List.mem_cons_of_mem _ hx))
    rw [List.length_erase_of_mem h1] at h2
    have := List.length_pos_of_mem h1
    rw [List.length_cons]
    omega

theorem rise_nd {l : List Int} (h : Rise l) : l.Nodup := List.Pairwise.imp (fun h => by omega) h
theorem ids_len {A : Ab} {x : Int} {l : List Int} (h : A.IsIDs x l) : l.length ≤ A.pl.length := by
  have := nodup_sub (m := A.pl.map fun p => p.2.id) (rise_nd h.1) fun y hy => by
    obtain ⟨p, hp, -, e⟩ := (h.2 y).1 hy
    exact List.mem_map.2 ⟨p, hp, e⟩
  rwa [List.length_map] at this
theorem tabs_len {A : Ab} {l : List Int} (h : A.IsTabs l) : l.length ≤ A.pl.length := by
  have := nodup_sub (m := A.pl.map fun p => p.2.no) (rise_nd h.1) fun y hy => by
    obtain ⟨p, hp, e⟩ := (h.2 y).1 hy
    exact List.mem_map.2 ⟨p, hp, e⟩
  rwa [List.length_map] at this
theorem slots_len (A : Ab) (x y : Int) : (A.slots x y).length ≤ A.pl.length := by
  unfold Ab.slots
  rw [List.length_map]
  exact List.length_filter_le _ _

/-- V: the slots of those that Q holds of; f: a one for each. -/
structure Met (A : Ab) (Q : Nat × Tup → Prop) (V : List Nat) (f : Int → Option Value) : Prop where
  nd : V.Nodup
  mem : ∀ s, s ∈ V ↔ ∃ p ∈ A.pl, p.1 = s ∧ Q p
  map : ∀ x, f x = if x ∈ natI V then some (.int .i64 1) else none

theorem mem_natI {V : List Nat} {s : Nat} : (s : Int) ∈ natI V ↔ s ∈ V := by
  unfold natI
  rw [List.mem_map]
  constructor
  · rintro ⟨k, hk, e⟩
    have : k = s := by omega
    rw [← this]; exact hk
  · exact fun h => ⟨s, h, rfl⟩

section
variable {A : Ab} {Q Q' : Nat × Tup → Prop} {V : List Nat} {f : Int → Option Value}
theorem Met.congr (h : Met A Q V f) (hq : ∀ p ∈ A.pl, Q' p ↔ Q p) : Met A Q' V f :=
  ⟨h.nd, fun s => (h.mem s).trans ⟨fun ⟨p, h1, h2, h3⟩ => ⟨p, h1, h2, (hq p h1).2 h3⟩, fun ⟨p, h1, h2, h3⟩ => ⟨p, h1, h2, (hq p h1).1 h3⟩⟩, h.map⟩
theorem Met.sub (h : Met A Q V f) : ∀ x ∈ V, x ∈ A.used := fun x hx => by
  obtain ⟨p, h1, h2, _⟩ := (h.mem x).1 hx
  exact List.mem_map.2 ⟨p, h1, h2⟩
theorem Met.len (h : Met A Q V f) : V.length ≤ A.pl.length := by
  rw [← used_len]; exact nodup_sub h.nd h.sub
theorem Met.all (h : Met A Q V f) (hok : A.Ok) (hq : ∀ p ∈ A.pl, Q p) : V.length = A.pl.length := by
  refine Nat.le_antisymm h.len ?_
  rw [← used_len]
  refine nodup_sub hok.nd fun x hx => ?_
  obtain ⟨p, h1, h2⟩ := List.mem_map.1 hx
  exact (h.mem x).2 ⟨p, h1, h2, hq p h1⟩
theorem Met.start (A : Ab) (hq : ∀ p ∈ A.pl, ¬ Q p) : Met A Q [] (fun _ => none) :=
  ⟨List.nodup_nil, fun s => ⟨fun h => absurd h List.not_mem_nil, fun ⟨p, h1, _, h3⟩ => absurd h3 (hq p h1)⟩, fun x => by rw [if_neg (by exact List.not_mem_nil)]⟩
theorem Met.out (h : Met A Q V f) {s : Nat} {t : Tup} (hok : A.Ok) (hm : (s, t) ∈ A.pl) (hq : ¬ Q (s, t)) : s ∉ V := fun hs => by
  obtain ⟨⟨s2, u⟩, h1, rfl, h3⟩ := (h.mem s).1 hs
  have := mem_same hok.nd hm h1
  subst this
  exact hq h3
theorem Met.none (h : Met A Q V f) {s : Nat} {t : Tup} (hok : A.Ok) (hm : (s, t) ∈ A.pl) (hq : ¬ Q (s, t)) : f (s : Int) = none := by
  rw [h.map, if_neg]
  rw [mem_natI]
  exact h.out hok hm hq
theorem Met.step (h : Met A Q V f) {s : Nat} {t : Tup} (hok : A.Ok) (hm : (s, t) ∈ A.pl) (hq : ¬ Q (s, t)) (hq' : ∀ p ∈ A.pl, Q' p ↔ Q p ∨ p.1 = s) :
    Met A Q' (V ++ [s]) (updM f (s : Int) (some (.int .i64 1))) := by
  have hout := h.out hok hm hq
  refine ⟨?_, fun x => ?_, fun x => ?_⟩
  · rw [List.nodup_append]
    refine ⟨h.nd, by simp, fun a ha b hb => ?_⟩
    rw [List.mem_singleton.1 hb]
    rintro rfl
    exact hout ha
  · rw [List.mem_append, List.mem_singleton, h.mem]
    constructor
    · rintro (⟨p, h1, h2, h3⟩ | rfl)
      · exact ⟨p, h1, h2, (hq' p h1).2 (.inl h3)⟩
      · exact ⟨_, hm, rfl, (hq' _ hm).2 (.inr rfl)⟩
    · rintro ⟨p, h1, h2, h3⟩
      rcases (hq' p h1).1 h3 with h3 | h3
      · exact .inl ⟨p, h1, h2, h3⟩
      · exact .inr (by rw [← h2, h3])
  · unfold updM
    by_cases e : x = (s : Int)
    · subst e
      rw [if_pos rfl, if_pos]
      rw [mem_natI]
      simp
    · rw [if_neg e, h.map]
      have : x ∈ natI (V ++ [s]) ↔ x ∈ natI V := by
        rw [natI_app, List.mem_append, List.mem_singleton]
        exact ⟨fun h => h.resolve_right e, .inl⟩
      by_cases e2 : x ∈ natI V
      · rw [if_pos e2, if_pos (this.2 e2)]
      · rw [if_neg e2, if_neg (fun h => e2 (this.1 h))]
end

/-! ### Where one is -/

def Q0 (tabs : List Int) (i : Nat) (p : Nat × Tup) : Prop := p.2.no ∈ tabs.take i
def Q1 (tabs : List Int) (i : Nat) (x : Int) (ids : List Int) (k : Nat) (p : Nat × Tup) : Prop := Q0 tabs i p ∨ p.2.no = x ∧ p.2.id ∈ ids.take k
def Q2 (tabs : List Int) (i : Nat) (x : Int) (ids : List Int) (k : Nat) (y : Int) (sl : List Nat) (n : Nat) (p : Nat × Tup) : Prop := Q1 tabs i x ids k p ∨ p.2.no = x ∧ p.2.id = y ∧ p.1 ∈ sl.take n

theorem q0_start (tabs : List Int) (p : Nat × Tup) : ¬ Q0 tabs 0 p := fun h => absurd h List.not_mem_nil
theorem q0_end {A : Ab} {tabs : List Int} (ht : A.IsTabs tabs) {n : Nat} (hn : tabs.length = n) : ∀ p ∈ A.pl, Q0 tabs n p := fun p hp => by
  unfold Q0
  rw [List.take_of_length_le (by omega)]
  exact (ht.2 _).2 ⟨p, hp, rfl⟩
theorem q1_start (tabs : List Int) (i : Nat) (x : Int) (ids : List Int) (p : Nat × Tup) : Q1 tabs i x ids 0 p ↔ Q0 tabs i p := ⟨fun h => h.elim id (fun h => absurd h.2 List.not_mem_nil), .inl⟩
theorem q1_end {A : Ab} {tabs ids : List Int} {i n : Nat} {x : Int} (hx : tabs[i]? = some x) (hi : A.IsIDs x ids) (hn : ids.length = n) : ∀ p ∈ A.pl, Q0 tabs (i + 1) p ↔ Q1 tabs i x ids n p := fun p hp => by
  unfold Q1 Q0
  rw [List.take_add_one, hx, List.take_of_length_le (l := ids) (by omega)]
  simp only [Option.toList_some, List.mem_append, List.mem_singleton]
  constructor
  · rintro (h | h)
    · exact .inl h
    · exact .inr ⟨h, (hi.2 _).2 ⟨p, hp, h, rfl⟩⟩
  · rintro (h | h)
    · exact .inl h
    · exact .inr h.1
theorem q2_start (tabs : List Int) (i : Nat) (x : Int) (ids : List Int) (k : Nat) (y : Int) (sl : List Nat) (p : Nat × Tup) : Q2 tabs i x ids k y sl 0 p ↔ Q1 tabs i x ids k p := ⟨fun h => h.elim id (fun h => absurd h.2.2 List.not_mem_nil), .inl⟩
theorem q2_end {A : Ab} {tabs ids : List Int} {i k n : Nat} {x y : Int} (hy : ids[k]? = some y) (hn : (A.slots x y).length = n) : ∀ p ∈ A.pl, Q1 tabs i x ids (k + 1) p ↔ Q2 tabs i x ids k y (A.slots x y) n p := fun p hp => by
  unfold Q2 Q1
  rw [List.take_add_one, hy, List.take_of_length_le (l := A.slots x y) (by omega)]
  simp only [Option.toList_some, List.mem_append, List.mem_singleton]
  constructor
  · rintro (h | ⟨h1, h2 | h2⟩)
    · exact .inl (.inl h)
    · exact .inl (.inr ⟨h1, h2⟩)
    · exact .inr ⟨h1, h2, List.mem_map.2 ⟨p, List.mem_filter.2 ⟨hp, by simp [h1, h2]⟩, rfl⟩⟩
  · rintro ((h | ⟨h1, h2⟩) | ⟨h1, h2, _⟩)
    · exact .inl h
    · exact .inr ⟨h1, .inl h2⟩
    · exact .inr ⟨h1, .inr h2⟩

theorem rise_take {l : List Int} (h : Rise l) {i : Nat} {x : Int} (hx : l[i]? = some x) : x ∉ l.take i := fun hm => by
  obtain ⟨j, hj, e⟩ := List.mem_iff_getElem.1 hm
  rw [List.length_take] at hj
  rw [List.getElem_take] at e
  obtain ⟨hi, e2⟩ := List.getElem?_eq_some_iff.1 hx
  have := (List.pairwise_iff_getElem.1 h) j i (by omega) hi (by omega)
  omega
theorem rise_prev {l : List Int} (h : Rise l) {i : Nat} {x y : Int} (hx : l[i]? = some x) (hy : l[i - 1]? = some y) (hi : 0 < i) : y < x := by
  obtain ⟨h1, e1⟩ := List.getElem?_eq_some_iff.1 hx
  obtain ⟨h2, e2⟩ := List.getElem?_eq_some_iff.1 hy
  have := (List.pairwise_iff_getElem.1 h) (i - 1) i h2 h1 (by omega)
  omega
theorem slots_nd {A : Ab} (h : A.Ok) (x y : Int) : (A.slots x y).Nodup := h.nd.sublist (List.filter_sublist.map _)
theorem take_nd {l : List Nat} (h : l.Nodup) {n s : Nat} (hs : l[n]? = some s) : s ∉ l.take n := fun hm => by
  obtain ⟨j, hj, e⟩ := List.mem_iff_getElem.1 hm
  rw [List.length_take] at hj
  rw [List.getElem_take] at e
  obtain ⟨hn, e2⟩ := List.getElem?_eq_some_iff.1 hs
  have := (List.pairwise_iff_getElem.1 h) j n (by omega) hn (by omega)
  exact this (by rw [e, e2])

/-- A slot of a row's: what stands there. -/
theorem slot_tup {A : Ab} {x y : Int} {n s : Nat} (h : (A.slots x y)[n]? = some s) : ∃ t, (s, t) ∈ A.pl ∧ t.no = x ∧ t.id = y := by
  obtain ⟨p, hp, e⟩ := List.mem_map.1 (List.mem_of_getElem? h)
  obtain ⟨h1, h2⟩ := List.mem_filter.1 hp
  obtain ⟨s2, t⟩ := p
  have : s2 = s := e
  subst this
  simp only [decide_eq_true_eq] at h2
  exact ⟨t, h1, h2.1, h2.2⟩

/-- What is new in a step of the innermost loop. -/
theorem q2_new {A : Ab} (hok : A.Ok) {tabs ids : List Int} {i k n s : Nat} {x y : Int} {t : Tup} (ht : Rise tabs) (hi : Rise ids) (hx : tabs[i]? = some x) (hy : ids[k]? = some y) (hs : (A.slots x y)[n]? = some s) (hno : t.no = x) (hid : t.id = y) : ¬ Q2 tabs i x ids k y (A.slots x y) n (s, t) := by
  rintro ((h | ⟨_, h⟩) | ⟨_, _, h⟩)
  · unfold Q0 at h
    rw [show (s, t).2.no = x from hno] at h
    exact rise_take ht hx h
  · rw [show (s, t).2.id = y from hid] at h
    exact rise_take hi hy h
  · exact take_nd (slots_nd hok x y) hs h
theorem q2_step {A : Ab} (hok : A.Ok) {tabs ids : List Int} {i k n s : Nat} {x y : Int} {t : Tup} (hm : (s, t) ∈ A.pl) (hs : (A.slots x y)[n]? = some s) (hno : t.no = x) (hid : t.id = y) : ∀ p ∈ A.pl, Q2 tabs i x ids k y (A.slots x y) (n + 1) p ↔ Q2 tabs i x ids k y (A.slots x y) n p ∨ p.1 = s := fun p hp => by
  unfold Q2
  rw [List.take_add_one, hs]
  simp only [Option.toList_some, List.mem_append, List.mem_singleton]
  constructor
  · rintro (h | ⟨h1, h2, h3 | h3⟩)
    · exact .inl (.inl h)
    · exact .inl (.inr ⟨h1, h2, h3⟩)
    · exact .inr h3
  · rintro ((h | ⟨h1, h2, h3⟩) | h)
    · exact .inl h
    · exact .inr ⟨h1, h2, .inl h3⟩
    · obtain ⟨s2, u⟩ := p
      have : s2 = s := h
      subst this
      have := mem_same hok.nd hm hp
      subst this
      exact .inr ⟨hno, hid, .inr rfl⟩

theorem atT_is {A : Ab} (hok : A.Ok) {s : Nat} {t : Tup} (hm : (s, t) ∈ A.pl) : A.atT (s : Int) = t ∧ A.atB (s : Int) = true := by
  have : A.tupI (s : Int) = some t := by
    unfold Ab.tupI
    rw [if_pos (by omega), Int.toNat_natCast]
    exact (hok.tup s t).2 hm
  unfold Ab.atT Ab.atB
  rw [this]
  exact ⟨rfl, rfl⟩

end Go.Proofs.Ytkedkeelbbfmkaa
