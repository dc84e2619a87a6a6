/-
  A heap, as the document tells it (stage 11): versions in the order in which they were put; the greatest ID of each table.
-/
import Derived.Test.YtbgnbaogclnpgaaHSlots
namespace Go.Proofs.Ytbgnbaogclnpgaa
set_option linter.unusedVariables false

structure Ab where
  pl : List (Nat × Tup)
  lst : Int → Int

/-- The greatest number of a table, and the greatest ID. -/
def Most (x : Int) : Prop := 1 ≤ x ∧ x ≤ 2147483647
instance (x : Int) : Decidable (Most x) := inferInstanceAs (Decidable (_ ∧ _))

structure Ab.Ok (A : Ab) : Prop where
  nd : (A.pl.map Prod.fst).Nodup
  wf : ∀ p ∈ A.pl, p.2.wf ∧ Most p.2.no ∧ Most p.2.id
  lst : ∀ x, 0 ≤ A.lst x ∧ A.lst x ≤ 2147483647

def Ab.used (A : Ab) : List Nat := A.pl.map Prod.fst
def Ab.slots (A : Ab) (x y : Int) : List Nat := (A.pl.filter fun p => decide (p.2.no = x ∧ p.2.id = y)).map Prod.fst
def Ab.tup (A : Ab) (i : Nat) : Option Tup := (A.pl.find? fun p => decide (p.1 = i)).map Prod.snd

/-! ### The least slot that is free -/

def leastFrom (l : List Nat) : Nat → Nat → Nat
  | 0, s => s
  | k + 1, s => if s ∈ l then leastFrom l k (s + 1) else s
def topN (l : List Nat) : Nat := l.foldr max 0
def leastN (l : List Nat) : Nat := leastFrom l (topN l + 1) 0

theorem le_top {l : List Nat} {s : Nat} (h : s ∈ l) : s ≤ topN l := by
  induction l with
  | nil => cases h
  | cons a l ih =>
    show s ≤ max a (topN l)
    rcases List.mem_cons.1 h with rfl | h
    · omega
    · have := ih h; omega

theorem leastFrom_is (l : List Nat) : ∀ k s, topN l < s + k → (∀ j, j < s → j ∈ l) → leastFrom l k s ∉ l ∧ ∀ j, j < leastFrom l k s → j ∈ l
  | 0, s, hk, hs => ⟨fun h => by have := le_top h; simp [leastFrom] at this; omega, hs⟩
  | k + 1, s, hk, hs => by
    unfold leastFrom
    by_cases h : s ∈ l
    · rw [if_pos h]
      exact leastFrom_is l k (s + 1) (by omega) fun j hj => by
        by_cases e : j = s
        · rw [e]; exact h
        · exact hs j (by omega)
    · rw [if_neg h]
      exact ⟨h, hs⟩

theorem leastN_is (l : List Nat) : leastN l ∉ l ∧ ∀ j, j < leastN l → j ∈ l := leastFrom_is l _ 0 (by omega) (fun j hj => absurd hj (Nat.not_lt_zero j))
theorem leastN_eq {l : List Nat} {s : Nat} (h1 : s ∉ l) (h2 : ∀ j, j < s → j ∈ l) : s = leastN l := by
  obtain ⟨q1, q2⟩ := leastN_is l
  rcases Nat.lt_trichotomy s (leastN l) with h | h | h
  · exact absurd (q2 s h) h1
  · exact h
  · exact absurd (h2 _ h) q1

/-! ### What is done -/

def Ab.new : Ab := ⟨[], fun _ => 0⟩
def Ab.nxt (A : Ab) (x : Int) : Ab := if A.lst x = 2147483647 then A else ⟨A.pl, fun y => if y = x then A.lst x + 1 else A.lst y⟩
def Ab.nxtI (A : Ab) (x : Int) : Int := if A.lst x = 2147483647 then 0 else A.lst x + 1
def Ab.slot (A : Ab) : Nat := leastN A.used
def Ab.put (A : Ab) (t : Tup) : Ab := ⟨A.pl ++ [(A.slot, t)], fun y => if y = t.no then max (A.lst y) t.id else A.lst y⟩
def killP (i : Nat) (x c : Int) (p : Nat × Tup) : Nat × Tup := if p.1 = i then (p.1, p.2.kill x c) else p
def Ab.kill (A : Ab) (i : Nat) (x c : Int) : Ab := ⟨A.pl.map (killP i x c), A.lst⟩
def Ab.free (A : Ab) (i : Nat) : Ab := ⟨A.pl.filter fun p => decide (p.1 ≠ i), A.lst⟩

theorem killP_fst (i : Nat) (x c : Int) (p : Nat × Tup) : (killP i x c p).1 = p.1 := by unfold killP; split <;> rfl
theorem killP_no (i : Nat) (x c : Int) (p : Nat × Tup) : (killP i x c p).2.no = p.2.no ∧ (killP i x c p).2.id = p.2.id := by unfold killP; split <;> exact ⟨rfl, rfl⟩
theorem kill_used (A : Ab) (i : Nat) (x c : Int) : (A.kill i x c).used = A.used := by
  unfold Ab.used Ab.kill
  rw [List.map_map]
  exact List.map_congr_left fun p _ => killP_fst i x c p
theorem kill_slots (A : Ab) (i : Nat) (x c u v : Int) : (A.kill i x c).slots u v = A.slots u v := by
  unfold Ab.slots Ab.kill
  simp only [List.filter_map, List.map_map]
  have : (fun p : Nat × Tup => decide (p.2.no = u ∧ p.2.id = v)) ∘ killP i x c = fun p => decide (p.2.no = u ∧ p.2.id = v) := by
    funext p
    simp only [Function.comp, (killP_no i x c p).1, (killP_no i x c p).2]
  rw [this]
  exact List.map_congr_left fun p _ => killP_fst i x c p

theorem tup_wf_kill {t : Tup} (h : t.wf) {x c : Int} (hx : I64 x) (hc : I64 c) : (t.kill x c).wf := ⟨h.no, h.id, h.mn, h.cm, hx, hc, h.row, h.len⟩

theorem Ab.Ok.new : Ab.new.Ok := ⟨List.nodup_nil, fun p hp => (by cases hp), fun x => ⟨Int.le_refl _, by show (0 : Int) ≤ 2147483647; omega⟩⟩
theorem Ab.Ok.nxt {A : Ab} (h : A.Ok) (x : Int) : (A.nxt x).Ok := by
  unfold Ab.nxt
  by_cases e : A.lst x = 2147483647
  · rw [if_pos e]; exact h
  · rw [if_neg e]
    refine ⟨h.nd, h.wf, fun y => ?_⟩
    have h1 := h.lst x
    have h2 := h.lst y
    show 0 ≤ (if y = x then A.lst x + 1 else A.lst y) ∧ (if y = x then A.lst x + 1 else A.lst y) ≤ 2147483647
    split <;> omega
theorem Ab.Ok.put {A : Ab} (h : A.Ok) {t : Tup} (hw : t.wf) (hn : Most t.no) (hi : Most t.id) : (A.put t).Ok := by
  refine ⟨?_, fun p hp => ?_, fun y => ?_⟩
  · show ((A.pl ++ [(A.slot, t)]).map Prod.fst).Nodup
    rw [List.map_append, List.nodup_append]
    refine ⟨h.nd, by simp, fun a ha b hb => ?_⟩
    simp only [List.map_cons, List.map_nil, List.mem_singleton] at hb
    subst hb
    rintro rfl
    exact (leastN_is A.used).1 ha
  · rcases List.mem_append.1 hp with hp | hp
    · exact h.wf p hp
    · rw [List.mem_singleton.1 hp]; exact ⟨hw, hn, hi⟩
  · have h2 := h.lst y
    unfold Most at hi
    show 0 ≤ (if y = t.no then max (A.lst y) t.id else A.lst y) ∧ (if y = t.no then max (A.lst y) t.id else A.lst y) ≤ 2147483647
    split <;> omega
theorem Ab.Ok.kill {A : Ab} (h : A.Ok) (i : Nat) {x c : Int} (hx : I64 x) (hc : I64 c) : (A.kill i x c).Ok := by
  refine ⟨?_, fun p hp => ?_, h.lst⟩
  · have := kill_used A i x c
    unfold Ab.used at this
    rw [this]; exact h.nd
  · obtain ⟨q, hq, rfl⟩ := List.mem_map.1 hp
    obtain ⟨h1, h2, h3⟩ := h.wf q hq
    unfold killP
    split
    · exact ⟨tup_wf_kill h1 hx hc, h2, h3⟩
    · exact ⟨h1, h2, h3⟩
theorem Ab.Ok.free {A : Ab} (h : A.Ok) (i : Nat) : (A.free i).Ok :=
  ⟨h.nd.sublist (List.filter_sublist.map _), fun p hp => h.wf p (List.mem_filter.1 hp).1, h.lst⟩

theorem mem_same {l : List (Nat × Tup)} (h : (l.map Prod.fst).Nodup) {i : Nat} {t u : Tup} (h1 : (i, t) ∈ l) (h2 : (i, u) ∈ l) : t = u := by
  induction l with
  | nil => cases h1
  | cons p l ih =>
    rw [List.map_cons, List.nodup_cons] at h
    rcases List.mem_cons.1 h1 with e1 | h1
    · rcases List.mem_cons.1 h2 with e2 | h2
      · rw [← e2] at e1; exact (Prod.mk.inj e1).2
      · exact absurd (List.mem_map.2 ⟨_, h2, by rw [← e1]⟩) h.1
    · rcases List.mem_cons.1 h2 with e2 | h2
      · exact absurd (List.mem_map.2 ⟨_, h1, by rw [← e2]⟩) h.1
      · exact ih h.2 h1 h2

theorem Ab.Ok.tup {A : Ab} (h : A.Ok) (i : Nat) (t : Tup) : A.tup i = some t ↔ (i, t) ∈ A.pl := by
  unfold Ab.tup
  constructor
  · intro e
    obtain ⟨p, hp, rfl⟩ := Option.map_eq_some_iff.1 e
    have h1 := List.mem_of_find?_eq_some hp
    have h2 := List.find?_some hp
    simp only [decide_eq_true_eq] at h2
    rw [← h2]; exact h1
  · intro hm
    cases hf : A.pl.find? fun p => decide (p.1 = i) with
    | none => have := List.find?_eq_none.1 hf _ hm; simp at this
    | some p =>
      have h1 := List.mem_of_find?_eq_some hf
      have h2 := List.find?_some hf
      simp only [decide_eq_true_eq] at h2
      obtain ⟨j, u⟩ := p
      have h3 : j = i := h2
      subst h3
      rw [Option.map_some]
      exact congrArg some (mem_same h.nd h1 hm)
theorem tup_used {A : Ab} {i : Nat} : A.tup i = none ↔ i ∉ A.used := by
  unfold Ab.tup Ab.used
  rw [Option.map_eq_none_iff, List.find?_eq_none]
  constructor
  · intro h hm
    obtain ⟨p, hp, e⟩ := List.mem_map.1 hm
    exact h p hp (by simp [e])
  · intro h p hp e
    simp only [decide_eq_true_eq] at e
    exact h (List.mem_map.2 ⟨p, hp, e⟩)

/-! ### As it lies -/

/-- M is how A lies. -/
structure Rep (M : Hp) (A : Ab) : Prop where
  tup : ∀ i t, (i < M.n ∧ M.tup i = some t) ↔ (i, t) ∈ A.pl
  hh : HeapO M.fr M.fn
  inj : ∀ j k, j < M.fn → k < M.fn → M.fr j = M.fr k → j = k
  fr : ∀ s, (∃ j, j < M.fn ∧ M.fr j = s) ↔ s < M.n ∧ M.tup s = none
  len : M.n = A.pl.length + M.fn
  ix : ∀ x y, (M.tbl x).ix y = A.slots x y
  last : ∀ x, (M.tbl x).last = A.lst x

theorem Rep.used {M : Hp} {A : Ab} (h : Rep M A) (s : Nat) : s ∈ A.used ↔ s < M.n ∧ M.tup s ≠ none := by
  unfold Ab.used
  constructor
  · intro hm
    obtain ⟨⟨j, t⟩, hp, rfl⟩ := List.mem_map.1 hm
    obtain ⟨h1, h2⟩ := (h.tup j t).2 hp
    exact ⟨h1, by rw [h2]; simp⟩
  · rintro ⟨h1, h2⟩
    cases e : M.tup s with
    | none => exact absurd e h2
    | some t => exact List.mem_map.2 ⟨(s, t), (h.tup s t).1 ⟨h1, e⟩, rfl⟩

theorem Rep.frlt {M : Hp} {A : Ab} (h : Rep M A) : ∀ j, j < M.fn → M.fr j < M.n := fun j hj => ((h.fr (M.fr j)).1 ⟨j, hj, rfl⟩).1

theorem Rep.new : Rep noHp Ab.new :=
  ⟨fun i t => ⟨fun h => absurd h.1 (Nat.not_lt_zero i), fun h => (by cases h)⟩, fun k hk hk2 => absurd hk2 (Nat.not_lt_zero k), fun j k hj => absurd hj (Nat.not_lt_zero j), fun s => ⟨fun ⟨j, hj, _⟩ => absurd hj (Nat.not_lt_zero j), fun h => absurd h.1 (Nat.not_lt_zero s)⟩, rfl, fun _ _ => rfl, fun _ => rfl⟩

/-- A slot is taken: the document's. -/
theorem Rep.slot {M M1 : Hp} {A : Ab} {t : Tup} {s : Nat} (h : Rep M A) (hf : FillR M t s M1) : s = A.slot := by
  unfold Ab.slot
  cases hf with
  | new h0 =>
    refine leastN_eq (fun hm => by have := (h.used _).1 hm; omega) fun j hj => ?_
    refine (h.used j).2 ⟨hj, fun e => ?_⟩
    obtain ⟨k, hk, _⟩ := (h.fr j).2 ⟨hj, e⟩
    omega
  | old m fr' hm hh hs hx =>
    have h0 := (h.fr (M.fr 0)).1 ⟨0, by omega, rfl⟩
    refine leastN_eq (fun hm => absurd h0.2 ((h.used _).1 hm).2) fun j hj => ?_
    refine (h.used j).2 ⟨by omega, fun e => ?_⟩
    obtain ⟨k, hk, e2⟩ := (h.fr j).2 ⟨by omega, e⟩
    have := h.hh.least k hk
    omega

theorem opn_tbl (M : Hp) (x y : Int) : (M.opn x).tbl y = M.tbl y := by
  unfold Hp.opn
  cases e : M.tb x with
  | some T => rfl
  | none =>
    unfold Hp.tbl Hp.setTb
    by_cases e2 : y = x
    · subst e2; simp [e]
    · simp [e2]
theorem setTb_tbl (M : Hp) (x y : Int) (T : Tbl) : (M.setTb x T).tbl y = if y = x then T else M.tbl y := by
  unfold Hp.tbl Hp.setTb
  by_cases e : y = x
  · simp [e]
  · simp [e]
theorem opn_rest (M : Hp) (x : Int) : (M.opn x).n = M.n ∧ (M.opn x).tup = M.tup ∧ (M.opn x).fn = M.fn ∧ (M.opn x).fr = M.fr := by
  unfold Hp.opn
  cases M.tb x with
  | some T => exact ⟨rfl, rfl, rfl, rfl⟩
  | none => exact ⟨rfl, rfl, rfl, rfl⟩

/-- Only the tables have changed. -/
theorem Rep.tabs {M M' : Hp} {A A' : Ab} (h : Rep M A) (hn : M'.n = M.n ∧ M'.tup = M.tup ∧ M'.fn = M.fn ∧ M'.fr = M.fr) (hp : A'.pl = A.pl) (hi : ∀ x y, (M'.tbl x).ix y = A'.slots x y) (hl : ∀ x, (M'.tbl x).last = A'.lst x) : Rep M' A' := by
  obtain ⟨h1, h2, h3, h4⟩ := hn
  refine ⟨fun i t => ?_, ?_, ?_, fun s => ?_, ?_, hi, hl⟩
  · rw [h1, h2, hp]; exact h.tup i t
  · rw [h3, h4]; exact h.hh
  · rw [h3, h4]; exact h.inj
  · rw [h1, h2, h3, h4]; exact h.fr s
  · rw [h1, h3, hp]; exact h.len

theorem Rep.nxt {M : Hp} {A : Ab} (h : Rep M A) (x : Int) : Rep (M.nxt x) (A.nxt x) ∧ M.nxtI x = A.nxtI x := by
  constructor
  · unfold Hp.nxt Ab.nxt
    rw [h.last x]
    by_cases e : A.lst x = 2147483647
    · rw [if_pos e, if_pos e]
      exact h.tabs (opn_rest M x) rfl (fun u v => by rw [opn_tbl]; exact h.ix u v) (fun u => by rw [opn_tbl]; exact h.last u)
    · rw [if_neg e, if_neg e]
      refine h.tabs (opn_rest M x) rfl (fun u v => ?_) (fun u => ?_)
      · rw [setTb_tbl]
        by_cases e2 : u = x
        · subst e2; rw [if_pos rfl]; exact h.ix u v
        · rw [if_neg e2, opn_tbl]; exact h.ix u v
      · rw [setTb_tbl]
        show _ = if u = x then A.lst x + 1 else A.lst u
        by_cases e2 : u = x
        · subst e2; rw [if_pos rfl, if_pos rfl]
        · rw [if_neg e2, if_neg e2, opn_tbl]; exact h.last u
  · unfold Hp.nxtI Ab.nxtI
    rw [h.last x]

theorem Rep.put {M M1 : Hp} {A : Ab} {t : Tup} {s : Nat} (h : Rep M A) (hok : A.Ok) (hf : FillR M t s M1) : Rep (M1.putT t s) (A.put t) := by
  have hs := h.slot hf
  have hslots : ∀ x y, (A.put t).slots x y = if x = t.no ∧ y = t.id then A.slots x y ++ [s] else A.slots x y := fun x y => by
    unfold Ab.slots Ab.put
    rw [List.filter_append, List.map_append, ← hs]
    by_cases e : x = t.no ∧ y = t.id
    · rw [if_pos e]; obtain ⟨rfl, rfl⟩ := e; simp
    · rw [if_neg e]
      rw [List.filter_cons_of_neg (by simp only [decide_eq_true_eq]; exact fun h => e ⟨h.1.symm, h.2.symm⟩)]
      simp
  have htb : M1.tb = M.tb := by cases hf <;> rfl
  have htbl : ∀ x, M1.tbl x = M.tbl x := fun x => by unfold Hp.tbl; rw [htb]
  have hrest : (M1.putT t s).n = M1.n ∧ (M1.putT t s).tup = M1.tup ∧ (M1.putT t s).fn = M1.fn ∧ (M1.putT t s).fr = M1.fr := opn_rest M1 t.no
  obtain ⟨r1, r2, r3, r4⟩ := hrest
  have hmem : ∀ i u, (i, u) ∈ (A.put t).pl ↔ (i, u) ∈ A.pl ∨ (i = s ∧ u = t) := fun i u => by
    show (i, u) ∈ A.pl ++ [(A.slot, t)] ↔ _
    rw [List.mem_append, List.mem_singleton, ← hs]
    simp
  have hlen : (A.put t).pl.length = A.pl.length + 1 := by
    show (A.pl ++ [(A.slot, t)]).length = _
    simp
  have hix : ∀ x y, ((M1.putT t s).tbl x).ix y = (A.put t).slots x y := fun x y => by
    unfold Hp.putT
    rw [setTb_tbl, hslots]
    by_cases e : x = t.no
    · subst e
      rw [if_pos rfl]
      unfold Tbl.ent
      by_cases e2 : y = t.id
      · subst e2
        simp only [if_true, and_self]
        rw [htbl, h.ix]
      · rw [if_neg (fun h : t.no = t.no ∧ y = t.id => e2 h.2)]
        simp only [if_neg e2]
        rw [htbl, h.ix]
    · rw [if_neg e, if_neg (fun h => e h.1), opn_tbl, htbl]
      exact h.ix x y
  have hlast : ∀ x, ((M1.putT t s).tbl x).last = (A.put t).lst x := fun x => by
    unfold Hp.putT
    rw [setTb_tbl]
    show _ = if x = t.no then max (A.lst x) t.id else A.lst x
    by_cases e : x = t.no
    · subst e
      rw [if_pos rfl, if_pos rfl]
      unfold Tbl.ent
      simp only
      rw [htbl, h.last]
    · rw [if_neg e, if_neg e, opn_tbl, htbl]
      exact h.last x
  cases hf with
  | new h0 =>
    have e1 : (M.more t).n = M.n + 1 := rfl
    have e2 : (M.more t).tup = updT M.tup M.n (some t) := rfl
    refine ⟨fun i u => ?_, by rw [r3, r4]; exact h.hh, by rw [r3, r4]; exact h.inj, fun x => ?_, ?_, hix, hlast⟩
    · rw [r1, r2, hmem, ← h.tup, e1, e2]
      unfold updT
      by_cases e : i = M.n
      · subst e
        rw [if_pos rfl]
        constructor
        · rintro ⟨_, q⟩; exact .inr ⟨rfl, (Option.some.inj q).symm⟩
        · rintro (⟨q, _⟩ | ⟨_, rfl⟩)
          · omega
          · exact ⟨by omega, rfl⟩
      · simp only [if_neg e]
        constructor
        · rintro ⟨q1, q2⟩; exact .inl ⟨by omega, q2⟩
        · rintro (⟨q1, q2⟩ | ⟨q1, _⟩)
          · exact ⟨by omega, q2⟩
          · exact absurd q1 e
    · rw [r1, r2, r3, r4, e1, e2]
      have e3 : (M.more t).fn = M.fn := rfl
      rw [e3]
      constructor
      · rintro ⟨j, hj, _⟩; omega
      · rintro ⟨q1, q2⟩
        unfold updT at q2
        by_cases e : x = M.n
        · rw [if_pos e] at q2; cases q2
        · rw [if_neg e] at q2
          obtain ⟨j, hj, _⟩ := (h.fr x).2 ⟨by omega, q2⟩
          omega
    · rw [r1, r3, hlen]
      show M.n + 1 = A.pl.length + 1 + M.fn
      have := h.len
      omega
  | old m fr' hm hh hsame hx =>
    have h0 := (h.fr (M.fr 0)).1 ⟨0, by omega, rfl⟩
    have e1 : (M.fillT m fr' t).n = M.n := rfl
    have e2 : (M.fillT m fr' t).tup = updT M.tup (M.fr 0) (some t) := rfl
    have e3 : (M.fillT m fr' t).fn = m := rfl
    have e4 : (M.fillT m fr' t).fr = fr' := rfl
    have hinj := hsame.inj (by rw [← hm]; exact h.inj)
    refine ⟨fun i u => ?_, by rw [r3, r4]; exact hh, ?_, fun x => ?_, ?_, hix, hlast⟩
    · rw [r1, r2, hmem, ← h.tup, e1, e2]
      unfold updT
      by_cases e : i = M.fr 0
      · subst e
        rw [if_pos rfl]
        constructor
        · rintro ⟨_, q⟩; exact .inr ⟨rfl, (Option.some.inj q).symm⟩
        · rintro (⟨_, q⟩ | ⟨_, rfl⟩)
          · rw [h0.2] at q; cases q
          · exact ⟨h0.1, rfl⟩
      · simp only [if_neg e]
        constructor
        · intro q; exact .inl q
        · rintro (q | ⟨q1, _⟩)
          · exact q
          · exact absurd q1 e
    · rw [r3, r4, e3, e4]
      exact fun j k hj hk e => hinj j k (by omega) (by omega) e
    · rw [r1, r2, r3, r4, e1, e2, e3, e4]
      unfold updT
      have hm2 := hsame.mem x
      rw [← hm, h.fr x] at hm2
      by_cases e : x = M.fr 0
      · subst e
        simp only [if_true]
        constructor
        · rintro ⟨j, hj, q⟩
          have := hinj j m (by omega) (by omega) (by rw [q, hx])
          omega
        · rintro ⟨_, q⟩; cases q
      · simp only [if_neg e]
        rw [← hm2]
        constructor
        · rintro ⟨j, hj, q⟩; exact ⟨j, by omega, q⟩
        · rintro ⟨j, hj, q⟩
          refine ⟨j, ?_, q⟩
          by_cases e5 : j = m
          · rw [e5, hx] at q; exact absurd q.symm e
          · omega
    · rw [r1, r3, hlen, e1, e3]
      have := h.len
      omega

theorem Rep.kill {M : Hp} {A : Ab} {i : Nat} {t : Tup} (h : Rep M A) (hok : A.Ok) (hi : i < M.n) (ht : M.tup i = some t) (x c : Int) : Rep (M.kill i t x c) (A.kill i x c) := by
  have hmem := (h.tup i t).1 ⟨hi, ht⟩
  refine ⟨fun j u => ?_, h.hh, h.inj, fun s => ?_, ?_, fun u v => by rw [kill_slots]; exact h.ix u v, h.last⟩
  · show (j < M.n ∧ updT M.tup i (some (t.kill x c)) j = some u) ↔ (j, u) ∈ A.pl.map (killP i x c)
    rw [List.mem_map]
    unfold updT
    by_cases e : j = i
    · subst e
      rw [if_pos rfl]
      constructor
      · rintro ⟨_, q⟩
        refine ⟨(j, t), hmem, ?_⟩
        unfold killP
        rw [if_pos rfl, Option.some.inj q]
      · rintro ⟨⟨k, v⟩, hp, q⟩
        have hk : k = j := by have := congrArg Prod.fst q; rw [killP_fst] at this; exact this
        subst hk
        have := mem_same hok.nd hp hmem
        subst this
        unfold killP at q
        rw [if_pos rfl] at q
        exact ⟨hi, by rw [(Prod.mk.inj q).2]⟩
    · rw [if_neg e, h.tup]
      constructor
      · intro hp
        refine ⟨(j, u), hp, ?_⟩
        unfold killP
        rw [if_neg e]
      · rintro ⟨⟨k, v⟩, hp, q⟩
        have hk : k = j := by have := congrArg Prod.fst q; rw [killP_fst] at this; exact this
        subst hk
        unfold killP at q
        rw [if_neg e] at q
        rw [← q]; exact hp
  · show (∃ j, j < M.fn ∧ M.fr j = s) ↔ s < M.n ∧ updT M.tup i (some (t.kill x c)) s = none
    rw [h.fr]
    unfold updT
    by_cases e : s = i
    · subst e; rw [if_pos rfl, ht]; simp
    · rw [if_neg e]
  · show M.n = (A.pl.map (killP i x c)).length + M.fn
    rw [List.length_map]; exact h.len

theorem filter_one {l : List (Nat × Tup)} (h : (l.map Prod.fst).Nodup) {i : Nat} {t : Tup} (hm : (i, t) ∈ l) : (l.filter fun p => decide (p.1 ≠ i)).length + 1 = l.length := by
  induction l with
  | nil => cases hm
  | cons p l ih =>
    rw [List.map_cons, List.nodup_cons] at h
    rcases List.mem_cons.1 hm with e | hm
    · subst e
      rw [List.filter_cons_of_neg (by simp), List.filter_eq_self.2 fun q hq => by
        simp only [decide_eq_true_eq]
        intro e
        exact h.1 (List.mem_map.2 ⟨q, hq, e⟩)]
      rfl
    · have hne : p.1 ≠ i := fun e => h.1 (List.mem_map.2 ⟨_, hm, e.symm⟩)
      rw [List.filter_cons_of_pos (by simp [hne]), List.length_cons, List.length_cons, ih h.2 hm]

theorem Rep.table {M : Hp} {A : Ab} {i : Nat} {t : Tup} (h : Rep M A) (hi : i < M.n) (ht : M.tup i = some t) : ∃ T, M.tb t.no = some T ∧ i ∈ T.ix t.id := by
  have hmem := (h.tup i t).1 ⟨hi, ht⟩
  have : i ∈ (M.tbl t.no).ix t.id := by
    rw [h.ix]
    exact List.mem_map.2 ⟨(i, t), List.mem_filter.2 ⟨hmem, by simp⟩, rfl⟩
  unfold Hp.tbl at this
  cases e : M.tb t.no with
  | none => rw [e] at this; cases this
  | some T => rw [e] at this; exact ⟨T, rfl, this⟩

theorem Rep.free {M : Hp} {A : Ab} {i : Nat} {t : Tup} {T : Tbl} {fr' : Nat → Nat} (h : Rep M A) (hok : A.Ok) (hi : i < M.n) (ht : M.tup i = some t) (hT : M.tb t.no = some T) (hh : HeapO fr' (M.fn + 1)) (hs : Same (fun j => if j < M.fn then M.fr j else i) fr' (M.fn + 1)) : Rep (M.freeT i t T fr') (A.free i) := by
  have hmem := (h.tup i t).1 ⟨hi, ht⟩
  have htb : M.tbl t.no = T := by unfold Hp.tbl; rw [hT]; rfl
  have hnf : ∀ j, j < M.fn → M.fr j ≠ i := fun j hj e => by
    have := (h.fr i).1 ⟨j, hj, e⟩
    rw [ht] at this
    cases this.2
  have hslots : ∀ x y, (A.free i).slots x y = (A.slots x y).filter fun k => decide (k ≠ i) := fun x y => by
    unfold Ab.slots Ab.free
    rw [List.filter_map, List.filter_filter, List.filter_filter]
    congr 1
    apply List.filter_congr
    intro p _
    simp only [Function.comp, Bool.and_comm]
  refine ⟨fun j u => ?_, hh, ?_, fun s => ?_, ?_, fun x y => ?_, fun x => ?_⟩
  · show (j < M.n ∧ updT M.tup i none j = some u) ↔ (j, u) ∈ A.pl.filter fun p => decide (p.1 ≠ i)
    rw [List.mem_filter, ← h.tup]
    unfold updT
    by_cases e : j = i
    · subst e; simp
    · rw [if_neg e]; simp [e]
  · refine hs.inj fun j k hj hk e => ?_
    have e : (if j < M.fn then M.fr j else i) = (if k < M.fn then M.fr k else i) := e
    by_cases h1 : j < M.fn
    · by_cases h2 : k < M.fn
      · rw [if_pos h1, if_pos h2] at e; exact h.inj j k h1 h2 e
      · rw [if_pos h1, if_neg h2] at e; exact absurd e (hnf j h1)
    · by_cases h2 : k < M.fn
      · rw [if_neg h1, if_pos h2] at e; exact absurd e.symm (hnf k h2)
      · omega
  · show (∃ j, j < M.fn + 1 ∧ fr' j = s) ↔ s < M.n ∧ updT M.tup i none s = none
    rw [hs.mem s]
    unfold updT
    by_cases e : s = i
    · subst e
      rw [if_pos rfl]
      exact ⟨fun _ => ⟨hi, rfl⟩, fun _ => ⟨M.fn, by omega, by simp⟩⟩
    · rw [if_neg e, ← h.fr s]
      constructor
      · rintro ⟨j, hj, q⟩
        have q : (if j < M.fn then M.fr j else i) = s := q
        by_cases h1 : j < M.fn
        · rw [if_pos h1] at q; exact ⟨j, h1, q⟩
        · rw [if_neg h1] at q; exact absurd q.symm e
      · rintro ⟨j, hj, q⟩
        exact ⟨j, by omega, by simp [hj, q]⟩
  · show M.n = (A.pl.filter fun p => decide (p.1 ≠ i)).length + (M.fn + 1)
    have := filter_one hok.nd hmem
    have := h.len
    omega
  · have : (M.freeT i t T fr').tbl x = (M.setTb t.no (T.lv t.id i)).tbl x := rfl
    rw [this, setTb_tbl, hslots, ← h.ix]
    by_cases e : x = t.no
    · subst e
      rw [if_pos rfl, htb]
      unfold Tbl.lv
      by_cases e2 : y = t.id
      · subst e2; simp only [if_true]
      · simp only [if_neg e2]
        rw [List.filter_eq_self.2]
        intro k hk
        simp only [decide_eq_true_eq]
        rintro rfl
        have h2 := h.ix t.no y
        rw [htb] at h2
        rw [h2] at hk
        obtain ⟨⟨k2, u⟩, hp, rfl⟩ := List.mem_map.1 hk
        obtain ⟨p1, p2⟩ := List.mem_filter.1 hp
        have := mem_same hok.nd p1 hmem
        subst this
        simp only [decide_eq_true_eq] at p2
        exact e2 p2.2.symm
    · rw [if_neg e, List.filter_eq_self.2]
      intro k hk
      simp only [decide_eq_true_eq]
      rintro rfl
      rw [h.ix] at hk
      obtain ⟨⟨k2, u⟩, hp, rfl⟩ := List.mem_map.1 hk
      obtain ⟨p1, p2⟩ := List.mem_filter.1 hp
      have := mem_same hok.nd p1 hmem
      subst this
      simp only [decide_eq_true_eq] at p2
      exact e p2.1.symm
  · have : (M.freeT i t T fr').tbl x = (M.setTb t.no (T.lv t.id i)).tbl x := rfl
    rw [this, setTb_tbl]
    show _ = A.lst x
    by_cases e : x = t.no
    · subst e
      rw [if_pos rfl]
      show T.last = _
      rw [← htb]; exact h.last _
    · rw [if_neg e]; exact h.last x

end Go.Proofs.Ytbgnbaogclnpgaa
