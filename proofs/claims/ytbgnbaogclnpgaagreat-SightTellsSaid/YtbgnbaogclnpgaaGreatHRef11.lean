/-
  What is done step by step: one heap, and what of it counts (stage 11).
-/
import Derived.Test.YtbgnbaogclnpgaaGreatHLaw
import Derived.Test.YtbgnbaogclnpgaaGreatRegX
import Derived.Test.YtbgnbaogclnpgaaGreatRegL
namespace Go.Proofs.YtbgnbaogclnpgaaGreat
open Go.RowKit
set_option linter.unusedVariables false

/-! ### What is used -/

theorem pigeon : ∀ (m : Nat) (l : List Nat), (∀ j, j < m → j ∈ l) → m ≤ l.length
  | 0, _, _ => Nat.zero_le _
  | m + 1, l, h => by
    have h1 := h m (by omega)
    have h2 := pigeon m (l.erase m) fun j hj => (List.mem_erase_of_ne (by omega)).2 (h j (by omega))
    rw [List.length_erase_of_mem h1] at h2
    have := List.length_pos_of_mem h1
    omega
theorem leastN_le (l : List Nat) : leastN l ≤ l.length := pigeon _ l (leastN_is l).2
theorem used_len (A : Ab) : A.used.length = A.pl.length := by unfold Ab.used; rw [List.length_map]

theorem atB_used {A : Ab} {k : Nat} : A.atB (k : Int) = true ↔ k ∈ A.used := by
  unfold Ab.atB Ab.tupI
  rw [if_pos (by omega), Int.toNat_natCast]
  cases e : A.tup k with
  | none => have := tup_used.1 e; simp [this]
  | some t =>
    have : k ∈ A.used := Classical.byContradiction fun h => by rw [tup_used.2 h] at e; cases e
    simp [this]
theorem atB_neg {A : Ab} {x : Int} (h : x < 0) : A.atB x = false := by unfold Ab.atB Ab.tupI; rw [if_neg (by omega)]; rfl

theorem put_used (A : Ab) (t : Tup) : (A.put t).used = A.used ++ [A.slot] := by unfold Ab.used Ab.put; simp
theorem free_used {A : Ab} {i k : Nat} (h : k ∈ (A.free i).used) : k ∈ A.used := by
  obtain ⟨p, hp, rfl⟩ := List.mem_map.1 h
  exact List.mem_map.2 ⟨p, (List.mem_filter.1 hp).1, rfl⟩
theorem free_len (A : Ab) (i : Nat) : (A.free i).pl.length ≤ A.pl.length := List.length_filter_le _ _
theorem kill_len (A : Ab) (i : Nat) (x c : Int) : (A.kill i x c).pl.length = A.pl.length := by unfold Ab.kill; rw [List.length_map]
theorem nx_pl (A : Ab) (x : Int) : (A.nx x).pl = A.pl := by
  unfold Ab.nx Ab.nxt
  by_cases h : Most x
  · by_cases h2 : A.lst x = 2147483647
    · rw [if_pos h, if_pos h2]
    · rw [if_pos h, if_neg h2]
  · rw [if_neg h]

/-- How many slots below k are used. -/
def cntU (l : List Nat) (k : Int) : Nat := (l.filter fun s : Nat => decide ((s : Int) < k)).length
theorem cntU_lo (l : List Nat) {k : Int} (h : k ≤ 0) : cntU l k = 0 := by
  unfold cntU
  rw [List.length_eq_zero_iff, List.filter_eq_nil_iff]
  intro s _
  simp only [decide_eq_true_eq]
  omega
theorem cntU_hi {l : List Nat} {k : Int} (h : ∀ s ∈ l, (s : Int) < k) : cntU l k = l.length := by
  unfold cntU
  rw [List.filter_eq_self.2 fun s hs => by simpa using h s hs]
theorem cntU_in : ∀ {l : List Nat}, l.Nodup → ∀ {k : Nat}, k ∈ l → cntU l ((k : Int) + 1) = cntU l k + 1
  | [], _, _, h => (by cases h)
  | a :: l, hn, k, h => by
    rw [List.nodup_cons] at hn
    unfold cntU
    by_cases e : a = k
    · subst e
      have h1 : (l.filter fun s : Nat => decide ((s : Int) < (a : Int) + 1)) = l.filter fun s : Nat => decide ((s : Int) < (a : Int)) := List.filter_congr fun s hs => by
        have : s ≠ a := fun e => hn.1 (e ▸ hs)
        rw [Bool.eq_iff_iff]; simp only [decide_eq_true_eq]; omega
      rw [List.filter_cons_of_pos (by simp only [decide_eq_true_eq]; omega), List.filter_cons_of_neg (by simp), h1]
      rfl
    · have ih := cntU_in hn.2 ((List.mem_cons.1 h).resolve_left (fun h => e h.symm))
      unfold cntU at ih
      by_cases h2 : a < k
      · rw [List.filter_cons_of_pos (by simp only [decide_eq_true_eq]; omega), List.filter_cons_of_pos (by simp only [decide_eq_true_eq]; omega), List.length_cons, List.length_cons, ih]
      · rw [List.filter_cons_of_neg (by simp only [decide_eq_true_eq]; omega), List.filter_cons_of_neg (by simp only [decide_eq_true_eq]; omega), ih]
theorem cntU_out {l : List Nat} {k : Int} (h : ∀ s ∈ l, (s : Int) ≠ k) : cntU l (k + 1) = cntU l k := by
  unfold cntU
  congr 1
  refine List.filter_congr fun s hs => ?_
  have := h s hs
  rw [Bool.eq_iff_iff]; simp only [decide_eq_true_eq]; omega
theorem cntU_le (l : List Nat) (k : Int) : cntU l k ≤ l.length := List.length_filter_le _ _

/-- A slot that is there. -/
theorem atB_is {A : Ab} {x : Int} (h : A.atB x = true) : ∃ k : Nat, x = (k : Int) ∧ k ∈ A.used := by
  by_cases hx : 0 ≤ x
  · obtain ⟨k, rfl⟩ := Int.eq_ofNat_of_zero_le hx
    exact ⟨k, rfl, atB_used.1 h⟩
  · rw [atB_neg (by omega)] at h; cases h
theorem atB_not {A : Ab} {x : Int} (h : A.atB x = false) : ∀ s ∈ A.used, (s : Int) ≠ x := by
  rintro s hs rfl
  rw [atB_used.2 hs] at h; cases h

end Go.Proofs.YtbgnbaogclnpgaaGreat

namespace Go.Proofs.YtbgnbaogclnpgaaGreat
open Go.RowKit
set_option linter.unusedVariables false

structure Stp where
  kind : Int
  t : Tup
  slot : Int
  a : Int
  b : Int

abbrev Plc := Int × Tup
def plC (p : Plc) (v : Value) : List Value := [.int .i64 p.1, .int .i64 p.2.no, .int .i64 p.2.id, .int .i64 p.2.mn, .int .i64 p.2.cm, .int .i64 p.2.mx, .int .i64 p.2.cx, v]
def pl0 : Plc := (0, tup0)

theorem info_pl : (Tryz.prog.info? 123).map (fun i => (i.zero, i.size, i.bytes)) = some (some (.agg #[.int .i64 0, .int .i64 0, .int .i64 0, .int .i64 0, .int .i64 0, .int .i64 0, .int .i64 0, .slice none 0 0]), 8, 80) := by kernel_rfl

theorem SlL.stay {G : Nat → Prop} {W W' : World} {a : Option Addr} {c : Nat} {l : List Val} (h : SlL W a c l) (hs : Stay G W W') (hG : l ≠ [] → ∀ b o, a = some ⟨b, o, none⟩ → G b) : SlL W' a c l :=
  ⟨h.lc, h.cm, fun hl => by
    obtain ⟨b, o, e, hx⟩ := h.at' hl
    refine ⟨b, o, e, fun i x hi => ?_⟩
    obtain ⟨h0, h1, h2, h3, h4⟩ := hx i x hi
    have hb := hG hl b o e
    exact ⟨by rw [hs.cell h4 hb]; exact h0, by rw [hs.cell h4 hb]; exact h1, by rw [hs.cell h4 hb]; exact h2, by rw [hs.cell h4 hb]; exact h3, Nat.lt_of_lt_of_le h4 hs.size⟩, h.wf⟩
theorem SlL.lt {W : World} {a : Option Addr} {c : Nat} {l : List Val} (h : SlL W a c l) (hl : l ≠ []) {b o : Nat} (e : a = some ⟨b, o, none⟩) : b < W.heap.size := by
  obtain ⟨b2, o2, e2, hx⟩ := h.at' hl
  rw [e] at e2
  cases e2
  cases l with
  | nil => exact absurd rfl hl
  | cons x l =>
    obtain ⟨_, _, _, _, h4⟩ := hx 0 x rfl
    exact h4

/-- A row of places; the versions' rows lie in blocks of R, and it does not itself. -/
structure RowP (R : Nat → Prop) (W : World) (s : Value) (l : List Plc) : Prop where
  ex : ∃ rv : Nat → Value, RowF 123 8 W s l.length (fun j => plC (l.getD j pl0) (rv j)) ∧
    ∀ j p, l[j]? = some p → ∃ a c, rv j = .slice a p.2.row.length c ∧ SlL W a c p.2.row ∧ (p.2.row ≠ [] → ∀ b o, a = some ⟨b, o, none⟩ → R b)
  own : ∀ k, s.ownBlock = some k → ¬ R k

section
variable {R R' : Nat → Prop} {W W' : World} {s : Value} {l : List Plc}
theorem RowP.stay {G : Nat → Prop} (h : RowP R W s l) (hs : Stay G W W') (hG : ∀ k, s.ownBlock = some k → G k) (hR : ∀ k, R k → G k) : RowP R W' s l := by
  obtain ⟨⟨rv, h1, h2⟩, h3⟩ := h
  refine ⟨⟨rv, h1.stay hs hG, fun j p hp => ?_⟩, h3⟩
  obtain ⟨a, c, q1, q2, q3⟩ := h2 j p hp
  exact ⟨a, c, q1, q2.stay hs (fun hl b o e => hR b (q3 hl b o e)), q3⟩
theorem RowP.below (h : RowP R W s l) (hb : Below W.heap.size W W') : RowP R W' s l := h.stay (G := fun _ => True) (Stay.of_below hb) (fun _ _ => trivial) (fun _ _ => trivial)
theorem RowP.nil (R : Nat → Prop) (W : World) : RowP R W (.slice none 0 0) [] := ⟨⟨fun _ => .slice none 0 0, RowF.nil _ _ _ _, fun j p hp => by simp at hp⟩, fun k hk => by cases hk⟩
theorem RowP.form (h : RowP R W s l) : ∃ a c, s = .slice a l.length c ∧ l.length ≤ c ∧ c ≤ maxLen := by
  obtain ⟨⟨rv, h1, h2⟩, h3⟩ := h
  exact h1.form
theorem RowP.lt (h : RowP R W s l) : ∀ k, s.ownBlock = some k → k < W.heap.size := by
  obtain ⟨⟨rv, h1, h2⟩, h3⟩ := h
  exact h1.lt
theorem RowP.at {a : Option Addr} {n c i : Nat} {p : Plc} (h : RowP R W (.slice a n c) l) (hp : l[i]? = some p) : ∃ b ra rc, a = some ⟨b, 0, none⟩ ∧ b < W.heap.size ∧ SlL W ra rc p.2.row ∧ (p.2.row ≠ [] → ∀ b o, ra = some ⟨b, o, none⟩ → R b) ∧
    W.cell? ⟨b, i * 8, none⟩ = some (.int .i64 p.1) ∧ W.cell? ⟨b, i * 8 + 1, none⟩ = some (.int .i64 p.2.no) ∧ W.cell? ⟨b, i * 8 + 2, none⟩ = some (.int .i64 p.2.id) ∧ W.cell? ⟨b, i * 8 + 3, none⟩ = some (.int .i64 p.2.mn) ∧ W.cell? ⟨b, i * 8 + 4, none⟩ = some (.int .i64 p.2.cm) ∧ W.cell? ⟨b, i * 8 + 5, none⟩ = some (.int .i64 p.2.mx) ∧ W.cell? ⟨b, i * 8 + 6, none⟩ = some (.int .i64 p.2.cx) ∧ W.cell? ⟨b, i * 8 + 7, none⟩ = some (.slice ra p.2.row.length rc) := by
  obtain ⟨⟨rv, h1, h2⟩, h3⟩ := h
  obtain ⟨hi, e⟩ := List.getElem?_eq_some_iff.1 hp
  obtain ⟨ra, rc, q1, q2, q3⟩ := h2 i p hp
  obtain ⟨b, c', e1, -, -, hb, hc, -⟩ := h1.at hi
  simp only [Value.slice.injEq] at e1
  obtain ⟨rfl, -, -⟩ := e1
  have hg : l.getD i pl0 = p := by simp [hi, e]
  have hc' : ∀ o v, (plC p (rv i))[o]? = some v → W.cell? ⟨b, i * 8 + o, none⟩ = some v := fun o v hv => hc i hi o v (by rw [hg]; exact hv)
  rw [q1] at hc'
  exact ⟨b, ra, rc, rfl, hb, q2, q3, hc' 0 _ rfl, hc' 1 _ rfl, hc' 2 _ rfl, hc' 3 _ rfl, hc' 4 _ rfl, hc' 5 _ rfl, hc' 6 _ rfl, hc' 7 _ rfl⟩

/-- One more, by append. -/
theorem RowP.push (h : RowP R W s l) (p : Plc) (a : Option Addr) (c : Nat) (ty : TypeId) (hr : SlL W a c p.2.row) (hRR : ∀ k, R k → R' k) (hnew : p.2.row ≠ [] → ∀ b o, a = some ⟨b, o, none⟩ → R' b) (hno : ∀ k, s.ownBlock = some k → ¬ R' k) (hlt : ∀ k, R' k → k < W.heap.size) (hn : l.length + 1 ≤ 1000000) :
    ∃ a' c' W6, (Builtin.append_ #[73, 73] ty #[s, .slice (some ⟨W.heap.size, 0, none⟩) 1 1]).run Tryz.prog (W.alloc (.cells (plC p (.slice a p.2.row.length c)).toArray 123)) = .ok (.slice a' (l.length + 1) c') W6 ∧
      RowP R' W6 (.slice a' (l.length + 1) c') (l ++ [p]) ∧ Touch (fun k => s.ownBlock = some k) W W6 ∧ (∀ k, Value.ownBlock (.slice a' (l.length + 1) c') = some k → s.ownBlock = some k ∨ W.heap.size ≤ k) := by
  obtain ⟨i0, hi, hz, hsz, hby⟩ := info_parts info_pl
  obtain ⟨⟨rv, h1, h2⟩, h3⟩ := h
  have hal := Below.allocs W (.cells (plC p (.slice a p.2.row.length c)).toArray 123)
  have hlit := Lit.new W 123 (plC p (.slice a p.2.row.length c))
  obtain ⟨s', W6, hrun, hrow, hg, hown⟩ := (h1.below hal).append (P := Tryz.prog) 73 ty i0 _ 80 Tryz.underlying73 hi hz hsz hby rfl (by decide) (by decide) (b := W.heap.size) (k := 1) (c := 1) (q := fun _ => plC p (.slice a p.2.row.length c))
    (fun j hj o v hv => by
      obtain rfl : j = 0 := by omega
      rw [Nat.zero_mul, Nat.zero_add]
      exact hlit.cell hv) (fun _ _ => rfl) (fun _ _ v hv => by
        simp only [plC, List.mem_cons, List.not_mem_nil, or_false] at hv
        rcases hv with rfl | rfl | rfl | rfl | rfl | rfl | rfl | rfl <;> rfl) (by omega)
  obtain ⟨a', c', rfl, _, _⟩ := hrow.form
  have ht : Touch (fun k => s.ownBlock = some k) W W6 := (Touch.of_below hal).trans (Touch.grown hg (fun k hk => hk)) (fun _ _ h => h)
  have hown' : ∀ k, Value.ownBlock (.slice a' (l.length + 1) c') = some k → s.ownBlock = some k ∨ W.heap.size ≤ k := fun k hk => by
    rcases hown with e | e
    · exact .inl (e ▸ hk)
    · right
      rw [e] at hk
      have : (W.alloc (.cells (plC p (.slice a p.2.row.length c)).toArray 123)).heap.size = k := Option.some.inj hk
      simp at this
      omega
  have hst := ht.stay (G := R') (fun k hk e => hno k e hk)
  refine ⟨a', c', W6, hrun, ⟨⟨fun j => if j < l.length then rv j else .slice a p.2.row.length c, ?_, fun j q hq => ?_⟩, fun k hk hR => ?_⟩, ht, hown'⟩
  · rw [List.length_append, List.length_singleton]
    refine hrow.congr fun j hj => ?_
    by_cases hjn : j < l.length
    · simp only [if_pos hjn]
      simp [List.getElem?_append_left hjn, hjn]
    · have e : j = l.length := by omega
      subst e
      simp
  · by_cases hjn : j < l.length
    · rw [List.getElem?_append_left hjn] at hq
      simp only [if_pos hjn]
      obtain ⟨a2, c2, q1, q2, q3⟩ := h2 j q hq
      exact ⟨a2, c2, q1, q2.stay hst (fun hl b o e => hRR b (q3 hl b o e)), fun hl b o e => hRR b (q3 hl b o e)⟩
    · have hj : j = l.length := by
        have := (List.getElem?_eq_some_iff.1 hq).1
        rw [List.length_append, List.length_singleton] at this
        omega
      subst hj
      rw [List.getElem?_concat_length] at hq
      cases hq
      simp only [if_neg hjn]
      exact ⟨a, c, rfl, hr.stay hst hnew, hnew⟩
  · rcases hown' k hk with e | e
    · exact hno k e hR
    · have := hlt k hR; omega
end

/-! ### A heap beside rows -/

theorem One.app {X X' Y : Nat → Prop} {w0 w w' : World} {h z : Nat} {A : Ab} (H : One X w0 w h A z) (ht : Touch Y w w') (hY : ∀ k, Y k → X k ∧ w0.heap.size ≤ k) (hX : ∀ k, X' k → (X k ∨ w.heap.size ≤ k) ∧ k < w'.heap.size) : One X' w0 w' h A z := by
  obtain ⟨F, h1, h2, h3, h4⟩ := H
  exact ⟨F, h1.apart ht (fun k hk hy => (h4 k (hY k hy).1).1 hk), h2, h3.trans (ht.below (fun k hk => (hY k hk).2) h3.size), fun k hk => ⟨fun hf => by
    rcases (hX k hk).1 with e | e
    · exact (h4 k e).1 hf
    · have := h1.lt k hf; omega, (hX k hk).2⟩⟩

/-- The same versions. -/
def pls (A : Ab) : List Plc := A.pl.map fun p => ((p.1 : Int), p.2)
theorem pls_len (A : Ab) : (pls A).length = A.pl.length := by unfold pls; rw [List.length_map]
theorem pls_mem {A : Ab} {p : Plc} (h : p ∈ pls A) : ∃ k : Nat, p.1 = (k : Int) ∧ (k, p.2) ∈ A.pl := by
  obtain ⟨q, hq, rfl⟩ := List.mem_map.1 h
  exact ⟨q.1, rfl, hq⟩
theorem pls_put (A : Ab) (t : Tup) : pls (A.put t) = pls A ++ [((A.slot : Int), t)] := by unfold pls Ab.put; simp

/-- What a step leaves of a place. -/
def leftP (s : Stp) (p : Plc) : Option Plc := if p.1 = s.slot ∧ s.kind = 2 then none else if p.1 = s.slot ∧ s.kind = 1 then some (p.1, p.2.kill s.a s.b) else some p
def hitP (s : Stp) (p : Plc) : Bool := decide (p.1 = s.slot ∧ (s.kind = 1 ∨ s.kind = 2))

theorem filterMap_same {α β : Type} {f g : α → Option β} : ∀ {l : List α}, (∀ x ∈ l, f x = g x) → l.filterMap f = l.filterMap g
  | [], _ => rfl
  | a :: l, h => by
    rw [List.filterMap_cons, List.filterMap_cons, h a (List.mem_cons_self ..), filterMap_same fun x hx => h x (List.mem_cons_of_mem _ hx)]
theorem filterMap_some {α : Type} {f : α → Option α} : ∀ {l : List α}, (∀ x ∈ l, f x = some x) → l.filterMap f = l
  | [], _ => rfl
  | a :: l, h => by
    rw [List.filterMap_cons_some (h a (List.mem_cons_self ..)), filterMap_some fun x hx => h x (List.mem_cons_of_mem _ hx)]

theorem tupI_none {A : Ab} {x : Int} : A.tupI x = none ↔ ∀ p ∈ pls A, p.1 ≠ x := by
  unfold Ab.tupI
  constructor
  · intro h p hp e
    obtain ⟨k, e2, hm⟩ := pls_mem hp
    rw [← e, e2, if_pos (by omega), Int.toNat_natCast, tup_used] at h
    exact h (List.mem_map.2 ⟨_, hm, rfl⟩)
  · intro h
    split
    · rw [tup_used]
      intro hm
      obtain ⟨q, hq, e⟩ := List.mem_map.1 hm
      exact h ((q.1 : Int), q.2) (List.mem_map.2 ⟨q, hq, rfl⟩) (by show (q.1 : Int) = x; rw [e]; omega)
    · rfl

theorem left_kill (A : Ab) (s : Stp) (hk : s.kind = 1) : (pls A).filterMap (leftP s) = pls (A.kl s.slot s.a s.b) := by
  unfold Ab.kl
  split
  · rename_i h
    exact filterMap_some fun p hp => by unfold leftP; rw [if_neg (fun e => by omega), if_neg (fun e => tupI_none.1 h p hp e.1)]
  · rename_i h
    unfold pls Ab.kill
    rw [List.filterMap_map, List.map_map, ← List.filterMap_eq_map]
    refine filterMap_same fun p hp => ?_
    simp only [Function.comp]
    have hs : 0 ≤ s.slot := by
      apply Classical.byContradiction
      intro e
      exact h (by unfold Ab.tupI; rw [if_neg e])
    unfold leftP killP
    rw [if_neg (fun e => by omega)]
    by_cases e : p.1 = s.slot.toNat
    · rw [if_pos ⟨by show (p.1 : Int) = _; omega, hk⟩, if_pos e]
    · rw [if_neg (fun e2 => e (by have : (p.1 : Int) = s.slot := e2.1; omega)), if_neg e]
theorem left_free (A : Ab) (s : Stp) (hk : s.kind = 2) : (pls A).filterMap (leftP s) = pls (A.fe s.slot) := by
  unfold Ab.fe
  split
  · rename_i h
    exact filterMap_some fun p hp => by unfold leftP; rw [if_neg (fun e => tupI_none.1 h p hp e.1), if_neg (fun e => by omega)]
  · rename_i h
    have hs : 0 ≤ s.slot := by
      apply Classical.byContradiction
      intro e
      exact h (by unfold Ab.tupI; rw [if_neg e])
    unfold pls Ab.free
    rw [List.filterMap_map, ← List.filterMap_eq_map, ← List.filterMap_eq_filter, List.filterMap_filterMap]
    refine filterMap_same fun p hp => ?_
    simp only [Function.comp]
    unfold leftP
    by_cases e : p.1 = s.slot.toNat
    · rw [if_pos ⟨by show (p.1 : Int) = _; omega, hk⟩]
      simp [e, Option.guard]
    · rw [if_neg (fun e2 => e (by have : (p.1 : Int) = s.slot := e2.1; omega)), if_neg (fun e => by omega)]
      simp [e, Option.guard]
theorem left_else {s : Stp} (l : List Plc) (h1 : s.kind ≠ 1) (h2 : s.kind ≠ 2) : l.filterMap (leftP s) = l :=
  filterMap_some fun p _ => by unfold leftP; rw [if_neg (fun e => h2 e.2), if_neg (fun e => h1 e.2)]

theorem take_left {l : List Plc} {s : Stp} {k : Nat} {p : Plc} (h : l[k]? = some p) : (l.take (k + 1)).filterMap (leftP s) = (l.take k).filterMap (leftP s) ++ (leftP s p).toList := by
  rw [List.take_add_one, h, List.filterMap_append]
  cases e : leftP s p <;> simp [e]
theorem take_hit {l : List Plc} {s : Stp} {k : Nat} {p : Plc} (h : l[k]? = some p) : (l.take (k + 1)).any (hitP s) = ((l.take k).any (hitP s) || hitP s p) := by
  rw [List.take_add_one, h, List.any_append]
  simp

end Go.Proofs.YtbgnbaogclnpgaaGreat

namespace Go.Proofs.YtbgnbaogclnpgaaGreat
open Go.RowKit
set_option linter.unusedVariables false

theorem nodup_sub {α : Type} [DecidableEq α] : ∀ {l m : List α}, l.Nodup → (∀ x ∈ l, x ∈ m) → l.length ≤ m.length
  | [], _, _, _ => Nat.zero_le _
  | a :: l, m, hn, h => by
    rw [List.nodup_cons] at hn
    have h1 := h a (List.mem_cons_self ..)
    have h2 := nodup_sub (m := m.erase a) hn.2 fun x hx => (List.mem_erase_of_ne (fun e => hn.1 (by rw [← e]; exact hx))).2 (h x (List.mem_cons_of_mem _ hx))
    rw [List.length_erase_of_mem h1] at h2
    have := List.length_pos_of_mem h1
    rw [List.length_cons]
    omega

theorem rise_nd {l : List Int} (h : Rise l) : l.Nodup := List.Pairwise.imp (fun h => by omega) h
theorem ids_len {A : Ab} {x : Int} {l : List Int} (h : A.IsIDs x l) : l.length ≤ A.pl.length := by
  have := nodup_sub (m := A.pl.map fun p => p.2.id) (rise_nd h.1) fun y hy => by
    obtain ⟨p, hp, -, e⟩ := (h.2 y).1 hy
    exact List.mem_map.2 ⟨p, hp, e⟩
  rwa [List.length_map] at this
theorem tabs_len {A : Ab} {l : List Int} (h : A.IsTabs l) : l.length ≤ A.pl.length := by
  have := nodup_sub (m := A.pl.map fun p => p.2.no) (rise_nd h.1) fun y hy => by
    obtain ⟨p, hp, e⟩ := (h.2 y).1 hy
    exact List.mem_map.2 ⟨p, hp, e⟩
  rwa [List.length_map] at this
theorem slots_len (A : Ab) (x y : Int) : (A.slots x y).length ≤ A.pl.length := by
  unfold Ab.slots
  rw [List.length_map]
  exact List.length_filter_le _ _

/-- V: the slots of those that Q holds of; f: a one for each. -/
structure Met (A : Ab) (Q : Nat × Tup → Prop) (V : List Nat) (f : Int → Option Value) : Prop where
  nd : V.Nodup
  mem : ∀ s, s ∈ V ↔ ∃ p ∈ A.pl, p.1 = s ∧ Q p
  map : ∀ x, f x = if x ∈ natI V then some (.int .i64 1) else none

theorem mem_natI {V : List Nat} {s : Nat} : (s : Int) ∈ natI V ↔ s ∈ V := by
  unfold natI
  rw [List.mem_map]
  constructor
  · rintro ⟨k, hk, e⟩
    have : k = s := by omega
    rw [← this]; exact hk
  · exact fun h => ⟨s, h, rfl⟩

section
variable {A : Ab} {Q Q' : Nat × Tup → Prop} {V : List Nat} {f : Int → Option Value}
theorem Met.congr (h : Met A Q V f) (hq : ∀ p ∈ A.pl, Q' p ↔ Q p) : Met A Q' V f :=
  ⟨h.nd, fun s => (h.mem s).trans ⟨fun ⟨p, h1, h2, h3⟩ => ⟨p, h1, h2, (hq p h1).2 h3⟩, fun ⟨p, h1, h2, h3⟩ => ⟨p, h1, h2, (hq p h1).1 h3⟩⟩, h.map⟩
theorem Met.sub (h : Met A Q V f) : ∀ x ∈ V, x ∈ A.used := fun x hx => by
  obtain ⟨p, h1, h2, _⟩ := (h.mem x).1 hx
  exact List.mem_map.2 ⟨p, h1, h2⟩
theorem Met.len (h : Met A Q V f) : V.length ≤ A.pl.length := by
  rw [← used_len]; exact nodup_sub h.nd h.sub
theorem Met.all (h : Met A Q V f) (hok : A.Ok) (hq : ∀ p ∈ A.pl, Q p) : V.length = A.pl.length := by
  refine Nat.le_antisymm h.len ?_
  rw [← used_len]
  refine nodup_sub hok.nd fun x hx => ?_
  obtain ⟨p, h1, h2⟩ := List.mem_map.1 hx
  exact (h.mem x).2 ⟨p, h1, h2, hq p h1⟩
theorem Met.start (A : Ab) (hq : ∀ p ∈ A.pl, ¬ Q p) : Met A Q [] (fun _ => none) :=
  ⟨List.nodup_nil, fun s => ⟨fun h => absurd h List.not_mem_nil, fun ⟨p, h1, _, h3⟩ => absurd h3 (hq p h1)⟩, fun x => by rw [if_neg (by exact List.not_mem_nil)]⟩
theorem Met.out (h : Met A Q V f) {s : Nat} {t : Tup} (hok : A.Ok) (hm : (s, t) ∈ A.pl) (hq : ¬ Q (s, t)) : s ∉ V := fun hs => by
  obtain ⟨⟨s2, u⟩, h1, rfl, h3⟩ := (h.mem s).1 hs
  have := mem_same hok.nd hm h1
  subst this
  exact hq h3
theorem Met.none (h : Met A Q V f) {s : Nat} {t : Tup} (hok : A.Ok) (hm : (s, t) ∈ A.pl) (hq : ¬ Q (s, t)) : f (s : Int) = none := by
  rw [h.map, if_neg]
  rw [mem_natI]
  exact h.out hok hm hq
theorem Met.step (h : Met A Q V f) {s : Nat} {t : Tup} (hok : A.Ok) (hm : (s, t) ∈ A.pl) (hq : ¬ Q (s, t)) (hq' : ∀ p ∈ A.pl, Q' p ↔ Q p ∨ p.1 = s) :
    Met A Q' (V ++ [s]) (updM f (s : Int) (some (.int .i64 1))) := by
  have hout := h.out hok hm hq
  refine ⟨?_, fun x => ?_, fun x => ?_⟩
  · rw [List.nodup_append]
    refine ⟨h.nd, by simp, fun a ha b hb => ?_⟩
    rw [List.mem_singleton.1 hb]
    rintro rfl
    exact hout ha
  · rw [List.mem_append, List.mem_singleton, h.mem]
    constructor
    · rintro (⟨p, h1, h2, h3⟩ | rfl)
      · exact ⟨p, h1, h2, (hq' p h1).2 (.inl h3)⟩
      · exact ⟨_, hm, rfl, (hq' _ hm).2 (.inr rfl)⟩
    · rintro ⟨p, h1, h2, h3⟩
      rcases (hq' p h1).1 h3 with h3 | h3
      · exact .inl ⟨p, h1, h2, h3⟩
      · exact .inr (by rw [← h2, h3])
  · unfold updM
    by_cases e : x = (s : Int)
    · subst e
      rw [if_pos rfl, if_pos]
      rw [mem_natI]
      simp
    · rw [if_neg e, h.map]
      have : x ∈ natI (V ++ [s]) ↔ x ∈ natI V := by
        rw [natI_app, List.mem_append, List.mem_singleton]
        exact ⟨fun h => h.resolve_right e, .inl⟩
      by_cases e2 : x ∈ natI V
      · rw [if_pos e2, if_pos (this.2 e2)]
      · rw [if_neg e2, if_neg (fun h => e2 (this.1 h))]
end

/-! ### Where one is -/

def Q0 (tabs : List Int) (i : Nat) (p : Nat × Tup) : Prop := p.2.no ∈ tabs.take i
def Q1 (tabs : List Int) (i : Nat) (x : Int) (ids : List Int) (k : Nat) (p : Nat × Tup) : Prop := Q0 tabs i p ∨ p.2.no = x ∧ p.2.id ∈ ids.take k
def Q2 (tabs : List Int) (i : Nat) (x : Int) (ids : List Int) (k : Nat) (y : Int) (sl : List Nat) (n : Nat) (p : Nat × Tup) : Prop := Q1 tabs i x ids k p ∨ p.2.no = x ∧ p.2.id = y ∧ p.1 ∈ sl.take n

theorem q0_start (tabs : List Int) (p : Nat × Tup) : ¬ Q0 tabs 0 p := fun h => absurd h List.not_mem_nil
theorem q0_end {A : Ab} {tabs : List Int} (ht : A.IsTabs tabs) {n : Nat} (hn : tabs.length = n) : ∀ p ∈ A.pl, Q0 tabs n p := fun p hp => by
  unfold Q0
  rw [List.take_of_length_le (by omega)]
  exact (ht.2 _).2 ⟨p, hp, rfl⟩
theorem q1_start (tabs : List Int) (i : Nat) (x : Int) (ids : List Int) (p : Nat × Tup) : Q1 tabs i x ids 0 p ↔ Q0 tabs i p := ⟨fun h => h.elim id (fun h => absurd h.2 List.not_mem_nil), .inl⟩
theorem q1_end {A : Ab} {tabs ids : List Int} {i n : Nat} {x : Int} (hx : tabs[i]? = some x) (hi : A.IsIDs x ids) (hn : ids.length = n) : ∀ p ∈ A.pl, Q0 tabs (i + 1) p ↔ Q1 tabs i x ids n p := fun p hp => by
  unfold Q1 Q0
  rw [List.take_add_one, hx, List.take_of_length_le (l := ids) (by omega)]
  simp only [Option.toList_some, List.mem_append, List.mem_singleton]
  constructor
  · rintro (h | h)
    · exact .inl h
    · exact .inr ⟨h, (hi.2 _).2 ⟨p, hp, h, rfl⟩⟩
  · rintro (h | h)
    · exact .inl h
    · exact .inr h.1
theorem q2_start (tabs : List Int) (i : Nat) (x : Int) (ids : List Int) (k : Nat) (y : Int) (sl : List Nat) (p : Nat × Tup) : Q2 tabs i x ids k y sl 0 p ↔ Q1 tabs i x ids k p := ⟨fun h => h.elim id (fun h => absurd h.2.2 List.not_mem_nil), .inl⟩
theorem q2_end {A : Ab} {tabs ids : List Int} {i k n : Nat} {x y : Int} (hy : ids[k]? = some y) (hn : (A.slots x y).length = n) : ∀ p ∈ A.pl, Q1 tabs i x ids (k + 1) p ↔ Q2 tabs i x ids k y (A.slots x y) n p := fun p hp => by
  unfold Q2 Q1
  rw [List.take_add_one, hy, List.take_of_length_le (l := A.slots x y) (by omega)]
  simp only [Option.toList_some, List.mem_append, List.mem_singleton]
  constructor
  · rintro (h | ⟨h1, h2 | h2⟩)
    · exact .inl (.inl h)
    · exact .inl (.inr ⟨h1, h2⟩)
    · exact .inr ⟨h1, h2, List.mem_map.2 ⟨p, List.mem_filter.2 ⟨hp, by simp [h1, h2]⟩, rfl⟩⟩
  · rintro ((h | ⟨h1, h2⟩) | ⟨h1, h2, _⟩)
    · exact .inl h
    · exact .inr ⟨h1, .inl h2⟩
    · exact .inr ⟨h1, .inr h2⟩

theorem rise_take {l : List Int} (h : Rise l) {i : Nat} {x : Int} (hx : l[i]? = some x) : x ∉ l.take i := fun hm => by
  obtain ⟨j, hj, e⟩ := List.mem_iff_getElem.1 hm
  rw [List.length_take] at hj
  rw [List.getElem_take] at e
  obtain ⟨hi, e2⟩ := List.getElem?_eq_some_iff.1 hx
  have := (List.pairwise_iff_getElem.1 h) j i (by omega) hi (by omega)
  omega
theorem rise_prev {l : List Int} (h : Rise l) {i : Nat} {x y : Int} (hx : l[i]? = some x) (hy : l[i - 1]? = some y) (hi : 0 < i) : y < x := by
  obtain ⟨h1, e1⟩ := List.getElem?_eq_some_iff.1 hx
  obtain ⟨h2, e2⟩ := List.getElem?_eq_some_iff.1 hy
  have := (List.pairwise_iff_getElem.1 h) (i - 1) i h2 h1 (by omega)
  omega
theorem slots_nd {A : Ab} (h : A.Ok) (x y : Int) : (A.slots x y).Nodup := h.nd.sublist (List.filter_sublist.map _)
theorem take_nd {l : List Nat} (h : l.Nodup) {n s : Nat} (hs : l[n]? = some s) : s ∉ l.take n := fun hm => by
  obtain ⟨j, hj, e⟩ := List.mem_iff_getElem.1 hm
  rw [List.length_take] at hj
  rw [List.getElem_take] at e
  obtain ⟨hn, e2⟩ := List.getElem?_eq_some_iff.1 hs
  have := (List.pairwise_iff_getElem.1 h) j n (by omega) hn (by omega)
  exact this (by rw [e, e2])

/-- A slot of a row's: what stands there. -/
theorem slot_tup {A : Ab} {x y : Int} {n s : Nat} (h : (A.slots x y)[n]? = some s) : ∃ t, (s, t) ∈ A.pl ∧ t.no = x ∧ t.id = y := by
  obtain ⟨p, hp, e⟩ := List.mem_map.1 (List.mem_of_getElem? h)
  obtain ⟨h1, h2⟩ := List.mem_filter.1 hp
  obtain ⟨s2, t⟩ := p
  have : s2 = s := e
  subst this
  simp only [decide_eq_true_eq] at h2
  exact ⟨t, h1, h2.1, h2.2⟩

/-- What is new in a step of the innermost loop. -/
theorem q2_new {A : Ab} (hok : A.Ok) {tabs ids : List Int} {i k n s : Nat} {x y : Int} {t : Tup} (ht : Rise tabs) (hi : Rise ids) (hx : tabs[i]? = some x) (hy : ids[k]? = some y) (hs : (A.slots x y)[n]? = some s) (hno : t.no = x) (hid : t.id = y) : ¬ Q2 tabs i x ids k y (A.slots x y) n (s, t) := by
  rintro ((h | ⟨_, h⟩) | ⟨_, _, h⟩)
  · unfold Q0 at h
    rw [show (s, t).2.no = x from hno] at h
    exact rise_take ht hx h
  · rw [show (s, t).2.id = y from hid] at h
    exact rise_take hi hy h
  · exact take_nd (slots_nd hok x y) hs h
theorem q2_step {A : Ab} (hok : A.Ok) {tabs ids : List Int} {i k n s : Nat} {x y : Int} {t : Tup} (hm : (s, t) ∈ A.pl) (hs : (A.slots x y)[n]? = some s) (hno : t.no = x) (hid : t.id = y) : ∀ p ∈ A.pl, Q2 tabs i x ids k y (A.slots x y) (n + 1) p ↔ Q2 tabs i x ids k y (A.slots x y) n p ∨ p.1 = s := fun p hp => by
  unfold Q2
  rw [List.take_add_one, hs]
  simp only [Option.toList_some, List.mem_append, List.mem_singleton]
  constructor
  · rintro (h | ⟨h1, h2, h3 | h3⟩)
    · exact .inl (.inl h)
    · exact .inl (.inr ⟨h1, h2, h3⟩)
    · exact .inr h3
  · rintro ((h | ⟨h1, h2, h3⟩) | h)
    · exact .inl h
    · exact .inr ⟨h1, h2, .inl h3⟩
    · obtain ⟨s2, u⟩ := p
      have : s2 = s := h
      subst this
      have := mem_same hok.nd hm hp
      subst this
      exact .inr ⟨hno, hid, .inr rfl⟩

theorem atT_is {A : Ab} (hok : A.Ok) {s : Nat} {t : Tup} (hm : (s, t) ∈ A.pl) : A.atT (s : Int) = t ∧ A.atB (s : Int) = true := by
  have : A.tupI (s : Int) = some t := by
    unfold Ab.tupI
    rw [if_pos (by omega), Int.toNat_natCast]
    exact (hok.tup s t).2 hm
  unfold Ab.atT Ab.atB
  rw [this]
  exact ⟨rfl, rfl⟩

end Go.Proofs.YtbgnbaogclnpgaaGreat

namespace Go.Proofs.YtbgnbaogclnpgaaGreat
open Go.RowKit
set_option linter.unusedVariables false

/-- The heap, and two lists of places (ts: l, ls: m), in blocks of their own; the versions' rows lie below w. -/
structure Th (w W : World) (h : Nat) (A : Ab) (z : Nat) (ts : Value) (l : List Plc) (ls : Value) (m : List Plc) : Prop where
  one : One (fun k => ts.ownBlock = some k ∨ ls.ownBlock = some k) w W h A z
  tr : RowP (fun k => k < w.heap.size) W ts l
  lr : RowP (fun k => k < w.heap.size) W ls m
  ne : ∀ k, ts.ownBlock = some k → ls.ownBlock ≠ some k

section
variable {w W W' : World} {h z : Nat} {A : Ab} {ts ls : Value} {l m : List Plc}
theorem Th.below (H : Th w W h A z ts l ls m) (hb : Below W.heap.size W W') : Th w W' h A z ts l ls m := ⟨H.one.below hb, H.tr.below hb, H.lr.below hb, H.ne⟩
theorem Th.start (H : One (fun _ => False) w W h A z) : Th w W h A z (.slice none 0 0) [] (.slice none 0 0) [] :=
  ⟨H.foreign (Below.refl _ _) _ (fun k hk => by rcases hk with e | e <;> cases e), RowP.nil _ _, RowP.nil _ _, fun k hk => by cases hk⟩
/-- The second list is the first, and the second one is empty. -/
theorem Th.next (H : Th w W h A z ts l ls m) : Th w W h A z ls m (.slice none 0 0) [] :=
  ⟨by
    obtain ⟨F, h1, h2, h3, h4⟩ := H.one
    exact ⟨F, h1, h2, h3, fun k hk => by
      rcases hk with e | e
      · exact h4 k (.inr e)
      · cases e⟩, H.lr, RowP.nil _ _, fun k _ e => by cases e⟩
/-- The first list alone. -/
theorem Th.only (H : Th w W h A z ts l ls m) : Th w W h A z ts l (.slice none 0 0) [] :=
  ⟨by
    obtain ⟨F, h1, h2, h3, h4⟩ := H.one
    exact ⟨F, h1, h2, h3, fun k hk => by
      rcases hk with e | e
      · exact h4 k (.inl e)
      · cases e⟩, H.tr, RowP.nil _ _, fun k _ e => by cases e⟩
/-- A call on the heap. -/
theorem Th.did {A' : Ab} {z' : Nat} (H : Th w W h A z ts l ls m) (ho : One (fun k => ts.ownBlock = some k ∨ ls.ownBlock = some k) w W' h A' z') (hs : Stay (fun k => ts.ownBlock = some k ∨ ls.ownBlock = some k) W W') : Th w W' h A' z' ts l ls m := by
  have hw := H.one.bel.size
  have hs2 : Stay (fun k => (ts.ownBlock = some k ∨ ls.ownBlock = some k) ∨ k < w.heap.size) W W' := ⟨hs.size, fun k hk hG => by
    rcases hG with hG | hG
    · exact hs.block k hk hG
    · exact (ho.bel.block k hG).trans (H.one.bel.block k hG).symm⟩
  exact ⟨ho, H.tr.stay hs2 (fun k hk => .inl (.inl hk)) (fun k hk => .inr hk), H.lr.stay hs2 (fun k hk => .inl (.inr hk)) (fun k hk => .inr hk), H.ne⟩

/-- A place is appended to the second list: what comes of it. -/
theorem Th.push (H : Th w W h A z ts l ls m) (p : Plc) (a : Option Addr) (c : Nat) (hr : SlL W a c p.2.row) (hnew : p.2.row ≠ [] → ∀ b o, a = some ⟨b, o, none⟩ → b < w.heap.size) (hn : m.length ≤ 100000) :
    ∃ a' c' W6, (∀ ty, (Builtin.append_ #[73, 73] ty #[ls, .slice (some ⟨W.heap.size, 0, none⟩) 1 1]).run Tryz.prog (W.alloc (.cells (plC p (.slice a p.2.row.length c)).toArray 123)) = .ok (.slice a' (m.length + 1) c') W6) ∧
      Th w W6 h A z ts l (.slice a' (m.length + 1) c') (m ++ [p]) := by
  have hw := H.one.bel.size
  obtain ⟨a', c', W6, h1, h2, h3, h4⟩ := H.lr.push (R' := fun k => k < w.heap.size) p a c 73 hr (fun _ h => h) hnew H.lr.own (fun k hk => Nat.lt_of_lt_of_le hk hw) (by omega)
  have hge : ∀ k, ls.ownBlock = some k → w.heap.size ≤ k := fun k hk => by have := H.lr.own k hk; omega
  have hst := h3.stay (G := fun k => ts.ownBlock = some k ∨ k < w.heap.size) (fun k hk e => by
    rcases hk with hk | hk
    · exact H.ne k hk e
    · have := hge k e; omega)
  refine ⟨a', c', W6, fun ty => h1, ⟨H.one.app h3 (fun k hk => ⟨.inr hk, hge k hk⟩) (fun k hk => ?_), H.tr.stay hst (fun k hk => .inl hk) (fun k hk => .inr hk), h2, fun k hk e => ?_⟩⟩
  · rcases hk with e | e
    · exact ⟨.inl (.inl e), Nat.lt_of_lt_of_le (H.tr.lt k e) h3.size⟩
    · exact ⟨(h4 k e).imp .inr id, h2.lt k e⟩
  · rcases h4 k e with e | e
    · exact H.ne k hk e
    · have := H.tr.lt k hk; omega
/-- The first list's place. -/
theorem Th.swap (H : Th w W h A z ts l ls m) : Th w W h A z ls m ts l :=
  ⟨by
    obtain ⟨F, h1, h2, h3, h4⟩ := H.one
    exact ⟨F, h1, h2, h3, fun k hk => h4 k hk.symm⟩, H.lr, H.tr, fun k hk e => H.ne k e hk⟩
end

end Go.Proofs.YtbgnbaogclnpgaaGreat

namespace Go.Proofs.YtbgnbaogclnpgaaGreat
open Go.RowKit
set_option linter.unusedVariables false

/-- The tables, the IDs of one, as they are told. -/
noncomputable def Ab.tabsL (A : Ab) : List Int := open Classical in if h : ∃ l, A.IsTabs l then Classical.choose h else []
noncomputable def Ab.idsL (A : Ab) (x : Int) : List Int := open Classical in if h : ∃ l, A.IsIDs x l then Classical.choose h else []
theorem tabsL_eq {A : Ab} {l : List Int} (h : A.IsTabs l) : l = A.tabsL := by
  unfold Ab.tabsL
  rw [dif_pos ⟨l, h⟩]
  exact h.eq (Classical.choose_spec (⟨l, h⟩ : ∃ l, A.IsTabs l))
theorem idsL_eq {A : Ab} {x : Int} {l : List Int} (h : A.IsIDs x l) : l = A.idsL x := by
  unfold Ab.idsL
  rw [dif_pos ⟨l, h⟩]
  exact h.eq (Classical.choose_spec (⟨l, h⟩ : ∃ l, A.IsIDs x l))

/-- What is told of a row, a table, all; and what Next tells. -/
def Ab.rowP (A : Ab) (x y : Int) : List Plc := (A.slots x y).map fun s : Nat => ((s : Int), A.atT s)
noncomputable def Ab.tabP (A : Ab) (x : Int) : List Plc := (A.idsL x).flatMap (A.rowP x)
noncomputable def Ab.allP (A : Ab) : List Plc := A.tabsL.flatMap A.tabP
def Ab.nxtS (A : Ab) : Nat → Ab
  | 0 => A
  | n + 1 => (A.nxtS n).nx ((n : Int) + 1)
def Ab.nxtP (A : Ab) (n : Nat) : List Plc := (List.range n).map fun k => ((A.nxtS k).nxV ((k : Int) + 1), tup0)
noncomputable def Ab.tellL (A : Ab) : List Plc := A.allP ++ A.nxtP 4

theorem flat_take {α : Type} {l : List Int} {f : Int → List α} {i : Nat} {x : Int} (h : l[i]? = some x) : (l.take (i + 1)).flatMap f = (l.take i).flatMap f ++ f x := by
  rw [List.take_add_one, h, List.flatMap_append]
  simp
theorem map_take {l : List Nat} {f : Nat → Plc} {i : Nat} {x : Nat} (h : l[i]? = some x) : (l.take (i + 1)).map f = (l.take i).map f ++ [f x] := by
  rw [List.take_add_one, h, List.map_append]
  rfl
theorem nxtP_succ (A : Ab) (n : Nat) : A.nxtP (n + 1) = A.nxtP n ++ [((A.nxtS n).nxV ((n : Int) + 1), tup0)] := by
  unfold Ab.nxtP
  rw [List.range_succ, List.map_append]
  rfl


/-! ### No more is told than there is -/

theorem idsL_rise (A : Ab) (x : Int) : Rise (A.idsL x) := by
  unfold Ab.idsL
  split
  · rename_i h
    exact (Classical.choose_spec h).1
  · exact List.Pairwise.nil
theorem tabsL_rise (A : Ab) : Rise A.tabsL := by
  unfold Ab.tabsL
  split
  · rename_i h
    exact (Classical.choose_spec h).1
  · exact List.Pairwise.nil
theorem rowP_mem {A : Ab} {x y : Int} {p : Plc} (h : p ∈ A.rowP x y) : ∃ (s : Nat) (t : Tup), p.1 = (s : Int) ∧ (s, t) ∈ A.pl ∧ t.no = x ∧ t.id = y := by
  obtain ⟨s, hs, rfl⟩ := List.mem_map.1 h
  obtain ⟨n, hn⟩ := List.getElem?_of_mem hs
  obtain ⟨t, h1, h2, h3⟩ := slot_tup hn
  exact ⟨s, t, rfl, h1, h2, h3⟩
theorem tabP_mem {A : Ab} {x : Int} {p : Plc} (h : p ∈ A.tabP x) : ∃ (s : Nat) (t : Tup), p.1 = (s : Int) ∧ (s, t) ∈ A.pl ∧ t.no = x := by
  obtain ⟨y, hy, hp⟩ := List.mem_flatMap.1 h
  obtain ⟨s, t, h1, h2, h3, h4⟩ := rowP_mem hp
  exact ⟨s, t, h1, h2, h3⟩
theorem allP_mem {A : Ab} {p : Plc} (h : p ∈ A.allP) : ∃ (s : Nat) (t : Tup), p.1 = (s : Int) ∧ (s, t) ∈ A.pl := by
  obtain ⟨x, hx, hp⟩ := List.mem_flatMap.1 h
  obtain ⟨s, t, h1, h2, h3⟩ := tabP_mem hp
  exact ⟨s, t, h1, h2⟩
theorem rowP_nd {A : Ab} (hok : A.Ok) (x y : Int) : (A.rowP x y).Pairwise fun p q => p.1 ≠ q.1 := by
  unfold Ab.rowP
  rw [List.pairwise_map]
  exact List.Pairwise.imp (fun h e => h (by have : (_ : Int) = _ := e; omega)) (slots_nd hok x y)
theorem tabP_nd {A : Ab} (hok : A.Ok) (x : Int) : (A.tabP x).Pairwise fun p q => p.1 ≠ q.1 := by
  unfold Ab.tabP
  rw [List.pairwise_flatMap]
  refine ⟨fun y _ => rowP_nd hok x y, List.Pairwise.imp (fun {y y'} hlt p hp q hq e => ?_) (idsL_rise A x)⟩
  obtain ⟨s, t, h1, h2, h3, h4⟩ := rowP_mem hp
  obtain ⟨s', t', g1, g2, g3, g4⟩ := rowP_mem hq
  have : s = s' := by omega
  subst this
  have := mem_same hok.nd h2 g2
  subst this
  omega
theorem allP_nd {A : Ab} (hok : A.Ok) : A.allP.Pairwise fun p q => p.1 ≠ q.1 := by
  unfold Ab.allP
  rw [List.pairwise_flatMap]
  refine ⟨fun y _ => tabP_nd hok y, List.Pairwise.imp (fun {y y'} hlt p hp q hq e => ?_) (tabsL_rise A)⟩
  obtain ⟨s, t, h1, h2, h3⟩ := tabP_mem hp
  obtain ⟨s', t', g1, g2, g3⟩ := tabP_mem hq
  have : s = s' := by omega
  subst this
  have := mem_same hok.nd h2 g2
  subst this
  omega
theorem all_len {A : Ab} (hok : A.Ok) : A.allP.length ≤ A.pl.length := by
  have h1 : (A.allP.map Prod.fst).Nodup := by
    unfold List.Nodup
    rw [List.pairwise_map]
    exact allP_nd hok
  have := nodup_sub (m := A.used.map fun (s : Nat) => (s : Int)) h1 fun v hv => by
    obtain ⟨p, hp, rfl⟩ := List.mem_map.1 hv
    obtain ⟨s, t, h2, h3⟩ := allP_mem hp
    exact List.mem_map.2 ⟨s, List.mem_map.2 ⟨_, h3, rfl⟩, h2.symm⟩
  rw [List.length_map, List.length_map, used_len] at this
  exact this
theorem flat_len {α : Type} (l : List Int) (f : Int → List α) (i : Nat) : ((l.take i).flatMap f).length ≤ (l.flatMap f).length := by
  have e : l.flatMap f = (l.take i).flatMap f ++ (l.drop i).flatMap f := by rw [← List.flatMap_append, List.take_append_drop]
  rw [e, List.length_append]
  omega
theorem told_len {A : Ab} (hok : A.Ok) {tabs ids : List Int} {x y : Int} {i k : Nat} (ht : tabs = A.tabsL) (hi : ids = A.idsL x) (hx : tabs[i]? = some x) (hy : ids[k]? = some y) (n : Nat) :
    ((tabs.take i).flatMap A.tabP ++ (ids.take k).flatMap (A.rowP x) ++ ((A.slots x y).take n).map fun s : Nat => ((s : Int), A.atT s)).length ≤ A.pl.length := by
  have h1 := all_len hok
  have h2 := flat_len tabs A.tabP (i + 1)
  rw [flat_take hx, List.length_append] at h2
  have h3 := flat_len ids (A.rowP x) (k + 1)
  rw [flat_take hy, List.length_append] at h3
  have h4 : (((A.slots x y).take n).map fun s : Nat => ((s : Int), A.atT s)).length ≤ (A.rowP x y).length := by
    unfold Ab.rowP
    rw [List.length_map, List.length_map, List.length_take]
    omega
  have e1 : tabs.flatMap A.tabP = A.allP := by rw [ht]; rfl
  have e2 : ids.flatMap (A.rowP x) = A.tabP x := by rw [hi]; rfl
  rw [e1] at h2
  rw [e2] at h3
  rw [List.length_append, List.length_append]
  omega

/-- A list of places, newer than w, with its rows in blocks of R. -/
structure Tl (w W : World) (R : Nat → Prop) (s : Value) (l : List Plc) : Prop where
  bel : Below w.heap.size w W
  row : RowP R W s l
  lt : ∀ k, R k → w.heap.size ≤ k ∧ k < W.heap.size
  own : ∀ k, s.ownBlock = some k → w.heap.size ≤ k

section
variable {w W W' : World} {R : Nat → Prop} {s : Value} {l : List Plc}
theorem Tl.below (H : Tl w W R s l) (hb : Below W.heap.size W W') : Tl w W' R s l :=
  ⟨below_tr H.bel hb, H.row.below hb, fun k hk => ⟨(H.lt k hk).1, Nat.lt_of_lt_of_le (H.lt k hk).2 hb.size⟩, H.own⟩
theorem Tl.nil (w : World) : Tl w w (fun _ => False) (.slice none 0 0) [] := ⟨Below.refl _ _, RowP.nil _ _, fun k hk => hk.elim, fun k hk => by cases hk⟩
theorem Tl.push (H : Tl w W R s l) (p : Plc) (a : Option Addr) (c : Nat) (hr : SlL W a c p.2.row) (ha : p.2.row ≠ [] → ∀ b o, a = some ⟨b, o, none⟩ → w.heap.size ≤ b ∧ s.ownBlock ≠ some b) (hn : l.length ≤ 100000) :
    ∃ a' c' W6 R', (p.2.row = [] → ∀ k, R' k → R k) ∧ (∀ ty, (Builtin.append_ #[73, 73] ty #[s, .slice (some ⟨W.heap.size, 0, none⟩) 1 1]).run Tryz.prog (W.alloc (.cells (plC p (.slice a p.2.row.length c)).toArray 123)) = .ok (.slice a' (l.length + 1) c') W6) ∧
      Tl w W6 R' (.slice a' (l.length + 1) c') (l ++ [p]) ∧ Touch (fun k => s.ownBlock = some k) W W6 ∧ (∀ k, Value.ownBlock (.slice a' (l.length + 1) c') = some k → s.ownBlock = some k ∨ W.heap.size ≤ k) := by
  obtain ⟨R', hR'⟩ : ∃ R' : Nat → Prop, R' = fun k => R k ∨ (p.2.row ≠ [] ∧ ∃ o, a = some ⟨k, o, none⟩) := ⟨_, rfl⟩
  have hlt : ∀ k, R' k → k < W.heap.size := fun k hk => by
    rw [hR'] at hk
    rcases hk with hk | ⟨hl, o, e⟩
    · exact (H.lt k hk).2
    · exact hr.lt hl e
  obtain ⟨a', c', W6, h1, h2, h3, h4⟩ := H.row.push (R' := R') p a c 73 hr (fun k hk => by rw [hR']; exact .inl hk) (fun hl b o e => by rw [hR']; exact .inr ⟨hl, o, e⟩) (fun k hk hR => by
    rw [hR'] at hR
    rcases hR with hR | ⟨hl, o, e⟩
    · exact H.row.own k hk hR
    · exact (ha hl k o e).2 hk) hlt (by omega)
  refine ⟨a', c', W6, R', fun hl k hk => by
    rw [hR'] at hk
    exact hk.elim id (fun h => absurd hl h.1), fun ty => h1, ⟨H.bel.trans (h3.below (fun k hk => H.own k hk) H.bel.size), h2, fun k hk => ⟨?_, Nat.lt_of_lt_of_le (hlt k hk) h3.size⟩, fun k hk => ?_⟩, h3, h4⟩
  · rw [hR'] at hk
    rcases hk with hk | ⟨hl, o, e⟩
    · exact (H.lt k hk).1
    · exact (ha hl k o e).1
  · rcases h4 k hk with e | e
    · exact H.own k e
    · exact Nat.le_trans H.bel.size e
end


/-- A row of numbers beside a list of places that grows. -/
structure Rn (out : Value) (W : World) (s : Value) (l : List Int) : Prop where
  row : RowI W s l
  ne : ∀ k, s.ownBlock = some k → out.ownBlock ≠ some k
section
variable {W W' : World} {out out' s : Value} {l : List Int}
theorem Rn.below (h : Rn out W s l) (hb : Below W.heap.size W W') : Rn out W' s l := ⟨RowF.below h.row hb, h.ne⟩
theorem Rn.pushed (h : Rn out W s l) (ht : Touch (fun k => out.ownBlock = some k) W W') (ho : ∀ k, out'.ownBlock = some k → out.ownBlock = some k ∨ W.heap.size ≤ k) : Rn out' W' s l :=
  ⟨RowF.stay h.row (ht.stay (G := fun k => out.ownBlock ≠ some k) (fun k hk e => hk e)) h.ne, fun k hk e => by
    rcases ho k e with e | e
    · exact h.ne k hk e
    · have := RowF.lt h.row k hk; omega⟩
theorem Rn.cell {b n c i : Nat} {x : Int} (h : Rn out W (.slice (some ⟨b, 0, none⟩) n c) l) (hx : l[i]? = some x) : b < W.heap.size ∧ W.cell? ⟨b, i, none⟩ = some (.int .i64 x) := by
  obtain ⟨hi, e⟩ := List.getElem?_eq_some_iff.1 hx
  obtain ⟨b', c', e1, -, -, h3, h4, -⟩ := RowI.at h.row hi
  simp only [Value.slice.injEq] at e1
  obtain ⟨e2, -, -⟩ := e1
  cases e2
  refine ⟨h3, ?_⟩
  rw [h4 i hi]
  simp [hi, e]
theorem Rn.at {a : Option Addr} {n c i : Nat} {x : Int} (h : Rn out W (.slice a n c) l) (hx : l[i]? = some x) : ∃ b, a = some ⟨b, 0, none⟩ := by
  obtain ⟨hi, e⟩ := List.getElem?_eq_some_iff.1 hx
  obtain ⟨b', c', e1, -, -, h3, h4, -⟩ := RowI.at h.row hi
  simp only [Value.slice.injEq] at e1
  exact ⟨b', e1.1⟩
end
theorem get_intT {l : List Int} {i : Nat} (h : i < l.length) : ∃ x, l[i]? = some x := ⟨l[i], by simp [h]⟩

theorem atT_wf {A : Ab} (hok : A.Ok) (x : Int) : ∀ v ∈ (A.atT x).row, v.wf := by
  unfold Ab.atT Ab.tupI
  split
  · cases e : A.tup x.toNat with
    | none => intro v hv; cases hv
    | some t => exact (hok.wf _ ((hok.tup _ t).1 e)).1.row
  · intro v hv; cases hv

end Go.Proofs.YtbgnbaogclnpgaaGreat

namespace Go.Proofs.YtbgnbaogclnpgaaGreat
open Go.RowKit
set_option linter.unusedVariables false

abbrev Gvn := Int × Int
def gvC (g : Gvn) : List Value := [.int .i64 g.1, .int .i64 g.2]
def RowG (W : World) (s : Value) (l : List Gvn) : Prop := RowF 148 2 W s l.length (fun j => gvC (l.getD j (0, 0)))

/-- The greatest ID of a table. -/
def mostL : List Gvn → Int → Int
  | [], _ => 0
  | g :: l, x => if g.1 = x then g.2 else mostL l x

theorem mostL_none : ∀ {l : List Gvn} {x : Int}, (∀ g ∈ l, g.1 ≠ x) → mostL l x = 0
  | [], _, _ => rfl
  | g :: l, x, h => by
    unfold mostL
    rw [if_neg (h g (List.mem_cons_self ..))]
    exact mostL_none fun g hg => h g (List.mem_cons_of_mem _ hg)
theorem mostL_at : ∀ {l : List Gvn} {x : Int} {i : Nat} {g : Gvn}, l[i]? = some g → g.1 = x → (∀ j g', j < i → l[j]? = some g' → g'.1 ≠ x) → mostL l x = g.2
  | [], _, _, _, h, _, _ => by simp at h
  | a :: l, x, 0, g, h, e, _ => by
    simp at h
    subst h
    unfold mostL
    rw [if_pos e]
  | a :: l, x, i + 1, g, h, e, hb => by
    unfold mostL
    rw [if_neg (hb 0 a (Nat.succ_pos i) rfl)]
    exact mostL_at (i := i) (by simpa using h) e fun j g' hj hg => hb (j + 1) g' (by omega) (by simpa using hg)
theorem mostL_give (x v : Int) : ∀ (l : List Gvn) (y : Int), mostL (l.filter (fun g => decide (g.1 ≠ x)) ++ [(x, v)]) y = if y = x then v else mostL l y
  | [], y => by
    show (if x = y then v else 0) = _
    by_cases e : y = x
    · rw [if_pos e, if_pos e.symm]
    · rw [if_neg e, if_neg (fun h => e h.symm)]; rfl
  | g :: l, y => by
    by_cases e : g.1 = x
    · rw [List.filter_cons_of_neg (by simp [e]), mostL_give x v l y]
      by_cases e2 : y = x
      · rw [if_pos e2, if_pos e2]
      · rw [if_neg e2, if_neg e2]
        show _ = if g.1 = y then g.2 else mostL l y
        rw [if_neg (fun h => e2 (by omega))]
    · rw [List.filter_cons_of_pos (by simp [e]), List.cons_append]
      show (if g.1 = y then g.2 else mostL _ y) = _
      rw [mostL_give x v l y]
      show _ = if y = x then v else (if g.1 = y then g.2 else mostL l y)
      by_cases e3 : g.1 = y
      · rw [if_pos e3, if_neg (fun h => e (by omega)), if_pos e3]
      · rw [if_neg e3, if_neg e3]

/-- The document's heap at block x stands for A, in the blocks F; fewer than z IDs were given. -/
structure Rf (W : World) (x : Nat) (A : Ab) (z : Nat) (F : Nat → Prop) (ls gs : Value) (gl : List Gvn) (R : Nat → Prop) : Prop where
  lit : Lit W x 76 [ls, gs]
  row : RowP R W ls (pls A)
  giv : RowG W gs gl
  most : ∀ y, mostL gl y = A.lst y
  gz : gl.length ≤ z
  fx : F x
  fl : ∀ k, ls.ownBlock = some k → F k ∧ k ≠ x
  fg : ∀ k, gs.ownBlock = some k → F k ∧ k ≠ x ∧ ls.ownBlock ≠ some k ∧ ¬ R k
  fr : ∀ k, R k → F k ∧ k ≠ x
  lt : ∀ k, F k → k < W.heap.size

section
variable {W W' : World} {x z : Nat} {A : Ab} {F : Nat → Prop} {ls gs : Value} {gl : List Gvn} {R : Nat → Prop}
theorem Rf.stay (H : Rf W x A z F ls gs gl R) (hs : Stay F W W') : Rf W' x A z F ls gs gl R :=
  ⟨H.lit.stay hs H.fx, H.row.stay hs (fun k hk => (H.fl k hk).1) (fun k hk => (H.fr k hk).1), RowF.stay H.giv hs (fun k hk => (H.fg k hk).1), H.most, H.gz, H.fx, H.fl, H.fg, H.fr, fun k hk => Nat.lt_of_lt_of_le (H.lt k hk) hs.size⟩
theorem Rf.below (H : Rf W x A z F ls gs gl R) (hb : Below W.heap.size W W') : Rf W' x A z F ls gs gl R := H.stay (Stay.of_below hb)
theorem RowG.at {a : Option Addr} {n c i : Nat} {g : Gvn} {l : List Gvn} (h : RowG W (.slice a n c) l) (hg : l[i]? = some g) : ∃ b, a = some ⟨b, 0, none⟩ ∧ b < W.heap.size ∧ W.cell? ⟨b, i * 2, none⟩ = some (.int .i64 g.1) ∧ W.cell? ⟨b, i * 2 + 1, none⟩ = some (.int .i64 g.2) := by
  obtain ⟨hi, e⟩ := List.getElem?_eq_some_iff.1 hg
  obtain ⟨b, c', e1, -, -, hb, hc, -⟩ := RowF.at h hi
  simp only [Value.slice.injEq] at e1
  obtain ⟨rfl, -, -⟩ := e1
  have hq : l.getD i (0, 0) = g := by simp [hi, e]
  have hc' : ∀ o v, (gvC g)[o]? = some v → W.cell? ⟨b, i * 2 + o, none⟩ = some v := fun o v hv => hc i hi o v (by rw [hq]; exact hv)
  exact ⟨b, rfl, hb, hc' 0 _ rfl, hc' 1 _ rfl⟩
end

/-- Where the tuple of a slot stands. -/
def Found (A : Ab) (y : Int) (v : Int) : Prop := (v = -1 ∧ A.tupI y = none) ∨ ∃ (i : Nat) (p : Plc), v = (i : Int) ∧ (pls A)[i]? = some p ∧ p.1 = y

set_option maxRecDepth 100000 in
set_option maxHeartbeats 4000000 in
theorem rfind_is (w : World) (x : Nat) (A : Ab) (z : Nat) (F : Nat → Prop) (ls gs : Value) (gl : List Gvn) (R : Nat → Prop) (y : Int) (hz : A.pl.length ≤ 100000) (H : Rf w x A z F ls gs gl R) :
    Calls Tryz.prog 74 #[.pointer (some ⟨x, 0, none⟩), .int .i64 y] w fun e w' => ∃ v, e = .returned (.int .i64 v) ∧ Found A y v ∧ w' = w := by
  obtain ⟨la, lc, rfl, -, -⟩ := H.row.form
  obtain ⟨n, hn⟩ : ∃ n, (pls A).length = n := ⟨_, rfl⟩
  have hn9 : n ≤ 100000 := by rw [← hn, pls_len]; exact hz
  have HN := Lib.hid hn
  have HR := Lib.hid H.row
  have c0 := H.lit.cell (o := 0) rfl
  have hxl := H.lit.lt
  rw [hn] at c0 HR
  clear H hn hz
  go_enter Tryz.func74, Tryz.ntmps74
  go_wp2_with fail
  go_loopg [5] n (fun gg s5 wr => ∃ i : Nat, s5 = .int .i64 i ∧ i ≤ n ∧ n - i ≤ gg ∧ Hid (∀ j p, j < i → (pls A)[j]? = some p → p.1 ≠ y) ∧ wr = w)
  case atStart => exact ⟨0, rfl, Nat.zero_le _, by omega, Lib.hid (fun j p hj => absurd hj (Nat.not_lt_zero j)), rfl⟩
  case round =>
    obtain ⟨i, rfl, hi, hgg, HB, rfl⟩ := hrel
    by_cases hlt : i < n
    · have hltz : (i : Int) < (n : Int) := by omega
      obtain ⟨p, hp⟩ : ∃ p, (pls A)[i]? = some p := ⟨(pls A)[i]'(by rw [HN.out]; exact hlt), by simp [HN.out, hlt]⟩
      obtain ⟨b, ra, rc, rfl, hb, -, -, k0, -⟩ := HR.out.at hp
      have HP := Lib.hid hp
      have HL := Lib.hid (And.intro hlt (And.intro hi hgg))
      clear hp hi hgg hlt
      by_cases he : p.1 = y
      · have HE := Lib.hid he
        rw [he] at k0
        clear he
        go_wp2_with fail
        go_ret
        exact ⟨_, rfl, .inr ⟨i, p, rfl, HP.out, HE.out⟩, rfl⟩
      · have hne : (p.1 == y) = false := by simpa using he
        have HE := Lib.hid he
        go_wp2_with fail
        go_roundg (n - (i + 1))
        case measure => have := HL.out; omega
        case rel => exact ⟨i + 1, by go_num, by have := HL.out; omega, Nat.le_refl _, Lib.hid (fun j q hj hq => by
          by_cases e : j = i
          · rw [e, HP.out] at hq; cases hq; exact HE.out
          · exact HB.out j q (by omega) hq), rfl⟩
    · have hltz : ¬ (i : Int) < (n : Int) := by omega
      obtain rfl : n = i := by omega
      go_wp2_with fail
      go_ret
      refine ⟨_, rfl, .inl ⟨rfl, tupI_none.2 fun p hp => ?_⟩, rfl⟩
      obtain ⟨j, hj⟩ := List.getElem?_of_mem hp
      exact HB.out j p (by rw [← HN.out]; exact (List.getElem?_eq_some_iff.1 hj).1) hj

set_option maxRecDepth 100000 in
set_option maxHeartbeats 4000000 in
theorem rmost_is (w : World) (x : Nat) (A : Ab) (z : Nat) (F : Nat → Prop) (ls gs : Value) (gl : List Gvn) (R : Nat → Prop) (y : Int) (hz : z ≤ 100000) (H : Rf w x A z F ls gs gl R) :
    Calls Tryz.prog 97 #[.pointer (some ⟨x, 0, none⟩), .int .i64 y] w fun e w' => e = .returned (.int .i64 (A.lst y)) ∧ w' = w := by
  obtain ⟨ga, gc, rfl, -, -⟩ := RowF.form H.giv
  obtain ⟨n, hn⟩ : ∃ n, gl.length = n := ⟨_, rfl⟩
  have hn9 : n ≤ 100000 := by rw [← hn]; exact Nat.le_trans H.gz hz
  have HN := Lib.hid hn
  have HR := Lib.hid H.giv
  have HM := Lib.hid (H.most y)
  have c1 := H.lit.cell (o := 1) rfl
  have hxl := H.lit.lt
  rw [hn] at c1 HR
  clear H hn hz
  go_enter Tryz.func97, Tryz.ntmps97
  go_wp2_with fail
  go_loopg [5] n (fun gg s5 wr => ∃ i : Nat, s5 = .int .i64 i ∧ i ≤ n ∧ n - i ≤ gg ∧ Hid (∀ j g, j < i → gl[j]? = some g → g.1 ≠ y) ∧ wr = w)
  case atStart => exact ⟨0, rfl, Nat.zero_le _, by omega, Lib.hid (fun j p hj => absurd hj (Nat.not_lt_zero j)), rfl⟩
  case round =>
    obtain ⟨i, rfl, hi, hgg, HB, rfl⟩ := hrel
    by_cases hlt : i < n
    · have hltz : (i : Int) < (n : Int) := by omega
      obtain ⟨p, hp⟩ : ∃ p, gl[i]? = some p := ⟨gl[i]'(by rw [HN.out]; exact hlt), by simp [HN.out, hlt]⟩
      obtain ⟨b, rfl, hb, k0, k1⟩ := RowG.at HR.out hp
      have HP := Lib.hid hp
      have HL := Lib.hid (And.intro hlt (And.intro hi hgg))
      clear hp hi hgg hlt
      by_cases he : p.1 = y
      · have HE := Lib.hid he
        rw [he] at k0
        clear he
        go_wp2_with fail
        go_ret
        rw [← HM.out, mostL_at HP.out HE.out HB.out]
        exact ⟨rfl, rfl⟩
      · have hne : (p.1 == y) = false := by simpa using he
        have HE := Lib.hid he
        go_wp2_with fail
        go_roundg (n - (i + 1))
        case measure => have := HL.out; omega
        case rel => exact ⟨i + 1, by go_num, by have := HL.out; omega, Nat.le_refl _, Lib.hid (fun j q hj hq => by
          by_cases e : j = i
          · rw [e, HP.out] at hq; cases hq; exact HE.out
          · exact HB.out j q (by omega) hq), rfl⟩
    · have hltz : ¬ (i : Int) < (n : Int) := by omega
      obtain rfl : n = i := by omega
      go_wp2_with fail
      go_ret
      rw [← HM.out, mostL_none fun g hg => ?_]
      · exact ⟨rfl, rfl⟩
      · obtain ⟨j, hj⟩ := List.getElem?_of_mem hg
        exact HB.out j g (by rw [← HN.out]; exact (List.getElem?_eq_some_iff.1 hj).1) hj

set_option maxRecDepth 100000 in
theorem rlen_is (w : World) (x : Nat) (A : Ab) (z : Nat) (F : Nat → Prop) (ls gs : Value) (gl : List Gvn) (R : Nat → Prop) (H : Rf w x A z F ls gs gl R) :
    Calls Tryz.prog 148 #[.pointer (some ⟨x, 0, none⟩)] w fun e w' => e = .returned (.int .i64 (A.pl.length : Int)) ∧ w' = w := by
  obtain ⟨la, lc, rfl, -, -⟩ := H.row.form
  have c0 := H.lit.cell (o := 0) rfl
  have hxl := H.lit.lt
  rw [pls_len] at c0
  clear H
  go_enter Tryz.func148, Tryz.ntmps148
  go_wp2_with fail
  go_ret
  exact ⟨rfl, rfl⟩

set_option maxRecDepth 100000 in
theorem rnew_is (w : World) : Calls Tryz.prog 8 #[] w fun e w' => e = .returned (.pointer (some ⟨w.heap.size, 0, none⟩)) ∧ (∃ gl R, Rf w' w.heap.size Ab.new 0 (fun k => k = w.heap.size) (.slice none 0 0) (.slice none 0 0) gl R) ∧ Below w.heap.size w w' := by
  have hl := Lit.new w 76 [.slice none 0 0, .slice none 0 0]
  have hb := Below.allocs w (.cells #[.slice none 0 0, .slice none 0 0] 76)
  have HE := Lib.hid (And.intro hl hb)
  clear hl hb
  go_enter Tryz.func8, Tryz.ntmps8
  go_wp2_with fail
  go_ret
  obtain ⟨hl, hb⟩ := HE.out
  exact ⟨rfl, ⟨[], fun _ => False, hl, RowP.nil _ _, RowF.nil _ _ _ _, fun _ => rfl, Nat.le_refl _, rfl, fun k hk => (by cases hk), fun k hk => (by cases hk), fun k hk => hk.elim, fun k hk => by rw [hk]; exact hl.lt⟩, hb⟩

end Go.Proofs.YtbgnbaogclnpgaaGreat

namespace Go.Proofs.YtbgnbaogclnpgaaGreat
open Go.RowKit
set_option linter.unusedVariables false

section
variable {e : TypeId} {m : Nat} {W W' : World} {s : Value} {n : Nat} {f g : Nat → List Value}
/-- Records are appended that lie anywhere in a block. -/
theorem RowF.appendO {P : Program} (h : RowF e m W s n f) (t ty : TypeId) (i : TypeInfo) (z : Value) (bytes : Nat) (ht : P.underlying t = some (.slice e)) (hi : P.info? e = some i) (hz : i.zero = some z) (hsize : i.size = m) (hby : i.bytes = bytes) (hzs : z.cells.size = m) (hm : 0 < m) (hby2 : bytes ≤ 1000)
    {b off k c : Nat} {q : Nat → List Value} (hq : ∀ j, j < k → ∀ o v, (q j)[o]? = some v → W.cell? ⟨b, off + (j * m + o), none⟩ = some v) (hql : ∀ j, j < k → (q j).length = m) (hq1 : ∀ j, j < k → ∀ v ∈ q j, v.oneCell' = true) (hn : n + k ≤ 1000000) :
    ∃ s' W', (Builtin.append_ #[t, t] ty #[s, .slice (some ⟨b, off, none⟩) k c]).run P W = .ok s' W' ∧ RowF e m W' s' (n + k) (fun j => if j < n then f j else q (j - n)) ∧ W.grownBy W' s.ownBlock ∧ (s'.ownBlock = s.ownBlock ∨ s'.ownBlock = some W.heap.size) := by
  obtain ⟨⟨xs, h1, h2⟩, h3⟩ := h
  -- the cells that are appended
  obtain ⟨news, hl, hg⟩ : ∃ news : List Value, news.length = k * m ∧ ∀ j, j < k → ∀ o, o < m → news[j * m + o]? = (q j)[o]? := by
    clear hq hq1 hn
    induction k with
    | zero => exact ⟨[], by simp, fun j hj => absurd hj (Nat.not_lt_zero j)⟩
    | succ k ih =>
      obtain ⟨l, hl, hg⟩ := ih (fun j hj => hql j (by omega))
      refine ⟨l ++ q k, by rw [List.length_append, hl, hql k (Nat.lt_succ_self k), Nat.add_mul, Nat.one_mul], fun j hj o ho => ?_⟩
      by_cases hjk : j = k
      · subst hjk
        rw [List.getElem?_append_right (by omega), hl]
        congr 1
        omega
      · have hjk' : j < k := by omega
        rw [List.getElem?_append_left]
        · exact hg j hjk' o ho
        · rw [hl]
          calc j * m + o < j * m + m := by omega
            _ = (j + 1) * m := by rw [Nat.add_mul, Nat.one_mul]
            _ ≤ k * m := Nat.mul_le_mul_right _ hjk'
  have hsplit : ∀ j, j < k * m → j / m < k ∧ j % m < m ∧ j / m * m + j % m = j := fun j hj => by
    refine ⟨Nat.div_lt_of_lt_mul (by rw [Nat.mul_comm]; exact hj), Nat.mod_lt _ hm, ?_⟩
    rw [Nat.mul_comm]; exact Nat.div_add_mod j m
  obtain ⟨v', W', hr, ho, hgr, _, hw⟩ := run_append_own_at (P := P) W 0 t ty e i z m bytes ht hi hz hsize hby hzs hm s n xs h1 ⟨b, off, none⟩ k c news hl (fun j u hj => by
      have hjl : j < k * m := by have := (List.getElem?_eq_some_iff.1 hj).1; rwa [hl] at this
      obtain ⟨d1, d2, d3⟩ := hsplit j hjl
      have h5 := hg (j / m) d1 (j % m) d2
      rw [d3, hj] at h5
      rw [Addr.add_lit, ← d3]
      exact hq _ d1 _ _ h5.symm) (fun u hu => by
      obtain ⟨j, hjl, rfl⟩ := List.mem_iff_getElem.1 hu
      rw [hl] at hjl
      obtain ⟨d1, d2, d3⟩ := hsplit j hjl
      have h5 := hg (j / m) d1 (j % m) d2
      rw [d3, List.getElem?_eq_getElem (by rw [hl]; exact hjl)] at h5
      exact hq1 _ d1 _ (List.mem_of_getElem? h5.symm)) (by unfold maxLen; omega) (by
      have := Nat.mul_le_mul hn hby2
      omega) (Nat.zero_le _)
  refine ⟨v', W', hr, ⟨⟨_, ho, fun j hj o u hu => ?_⟩, fun j hj => ?_⟩, hgr, hw⟩
  · by_cases hjn : j < n
    · simp only [if_pos hjn] at hu
      have := h2 j hjn o u hu
      rw [List.getElem?_append_left (List.getElem?_eq_some_iff.1 this).1]
      exact this
    · simp only [if_neg hjn] at hu
      have ho' : o < m := by have := (List.getElem?_eq_some_iff.1 hu).1; rwa [hql (j - n) (by omega)] at this
      have h5 := hg (j - n) (by omega) o ho'
      rw [hu] at h5
      have hge : n * m ≤ j * m := Nat.mul_le_mul_right _ (by omega)
      rw [List.getElem?_append_right (by rw [h1.1]; omega), h1.1, show j * m + o - n * m = (j - n) * m + o by rw [Nat.sub_mul]; omega]
      exact h5
  · by_cases hjn : j < n
    · simp only [if_pos hjn]; exact h3 j hjn
    · simp only [if_neg hjn]; exact hql (j - n) (by omega)
end

/-- Nothing is appended. -/
theorem RowF.append0 {e : TypeId} {m : Nat} {W : World} {s : Value} {n : Nat} {f : Nat → List Value} (h : RowF e m W s n f) (t ty : TypeId) (i : TypeInfo) (ht : Tryz.prog.underlying t = some (.slice e)) (hi : Tryz.prog.info? e = some i) :
    (Builtin.append_ #[t, t] ty #[s, .slice none 0 0]).run Tryz.prog W = .ok s W := by
  obtain ⟨a, c, rfl, hnc, hcm⟩ := h.form
  cases a with
  | none => simp [Builtin.append_, run_underlying ht, sizeOf, typeInfo, hi, Builtin.lenOf, Builtin.firstCells, hnc]
  | some a => simp [Builtin.append_, run_underlying ht, sizeOf, typeInfo, hi, Builtin.lenOf, Builtin.firstCells, loadCells, storeCells, hnc]

theorem info_gv : (Tryz.prog.info? 148).map (fun i => (i.zero, i.size, i.bytes)) = some (some (.agg #[.int .i64 0, .int .i64 0]), 2, 16) := by kernel_rfl

theorem RowG.push {W : World} {s : Value} {l : List Gvn} (h : RowG W s l) (g : Gvn) (ty : TypeId) (hn : l.length + 1 ≤ 1000000) :
    ∃ a' c' W6, (Builtin.append_ #[74, 74] ty #[s, .slice (some ⟨W.heap.size, 0, none⟩) 1 1]).run Tryz.prog (W.alloc (.cells (gvC g).toArray 148)) = .ok (.slice a' (l.length + 1) c') W6 ∧
      RowG W6 (.slice a' (l.length + 1) c') (l ++ [g]) ∧ Touch (fun k => s.ownBlock = some k) W W6 ∧ (∀ k, Value.ownBlock (.slice a' (l.length + 1) c') = some k → s.ownBlock = some k ∨ W.heap.size ≤ k) := by
  obtain ⟨i0, hi, hz, hsz, hby⟩ := info_parts info_gv
  have hal := Below.allocs W (.cells (gvC g).toArray 148)
  have hlit := Lit.new W 148 (gvC g)
  obtain ⟨s', W6, hrun, hrow, hg, hown⟩ := (RowF.below h hal).append (P := Tryz.prog) 74 ty i0 _ 16 Tryz.underlying74 hi hz hsz hby rfl (by decide) (by decide) (b := W.heap.size) (k := 1) (c := 1) (q := fun _ => gvC g)
    (fun j hj o v hv => by
      obtain rfl : j = 0 := by omega
      rw [Nat.zero_mul, Nat.zero_add]
      exact hlit.cell hv) (fun _ _ => rfl) (fun _ _ v hv => by
        simp only [gvC, List.mem_cons, List.not_mem_nil, or_false] at hv
        rcases hv with rfl | rfl <;> rfl) (by omega)
  obtain ⟨a', c', rfl, _, _⟩ := hrow.form
  refine ⟨a', c', W6, hrun, ?_, (Touch.of_below hal).trans (Touch.grown hg (fun k hk => hk)) (fun _ _ h => h), fun k hk => ?_⟩
  · unfold RowG
    rw [List.length_append, List.length_singleton]
    refine hrow.congr fun j hj => ?_
    by_cases hjn : j < l.length
    · simp only [if_pos hjn]
      simp [List.getElem?_append_left hjn, hjn]
    · have e : j = l.length := by omega
      subst e
      simp
  · rcases hown with e | e
    · exact .inl (e ▸ hk)
    · right
      rw [e] at hk
      have : (W.alloc (.cells (gvC g).toArray 148)).heap.size = k := Option.some.inj hk
      simp at this
      omega

/-- Places in block b, from off on. -/
def SrcP (R : Nat → Prop) (W : World) (b off : Nat) (m : List Plc) : Prop := ∃ rv : Nat → Value, ∀ j p, m[j]? = some p → (∀ o v, (plC p (rv j))[o]? = some v → W.cell? ⟨b, off + (j * 8 + o), none⟩ = some v) ∧ ∃ a c, rv j = .slice a p.2.row.length c ∧ SlL W a c p.2.row ∧ (p.2.row ≠ [] → ∀ b o, a = some ⟨b, o, none⟩ → R b)

theorem RowP.src {R : Nat → Prop} {W : World} {b n c : Nat} {l : List Plc} (h : RowP R W (.slice (some ⟨b, 0, none⟩) n c) l) (i : Nat) : SrcP R W b (i * 8) (l.drop i) := by
  obtain ⟨⟨rv, h1, h2⟩, h3⟩ := h
  refine ⟨fun j => rv (i + j), fun j p hp => ?_⟩
  rw [List.getElem?_drop] at hp
  obtain ⟨a, c', q1, q2, q3⟩ := h2 (i + j) p hp
  refine ⟨fun o v hv => ?_, a, c', q1, q2, q3⟩
  have hi := (List.getElem?_eq_some_iff.1 hp).1
  obtain ⟨b', c2, e1, -, -, hb, hc, -⟩ := h1.at hi
  simp only [Value.slice.injEq] at e1
  obtain ⟨e2, -, -⟩ := e1
  cases e2
  have hg : l.getD (i + j) pl0 = p := by
    obtain ⟨hi2, e⟩ := List.getElem?_eq_some_iff.1 hp
    simp [hi2, e]
  rw [show i * 8 + (j * 8 + o) = (i + j) * 8 + o by omega]
  exact hc (i + j) hi o v (by rw [hg]; exact hv)
theorem SrcP.take {R : Nat → Prop} {W : World} {b off : Nat} {l : List Plc} (h : SrcP R W b off l) (i : Nat) : SrcP R W b off (l.take i) := by
  obtain ⟨rv, h⟩ := h
  refine ⟨rv, fun j p hp => h j p ?_⟩
  rw [List.getElem?_take] at hp
  split at hp
  · exact hp
  · cases hp
theorem SrcP.below {R : Nat → Prop} {W W' : World} {b off : Nat} {l : List Plc} (h : SrcP R W b off l) (hb : Below W.heap.size W W') (hbl : b < W.heap.size) : SrcP R W' b off l := by
  obtain ⟨rv, h⟩ := h
  refine ⟨rv, fun j p hp => ?_⟩
  obtain ⟨h1, a, c, h2, h3, h4⟩ := h j p hp
  exact ⟨fun o v hv => by rw [hb.cell (p := ⟨b, _, none⟩) hbl]; exact h1 o v hv, a, c, h2, h3.below hb, h4⟩

/-- Places are appended that lie elsewhere. -/
theorem RowP.app {R : Nat → Prop} {W : World} {s : Value} {l m : List Plc} {b off k : Nat} (h : RowP R W s l) (hs : SrcP R W b off m) (hk : m.length = k) (c : Nat) (ty : TypeId) (hlt : ∀ k, R k → k < W.heap.size) (hn : l.length + k ≤ 1000000) :
    ∃ a' c' W6, (Builtin.append_ #[73, 73] ty #[s, .slice (some ⟨b, off, none⟩) k c]).run Tryz.prog W = .ok (.slice a' (l.length + k) c') W6 ∧
      RowP R W6 (.slice a' (l.length + k) c') (l ++ m) ∧ Touch (fun k => s.ownBlock = some k) W W6 ∧ (∀ k', Value.ownBlock (.slice a' (l.length + k) c') = some k' → s.ownBlock = some k' ∨ W.heap.size ≤ k') := by
  obtain ⟨i0, hi, hz, hsz, hby⟩ := info_parts info_pl
  obtain ⟨⟨rv, h1, h2⟩, h3⟩ := h
  obtain ⟨sv, hsv⟩ := hs
  subst hk
  have hget : ∀ j, j < m.length → m[j]? = some (m.getD j pl0) := fun j hj => by simp [hj]
  obtain ⟨s', W6, hrun, hrow, hg, hown⟩ := h1.appendO (P := Tryz.prog) 73 ty i0 _ 80 Tryz.underlying73 hi hz hsz hby rfl (by decide) (by decide) (b := b) (off := off) (k := m.length) (c := c) (q := fun j => plC (m.getD j pl0) (sv j))
    (fun j hj o v hv => (hsv j _ (hget j hj)).1 o v hv) (fun _ _ => rfl) (fun j hj v hv => by
        obtain ⟨_, a, c, e, _⟩ := hsv j _ (hget j hj)
        rw [e] at hv
        simp only [plC, List.mem_cons, List.not_mem_nil, or_false] at hv
        rcases hv with rfl | rfl | rfl | rfl | rfl | rfl | rfl | rfl <;> rfl) (by omega)
  obtain ⟨a', c', rfl, _, _⟩ := hrow.form
  have ht : Touch (fun k => s.ownBlock = some k) W W6 := Touch.grown hg (fun k hk => hk)
  have hown' : ∀ k, Value.ownBlock (.slice a' (l.length + m.length) c') = some k → s.ownBlock = some k ∨ W.heap.size ≤ k := fun k hk => by
    rcases hown with e | e
    · exact .inl (e ▸ hk)
    · right
      rw [e] at hk
      have : W.heap.size = k := Option.some.inj hk
      omega
  have hst := ht.stay (G := R) (fun k hk e => h3 k e hk)
  refine ⟨a', c', W6, hrun, ⟨⟨fun j => if j < l.length then rv j else sv (j - l.length), ?_, fun j q hq => ?_⟩, fun k hk hR => ?_⟩, ht, hown'⟩
  · rw [List.length_append]
    refine hrow.congr fun j hj => ?_
    by_cases hjn : j < l.length
    · simp only [if_pos hjn]
      simp [List.getElem?_append_left hjn, hjn]
    · simp only [if_neg hjn]
      simp [List.getElem?_append_right (Nat.le_of_not_lt hjn)]
  · by_cases hjn : j < l.length
    · rw [List.getElem?_append_left hjn] at hq
      simp only [if_pos hjn]
      obtain ⟨a2, c2, q1, q2, q3⟩ := h2 j q hq
      exact ⟨a2, c2, q1, q2.stay hst q3, q3⟩
    · rw [List.getElem?_append_right (Nat.le_of_not_lt hjn)] at hq
      simp only [if_neg hjn]
      obtain ⟨_, a2, c2, q1, q2, q3⟩ := hsv _ q hq
      exact ⟨a2, c2, q1, q2.stay hst q3, q3⟩
  · rcases hown' k hk with e | e
    · exact h3 k e hR
    · have := hlt k hR; omega

/-- An empty row of its own. -/
theorem RowP.empty {R : Nat → Prop} (W : World) (hR : ∀ k, R k → k < W.heap.size) : RowP R (W.alloc (.cells #[] 123)) (.slice (some ⟨W.heap.size, 0, none⟩) 0 0) [] :=
  ⟨⟨fun _ => .slice none 0 0, ⟨⟨[], by
    have := World.ownsRow_made (base := 0) (e := 123) (size := 8) W #[] 0 (Nat.zero_le _) (Nat.zero_le _) (by simp)
    simpa using this, fun j hj => absurd hj (Nat.not_lt_zero j)⟩, fun j hj => absurd hj (Nat.not_lt_zero j)⟩, fun j p hp => by simp at hp⟩, fun k hk hRk => by
    have : W.heap.size = k := Option.some.inj hk
    have := hR k hRk
    omega⟩

end Go.Proofs.YtbgnbaogclnpgaaGreat

namespace Go.Proofs.YtbgnbaogclnpgaaGreat
open Go.RowKit
set_option linter.unusedVariables false

section
variable {W : World} {x z : Nat} {A : Ab} {F : Nat → Prop} {ls gs : Value} {gl : List Gvn} {R : Nat → Prop}
/-- Other IDs are given. -/
theorem Rf.setG (H : Rf W x A z F ls gs gl R) {gs' : Value} {gl' : List Gvn} {A' : Ab} {z' : Nat} (hrow : RowG W gs' gl') (hpl : A'.pl = A.pl) (hm : ∀ y, mostL gl' y = A'.lst y) (hz : gl'.length ≤ z') (hf : ∀ k, gs'.ownBlock = some k → ¬ F k) :
    Rf (W.setCell ⟨x, 1, none⟩ gs') x A' z' (fun k => F k ∨ gs'.ownBlock = some k) ls gs' gl' R ∧ Touch (fun k => k = x) W (W.setCell ⟨x, 1, none⟩ gs') := by
  have ht := Touch.setCell W (F := fun k => k = x) rfl 1 gs'
  have hs := ht.stay (G := fun k => k ≠ x) (fun k hk e => hk e)
  have hx : ∀ k, gs'.ownBlock = some k → k ≠ x := fun k hk e => hf k hk (by rw [e]; exact H.fx)
  refine ⟨⟨H.lit.set 1 gs', ?_, RowF.stay hrow hs hx, hm, hz, .inl H.fx, fun k hk => ⟨.inl (H.fl k hk).1, (H.fl k hk).2⟩, fun k hk => ⟨.inr hk, hx k hk, fun e => hf k hk (H.fl k e).1, fun e => hf k hk (H.fr k e).1⟩, fun k hk => ⟨.inl (H.fr k hk).1, (H.fr k hk).2⟩, fun k hk => ?_⟩, ht⟩
  · have : pls A' = pls A := by unfold pls; rw [hpl]
    rw [this]
    exact H.row.stay hs (fun k hk => (H.fl k hk).2) (fun k hk => (H.fr k hk).2)
  · rcases hk with hk | hk
    · exact Nat.lt_of_lt_of_le (H.lt k hk) ht.size
    · exact Nat.lt_of_lt_of_le (RowF.lt hrow k hk) ht.size
/-- Other versions are there. -/
theorem Rf.setL (H : Rf W x A z F ls gs gl R) {ls' : Value} {A' : Ab} {R' : Nat → Prop} (hrow : RowP R' W ls' (pls A')) (hlst : A'.lst = A.lst) (hf : ∀ k, ls'.ownBlock = some k → ¬ F k) (hR : ∀ k, R' k → R k ∨ (¬ F k ∧ k < W.heap.size)) :
    Rf (W.setCell ⟨x, 0, none⟩ ls') x A' z (fun k => F k ∨ ls'.ownBlock = some k ∨ R' k) ls' gs gl R' ∧ Touch (fun k => k = x) W (W.setCell ⟨x, 0, none⟩ ls') := by
  have ht := Touch.setCell W (F := fun k => k = x) rfl 0 ls'
  have hs := ht.stay (G := fun k => k ≠ x) (fun k hk e => hk e)
  have hx : ∀ k, ls'.ownBlock = some k → k ≠ x := fun k hk e => hf k hk (by rw [e]; exact H.fx)
  have hrx : ∀ k, R' k → k ≠ x := fun k hk e => by
    rcases hR k hk with h | h
    · exact (H.fr k h).2 e
    · exact h.1 (by rw [e]; exact H.fx)
  refine ⟨⟨H.lit.set 0 ls', hrow.stay hs hx hrx, RowF.stay H.giv hs (fun k hk => (H.fg k hk).2.1), fun y => by rw [hlst]; exact H.most y, H.gz, .inl H.fx, fun k hk => ⟨.inr (.inl hk), hx k hk⟩, fun k hk => ⟨.inl (H.fg k hk).1, (H.fg k hk).2.1, fun e => hf k e (H.fg k hk).1, fun e => ?_⟩, fun k hk => ⟨.inr (.inr hk), hrx k hk⟩, fun k hk => ?_⟩, ht⟩
  · rcases hR k e with h | h
    · exact (H.fg k hk).2.2.2 h
    · exact h.1 (H.fg k hk).1
  · rcases hk with hk | hk | hk
    · exact Nat.lt_of_lt_of_le (H.lt k hk) ht.size
    · exact Nat.lt_of_lt_of_le (hrow.lt k hk) ht.size
    · rcases hR k hk with h | h
      · exact Nat.lt_of_lt_of_le (H.lt k (H.fr k h).1) ht.size
      · exact Nat.lt_of_lt_of_le h.2 ht.size
end
theorem filter_take {l : List Gvn} {i : Nat} {g : Gvn} {y : Int} (h : l[i]? = some g) : (l.take (i + 1)).filter (fun g => decide (g.1 ≠ y)) = (l.take i).filter (fun g => decide (g.1 ≠ y)) ++ (if g.1 ≠ y then [g] else []) := by
  rw [List.take_add_one, h, List.filter_append]
  by_cases e : g.1 ≠ y
  · rw [if_pos e]; simp [e]
  · rw [if_neg e]; simp [e]

set_option maxRecDepth 100000 in
set_option maxHeartbeats 8000000 in
theorem rgive_is (w : World) (x : Nat) (A : Ab) (z : Nat) (F : Nat → Prop) (ls gs : Value) (gl : List Gvn) (R : Nat → Prop) (no iv : Int) (hz : z ≤ 50000) (H : Rf w x A z F ls gs gl R) (A' : Ab) (hpl : A'.pl = A.pl) (hl : ∀ y, A'.lst y = if y = no then max iv (A.lst no) else A.lst y) :
    Calls Tryz.prog 75 #[.pointer (some ⟨x, 0, none⟩), .int .i64 no, .int .i64 iv] w fun e w' => e = .returned (.tuple #[]) ∧ ∃ F' gs' gl', Rf w' x A' (z + 1) F' ls gs' gl' R ∧ More w.heap.size F F' ∧ Touch F w w' := by
  obtain ⟨ga, gc, rfl, -, -⟩ := RowF.form H.giv
  obtain ⟨n, hn⟩ : ∃ n, gl.length = n := ⟨_, rfl⟩
  have hn9 : n ≤ 50000 := by rw [← hn]; exact Nat.le_trans H.gz hz
  have HN := Lib.hid hn
  have HH := Lib.hid H
  have HL := Lib.hid (And.intro hpl hl)
  have HZ := Lib.hid hz
  rw [hn] at HH
  have hxl := H.lit.lt
  clear H hn hpl hl hz
  go_enter Tryz.func75, Tryz.ntmps75
  go_wp2_with fail
  go_loopg [6, 7] n (fun gg s6 s7 wr => ∃ (i : Nat) (oa : Option Addr) (on oc : Nat), s6 = .slice oa on oc ∧ s7 = .int .i64 i ∧ i ≤ n ∧ n - i ≤ gg ∧ Hid (Below w.heap.size w wr) ∧ Hid (RowG wr (.slice oa on oc) ((gl.take i).filter fun g => decide (g.1 ≠ no))) ∧ Hid (((gl.take i).filter fun g => decide (g.1 ≠ no)).length = on) ∧ Hid (∀ k, Value.ownBlock (.slice oa on oc) = some k → w.heap.size ≤ k))
  case atStart => exact ⟨0, none, 0, 0, rfl, rfl, Nat.zero_le _, by omega, Lib.hid (Below.refl _ _), Lib.hid (RowF.nil _ _ _ _), Lib.hid rfl, Lib.hid (fun k hk => by cases hk)⟩
  case round =>
    obtain ⟨i, oa, on, oc, rfl, rfl, hi, hgg, HB, HR, HON, HOW⟩ := hrel
    have c1 := (HH.out.below (HB.out)).lit.cell (o := 1) rfl
    have hxr := Nat.lt_of_lt_of_le hxl HB.out.size
    have HON9 : Hid (on ≤ 50000) := Lib.hid (by
      rw [← HON.out]
      refine Nat.le_trans (List.length_filter_le _ _) ?_
      rw [List.length_take]
      omega)
    by_cases hlt : i < n
    · have hltz : (i : Int) < (n : Int) := by omega
      obtain ⟨g, hg⟩ : ∃ g, gl[i]? = some g := ⟨gl[i]'(by rw [HN.out]; exact hlt), by simp [HN.out, hlt]⟩
      obtain ⟨b, rfl, hb, k0, k1⟩ := RowG.at (HH.out.below HB.out).giv hg
      have HGI := Lib.hid hg
      have HLT := Lib.hid (And.intro hlt (And.intro hi hgg))
      clear hg hlt hi hgg
      by_cases he : g.1 = no
      · have HE := Lib.hid he
        rw [he] at k0
        clear he
        go_wp2_with fail
        go_roundg (n - (i + 1))
        case measure => have := HLT.out; omega
        case rel => exact ⟨i + 1, oa, on, oc, rfl, by go_num, by have := HLT.out; omega, Nat.le_refl _, HB, Lib.hid (by rw [filter_take HGI.out, if_neg (fun h => h HE.out), List.append_nil]; exact HR.out), Lib.hid (by rw [filter_take HGI.out, if_neg (fun h => h HE.out), List.append_nil]; exact HON.out), HOW⟩
      · have hne : (g.1 == no) = false := by simpa using he
        have HE := Lib.hid he
        obtain ⟨a3, c3, W6, hrun, hrow, ht, ho⟩ := HR.out.push g 74 (by rw [HON.out]; have := HON9.out; omega)
        rw [HON.out] at hrun hrow ho
        simp only [gvC] at hrun
        have HRUN := Lib.hid hrun
        have HE6 := Lib.hid (And.intro hrow (And.intro ht ho))
        clear hrun hrow ht ho
        go_wp2_with (first | (at_builtin; refine append_stepW rfl _ _ 74 rfl _ _ _ _ rfl rfl HRUN.out ?_) | fail)
        go_roundg (n - (i + 1))
        case measure => have := HLT.out; omega
        case rel =>
          obtain ⟨hrow, ht, ho⟩ := HE6.out
          exact ⟨i + 1, a3, on + 1, c3, rfl, by go_num, by have := HLT.out; omega, Nat.le_refl _, Lib.hid (HB.out.trans (ht.below HOW.out HB.out.size)), Lib.hid (by rw [filter_take HGI.out, if_pos HE.out]; exact hrow), Lib.hid (by rw [filter_take HGI.out, if_pos HE.out, List.length_append, HON.out]; rfl), Lib.hid (fun k hk => (ho k hk).elim (HOW.out k) (fun e => Nat.le_trans HB.out.size e))⟩
    · have hltz : ¬ (i : Int) < (n : Int) := by omega
      obtain rfl : n = i := by omega
      rw [List.take_of_length_le (by rw [HN.out]; exact Nat.le_refl _)] at HR HON
      clear hlt hi hgg
      have hcon := rmost_is wr x A z F ls (.slice ga n gc) gl R no (by have := HZ.out; omega) (HH.out.below HB.out)
      go_wp2_with fail
      refine (show Calls Tryz.prog _ _ _ _ from hcon).mono ?_
      rintro e w3 ⟨rfl, rfl⟩
      obtain ⟨mx, hmx⟩ : ∃ mx, max iv (A.lst no) = mx := ⟨_, rfl⟩
      obtain ⟨a3, c3, W6, hrun, hrow, ht, ho⟩ := HR.out.push ((no, mx) : Gvn) 74 (by rw [HON.out]; have := HON9.out; omega)
      rw [HON.out] at hrun hrow ho
      simp only [gvC] at hrun
      have hb6 := HB.out.trans (ht.below HOW.out HB.out.size)
      have H6 := HH.out.below hb6
      have hlt6 : ∀ k, F k → k < w.heap.size := HH.out.lt
      obtain ⟨hset, htx⟩ := H6.setG (A' := A') (z' := z + 1) hrow HL.out.1 (fun y => by rw [← hmx, mostL_give, HL.out.2, HH.out.most]) (by
        have e1 := HON.out
        have e2 := HH.out.gz
        have e3 : (gl.filter fun g => decide (g.1 ≠ no)).length ≤ gl.length := List.length_filter_le _ _
        rw [List.length_append]
        simp only [List.length_singleton]
        omega) (fun k hk hf => by
        have e1 := hlt6 k hf
        rcases ho k hk with e | e
        · have := HOW.out k e; omega
        · have := HB.out.size; omega)
      have HRUN := Lib.hid hrun
      have HMX := Lib.hid hmx
      have cx1 := H6.lit.cell (o := 1) rfl
      have fz1 := H6.lit.fz 1
      have hx6 := H6.lit.lt
      have HEND := Lib.hid (show Rf (W6.setCell ⟨x, 1, none⟩ (.slice a3 (on + 1) c3)) x A' (z + 1) (fun k => F k ∨ Value.ownBlock (.slice a3 (on + 1) c3) = some k) ls (.slice a3 (on + 1) c3) _ R ∧ More w.heap.size F (fun k => F k ∨ Value.ownBlock (.slice a3 (on + 1) c3) = some k) ∧ Touch F w (W6.setCell ⟨x, 1, none⟩ (.slice a3 (on + 1) c3)) from ⟨hset, ⟨fun k hk => .inl hk, fun k hk => hk.imp id (fun e => (ho k e).elim (HOW.out k) (fun e => Nat.le_trans HB.out.size e))⟩, (Touch.of_below hb6).trans htx (fun k _ hk => by rw [hk]; exact HH.out.fx)⟩)
      clear hcon hrun hrow ht ho hb6 H6 hset htx c1 hlt6
      try rw [HMX.out]
      go_wp2_with (first | (at_builtin; refine append_stepW rfl _ _ 74 rfl _ _ _ _ rfl rfl HRUN.out ?_) | fail)
      go_end0
      obtain ⟨q1, q2, q3⟩ := HEND.out
      exact ⟨rfl, _, _, _, q1, q2, q3⟩

end Go.Proofs.YtbgnbaogclnpgaaGreat

namespace Go.Proofs.YtbgnbaogclnpgaaGreat
open Go.RowKit
set_option linter.unusedVariables false

theorem cells7e {W : World} {g : Nat} {e : TypeId} {t : Tup} {s : Value} (h : Lit W g e (tupC t s)) : W.cell? ⟨g, 0, none⟩ = some (.int .i64 t.no) ∧ W.cell? ⟨g, 1, none⟩ = some (.int .i64 t.id) ∧ W.cell? ⟨g, 2, none⟩ = some (.int .i64 t.mn) ∧ W.cell? ⟨g, 3, none⟩ = some (.int .i64 t.cm) ∧ W.cell? ⟨g, 4, none⟩ = some (.int .i64 t.mx) ∧ W.cell? ⟨g, 5, none⟩ = some (.int .i64 t.cx) ∧ W.cell? ⟨g, 6, none⟩ = some s ∧ g < W.heap.size :=
  ⟨h.cell rfl, h.cell rfl, h.cell rfl, h.cell rfl, h.cell rfl, h.cell rfl, h.cell rfl, h.lt⟩

set_option maxRecDepth 100000 in
set_option maxHeartbeats 8000000 in
theorem rat_is (w : World) (x : Nat) (A : Ab) (z : Nat) (F : Nat → Prop) (ls gs : Value) (gl : List Gvn) (R : Nat → Prop) (y : Int) (hz : A.pl.length ≤ 50000) (hok : A.Ok) (H : Rf w x A z F ls gs gl R) :
    Calls Tryz.prog 45 #[.pointer (some ⟨x, 0, none⟩), .int .i64 y] w fun e w' => ∃ a c, e = .returned (.tuple #[tupV (A.atT y) (.slice a (A.atT y).row.length c), .bool (A.atB y)]) ∧ Below w.heap.size w w' := by
  obtain ⟨W1, hW1⟩ : ∃ W1, w.alloc (.cells #[.int .i64 0, .int .i64 0, .int .i64 0, .int .i64 0, .int .i64 0, .int .i64 0, .slice none 0 0] 87) = W1 := ⟨_, rfl⟩
  obtain ⟨g, hg⟩ : ∃ g, w.heap.size = g := ⟨_, rfl⟩
  have hb1 : Below w.heap.size w W1 := by rw [← hW1]; exact Below.allocs _ _
  have hg2 : Lit W1 g 87 [.int .i64 0, .int .i64 0, .int .i64 0, .int .i64 0, .int .i64 0, .int .i64 0, .slice none 0 0] := by rw [← hW1, ← hg]; exact Lit.new w _ _
  have hcon := rfind_is W1 x A z F ls gs gl R y (by omega) (H.below hb1)
  obtain ⟨d0, d1, d2, d3, d4, d5, d6, hgl2⟩ : W1.cell? ⟨g, 0, none⟩ = some (.int .i64 0) ∧ W1.cell? ⟨g, 1, none⟩ = some (.int .i64 0) ∧ W1.cell? ⟨g, 2, none⟩ = some (.int .i64 0) ∧ W1.cell? ⟨g, 3, none⟩ = some (.int .i64 0) ∧ W1.cell? ⟨g, 4, none⟩ = some (.int .i64 0) ∧ W1.cell? ⟨g, 5, none⟩ = some (.int .i64 0) ∧ W1.cell? ⟨g, 6, none⟩ = some (.slice none 0 0) ∧ g < W1.heap.size :=
    ⟨hg2.cell rfl, hg2.cell rfl, hg2.cell rfl, hg2.cell rfl, hg2.cell rfl, hg2.cell rfl, hg2.cell rfl, hg2.lt⟩
  have z0 := hg2.fz 0
  have z1 := hg2.fz 1
  have z2 := hg2.fz 2
  have z3 := hg2.fz 3
  have z4 := hg2.fz 4
  have z5 := hg2.fz 5
  have z6 := hg2.fz 6
  obtain ⟨la, lc, rfl, -, -⟩ := H.row.form
  obtain ⟨n, hn⟩ : ∃ n, (pls A).length = n := ⟨_, rfl⟩
  rw [hn] at H
  have HN := Lib.hid hn
  have HH := Lib.hid (H.below hb1)
  have HOK := Lib.hid hok
  have HB1 := Lib.hid hb1
  have HG2 := Lib.hid hg2
  have HW1 := Lib.hid hW1
  have HG := Lib.hid hg
  have hn9 : n ≤ 100000 := by rw [← hn, pls_len]; omega
  clear hb1 hg2 hW1 hg H hn hok hz
  go_enter Tryz.func45, Tryz.ntmps45
  go_upto_region 1 with (fail)
  rw [HW1.out, HG.out]
  clear HW1
  go_wp2_with fail
  refine (show Calls Tryz.prog _ _ _ _ from hcon).mono ?_
  rintro e w1 ⟨v, rfl, hv, rfl⟩
  clear hcon
  rcases hv with ⟨rfl, hnone⟩ | ⟨i, p, rfl, hp, hpy⟩
  · have HE : Hid (A.atT y = tup0 ∧ A.atB y = false) := Lib.hid (by unfold Ab.atT Ab.atB; rw [hnone]; exact ⟨rfl, rfl⟩)
    have he := lit_put7 HG2.out tup0 (.slice none 0 0)
    have HEND := Lib.hid (HB1.out.trans ((touch_put7 w1 g tup0 (.slice none 0 0)).below (fun k hk => by have := HG.out; omega) HB1.out.size))
    have HR := Lib.hid (cells7e he)
    unfold put7 at HEND HR
    clear he hnone
    go_wp2_with fail
    obtain ⟨r0, r1, r2, r3, r4, r5, r6, -⟩ := HR.out
    rw [HE.out.1, HE.out.2]
    unfold tup0 at r0 r1 r2 r3 r4 r5 r6 HEND
    exact bodyPost_ret (v := .tuple #[tupV tup0 (.slice none 0 0), .bool false]) (by simp [results, Tryz.results45, tupV, tup0, go_sem, r0, r1, r2, r3, r4, r5, r6]) rfl ⟨none, 0, rfl, HEND.out⟩
  · obtain ⟨k, e1, hmm⟩ := pls_mem (List.mem_of_getElem? hp)
    obtain ⟨h1, h2⟩ := atT_is HOK.out hmm
    rw [← e1, hpy] at h1 h2
    have HE := Lib.hid (And.intro h1 h2)
    obtain ⟨b, ra, rc, rfl, hbb, -, -, k0, k1, k2, k3, k4, k5, k6, k7⟩ := HH.out.row.at hp
    have hin : i < n := by rw [← HN.out]; exact (List.getElem?_eq_some_iff.1 hp).1
    have hinz : (i : Int) < (n : Int) := by omega
    have cx := HH.out.lit.cell (o := 0) rfl
    have hxl := HH.out.lit.lt
    obtain ⟨pn, hpn⟩ : ∃ pn, p.2.row.length = pn := ⟨_, rfl⟩
    rw [hpn] at k7
    have he := lit_put7 HG2.out p.2 (.slice ra pn rc)
    have HEND := Lib.hid (HB1.out.trans ((touch_put7 w1 g p.2 (.slice ra pn rc)).below (fun k hk => by have := HG.out; omega) HB1.out.size))
    have HR := Lib.hid (cells7e he)
    have HPN := Lib.hid hpn
    unfold put7 at HEND HR
    clear he hp hpy e1 hmm h1 h2 hin hpn
    go_wp2_with fail
    obtain ⟨r0, r1, r2, r3, r4, r5, r6, -⟩ := HR.out
    rw [HE.out.1, HE.out.2, HPN.out]
    exact bodyPost_ret (v := .tuple #[tupV p.2 (.slice ra pn rc), .bool true]) (by simp [results, Tryz.results45, tupV, go_sem, r0, r1, r2, r3, r4, r5, r6]) rfl ⟨ra, rc, rfl, HEND.out⟩

/-- Numbers of places that are asked for. -/
def pick (l : List Plc) (f : Plc → Option Int) : List Int := l.filterMap f
def slotF (u v : Int) (p : Plc) : Option Int := if p.2.no = u ∧ p.2.id = v then some p.1 else none
theorem pick_take {l : List Plc} {f : Plc → Option Int} {i : Nat} {p : Plc} (h : l[i]? = some p) : pick (l.take (i + 1)) f = pick (l.take i) f ++ (f p).toList := by
  unfold pick
  rw [List.take_add_one, h, List.filterMap_append]
  cases e : f p <;> simp [e]
theorem pick_slots (A : Ab) (u v : Int) : pick (pls A) (slotF u v) = natI (A.slots u v) := by
  unfold pick pls Ab.slots natI
  rw [List.filterMap_map, List.map_map, ← List.filterMap_eq_map, ← List.filterMap_eq_filter, List.filterMap_filterMap]
  refine filterMap_same fun p _ => ?_
  unfold slotF
  by_cases e : p.2.no = u ∧ p.2.id = v
  · simp [Option.guard, e]
  · simp [Option.guard, e]

set_option maxRecDepth 100000 in
set_option maxHeartbeats 8000000 in
theorem rslots_is (w : World) (x : Nat) (A : Ab) (z : Nat) (F : Nat → Prop) (ls gs : Value) (gl : List Gvn) (R : Nat → Prop) (u v : Int) (hz : A.pl.length ≤ 50000) (H : Rf w x A z F ls gs gl R) :
    Calls Tryz.prog 44 #[.pointer (some ⟨x, 0, none⟩), .int .i64 u, .int .i64 v] w fun e w' => ∃ s, e = .returned s ∧ RowI w' s (natI (A.slots u v)) ∧ Below w.heap.size w w' := by
  obtain ⟨la, lc, rfl, -, -⟩ := H.row.form
  obtain ⟨n, hn⟩ : ∃ n, (pls A).length = n := ⟨_, rfl⟩
  have hn9 : n ≤ 100000 := by rw [← hn, pls_len]; omega
  have HN := Lib.hid hn
  rw [hn] at H
  have HH := Lib.hid H
  clear H hn hz
  go_enter Tryz.func44, Tryz.ntmps44
  go_wp2_with fail
  go_loopg [7, 8] n (fun gg s7 s8 wr => ∃ (i : Nat) (oa : Option Addr) (on oc : Nat), s7 = .slice oa on oc ∧ s8 = .int .i64 i ∧ i ≤ n ∧ n - i ≤ gg ∧ Hid (Below w.heap.size w wr) ∧ Hid (RowI wr (.slice oa on oc) (pick ((pls A).take i) (slotF u v))) ∧ Hid ((pick ((pls A).take i) (slotF u v)).length = on) ∧ Hid (∀ k, Value.ownBlock (.slice oa on oc) = some k → w.heap.size ≤ k))
  case atStart => exact ⟨0, none, 0, 0, rfl, rfl, Nat.zero_le _, by omega, Lib.hid (Below.refl _ _), Lib.hid (RowF.nil _ _ _ _), Lib.hid rfl, Lib.hid (fun k hk => by cases hk)⟩
  case round =>
    obtain ⟨i, oa, on, oc, rfl, rfl, hi, hgg, HB, HR, HON, HOW⟩ := hrel
    have H2 := HH.out.below HB.out
    have cx := H2.lit.cell (o := 0) rfl
    have hxl := H2.lit.lt
    by_cases hlt : i < n
    · have hltz : (i : Int) < (n : Int) := by omega
      obtain ⟨p, hp⟩ : ∃ p, (pls A)[i]? = some p := ⟨(pls A)[i]'(by rw [HN.out]; exact hlt), by simp [HN.out, hlt]⟩
      obtain ⟨b, ra, rc, rfl, hb, -, -, k0, k1, k2, -⟩ := H2.row.at hp
      have HP := Lib.hid hp
      have HLT := Lib.hid (And.intro hlt (And.intro hi hgg))
      have HON9 : Hid (on ≤ 100000) := Lib.hid (by
        rw [← HON.out]
        refine Nat.le_trans (List.length_filterMap_le _ _) ?_
        rw [List.length_take]
        omega)
      clear hp hlt hi hgg H2
      by_cases h1 : p.2.no = u
      · by_cases h2 : p.2.id = v
        · have HF : Hid (slotF u v p = some p.1) := Lib.hid (by unfold slotF; rw [if_pos ⟨h1, h2⟩])
          rw [h1] at k1
          rw [h2] at k2
          obtain ⟨a3, c3, W6, hrun, hrow, ht, ho⟩ := row_snoc 49 49 Tryz.underlying49 HR.out p.1 (by rw [HON.out]; have := HON9.out; omega)
          rw [HON.out] at hrun hrow ho
          have HRUN := Lib.hid hrun
          have HE6 := Lib.hid (And.intro hrow (And.intro ht ho))
          clear hrun hrow ht ho h1 h2
          go_wp2_with (first | (at_builtin; refine append_stepW rfl _ _ 49 rfl _ _ _ _ rfl rfl HRUN.out ?_) | fail)
          go_roundg (n - (i + 1))
          case measure => have := HLT.out; omega
          case rel =>
            obtain ⟨hrow, ht, ho⟩ := HE6.out
            exact ⟨i + 1, a3, on + 1, c3, rfl, by go_num, by have := HLT.out; omega, Nat.le_refl _, Lib.hid (HB.out.trans (ht.below HOW.out HB.out.size)), Lib.hid (by rw [pick_take HP.out, HF.out]; exact hrow), Lib.hid (by rw [pick_take HP.out, HF.out, List.length_append, HON.out]; rfl), Lib.hid (fun k hk => (ho k hk).elim (HOW.out k) (fun e => Nat.le_trans HB.out.size e))⟩
        · have hne : (p.2.id == v) = false := by simpa using h2
          have HF : Hid (slotF u v p = none) := Lib.hid (by unfold slotF; rw [if_neg (fun h => h2 h.2)])
          rw [h1] at k1
          clear h1
          go_wp2_with fail
          go_roundg (n - (i + 1))
          case measure => have := HLT.out; omega
          case rel => exact ⟨i + 1, oa, on, oc, rfl, by go_num, by have := HLT.out; omega, Nat.le_refl _, HB, Lib.hid (by rw [pick_take HP.out, HF.out]; simpa using HR.out), Lib.hid (by rw [pick_take HP.out, HF.out]; simpa using HON.out), HOW⟩
      · have hne : (p.2.no == u) = false := by simpa using h1
        have HF : Hid (slotF u v p = none) := Lib.hid (by unfold slotF; rw [if_neg (fun h => h1 h.1)])
        go_wp2_with fail
        go_roundg (n - (i + 1))
        case measure => have := HLT.out; omega
        case rel => exact ⟨i + 1, oa, on, oc, rfl, by go_num, by have := HLT.out; omega, Nat.le_refl _, HB, Lib.hid (by rw [pick_take HP.out, HF.out]; simpa using HR.out), Lib.hid (by rw [pick_take HP.out, HF.out]; simpa using HON.out), HOW⟩
    · have hltz : ¬ (i : Int) < (n : Int) := by omega
      obtain rfl : n = i := by omega
      go_wp2_with fail
      go_ret
      have hfull : (pls A).take n = pls A := List.take_of_length_le (by rw [HN.out]; exact Nat.le_refl _)
      have := HR.out
      rw [hfull, pick_slots] at this
      exact ⟨_, rfl, this, HB.out⟩

end Go.Proofs.YtbgnbaogclnpgaaGreat

namespace Go.Proofs.YtbgnbaogclnpgaaGreat
open Go.RowKit
set_option linter.unusedVariables false

theorem drewN_belV (w : World) (n : Nat) : Below w.heap.size w (w.drewN n) := ⟨rfl, rfl, rfl, Nat.le_refl _, fun _ _ => rfl⟩

theorem two_bel {w wr : World} (h : Below w.heap.size w wr) (a : Nat) : Below w.heap.size w (wr.drewN a) := h.trans ((drewN_belV wr a).mono h.size)

/-- Numbers are appended that lie anywhere. -/
theorem RowI.app {W : World} {s : Value} {l m : List Int} {b off k : Nat} (h : RowI W s l) (hs : ∀ j x, m[j]? = some x → W.cell? ⟨b, off + j, none⟩ = some (.int .i64 x)) (hk : m.length = k) (c : Nat) (hn : l.length + k ≤ 1000000) :
    ∃ a' c' W6, (Builtin.append_ #[49, 49] 49 #[s, .slice (some ⟨b, off, none⟩) k c]).run Tryz.prog W = .ok (.slice a' (l.length + k) c') W6 ∧
      RowI W6 (.slice a' (l.length + k) c') (l ++ m) ∧ Touch (fun k => s.ownBlock = some k) W W6 ∧ (∀ k', Value.ownBlock (.slice a' (l.length + k) c') = some k' → s.ownBlock = some k' ∨ W.heap.size ≤ k') := by
  obtain ⟨i0, hi, hz, hsz, hby⟩ := info_parts info_i
  subst hk
  have hget : ∀ j, j < m.length → m[j]? = some (m.getD j 0) := fun j hj => by simp [hj]
  obtain ⟨s', W6, hrun, hrow, hg, hown⟩ := RowF.appendO (P := Tryz.prog) h 49 49 i0 _ 8 Tryz.underlying49 hi hz hsz hby rfl (by decide) (by decide) (b := b) (off := off) (k := m.length) (c := c) (q := fun j => [.int .i64 (m.getD j 0)])
    (fun j hj o v hv => by
      have ho : o = 0 := by have := (List.getElem?_eq_some_iff.1 hv).1; simp at this; omega
      subst ho
      simp only [List.getElem?_cons_zero, Option.some.injEq] at hv
      rw [← hv, Nat.mul_one, Nat.add_zero]
      exact hs j _ (hget j hj)) (fun _ _ => rfl) (fun j hj v hv => by simp at hv; subst hv; rfl) hn
  obtain ⟨a', c', rfl, _, _⟩ := hrow.form
  refine ⟨a', c', W6, hrun, ?_, Touch.grown hg (fun k hk => hk), fun k hk => ?_⟩
  · unfold RowI
    rw [List.length_append]
    refine hrow.congr fun j hj => ?_
    unfold numR
    by_cases hjn : j < l.length
    · simp only [if_pos hjn]
      simp [List.getElem?_append_left hjn, hjn]
    · simp only [if_neg hjn]
      simp [List.getElem?_append_right (Nat.le_of_not_lt hjn)]
  · rcases hown with e | e
    · exact .inl (e ▸ hk)
    · right
      rw [e] at hk
      have : W.heap.size = k := Option.some.inj hk
      omega
theorem RowI.app0 {W : World} {s : Value} {l : List Int} (h : RowI W s l) : (Builtin.append_ #[49, 49] 49 #[s, .slice none 0 0]).run Tryz.prog W = .ok s W := by
  obtain ⟨i0, hi, hz, hsz, hby⟩ := info_parts info_i
  exact RowF.append0 h 49 49 i0 Tryz.underlying49 hi
theorem RowI.empty (W : World) : RowI (W.alloc (.cells #[] 3)) (.slice (some ⟨W.heap.size, 0, none⟩) 0 0) [] :=
  ⟨⟨[], by
    have := World.ownsRow_made (base := 0) (e := 3) (size := 1) W #[] 0 (Nat.zero_le _) (Nat.zero_le _) (by simp)
    simpa using this, fun j hj => absurd hj (Nat.not_lt_zero j)⟩, fun j hj => absurd hj (Nat.not_lt_zero j)⟩

/-- One number more, in its place. -/
theorem ins_rise {m : List Int} {a : Nat} {v : Int} (hm : Rise m) (h1 : ∀ j x, j < a → m[j]? = some x → x < v) (h2 : ∀ x, m[a]? = some x → v < x) : Rise (m.take a ++ [v] ++ m.drop a) := by
  unfold Rise
  have hlt : ∀ x ∈ m.take a, x < v := fun x hx => by
    obtain ⟨j, hj, e⟩ := List.mem_iff_getElem.1 hx
    rw [List.length_take] at hj
    rw [List.getElem_take] at e
    exact h1 j x (by omega) (by rw [List.getElem?_eq_getElem (by omega), e])
  have hgt : ∀ x ∈ m.drop a, v < x := fun x hx => by
    obtain ⟨j, hj, e⟩ := List.mem_iff_getElem.1 hx
    rw [List.length_drop] at hj
    rw [List.getElem_drop] at e
    have h3 := h2 m[a] (List.getElem?_eq_getElem (by omega))
    by_cases ej : j = 0
    · subst ej; rw [← e]; exact h3
    · have := (List.pairwise_iff_getElem.1 hm) a (a + j) (by omega) (by omega) (by omega)
      omega
  rw [List.pairwise_append]
  refine ⟨?_, hm.sublist (List.drop_sublist _ _), fun x hx y hy => ?_⟩
  · rw [List.pairwise_append]
    refine ⟨hm.sublist (List.take_sublist _ _), by simp, fun x hx y hy => ?_⟩
    rw [List.mem_singleton.1 hy]
    exact hlt x hx
  · rcases List.mem_append.1 hx with hx | hx
    · have := hlt x hx; have := hgt y hy; omega
    · rw [List.mem_singleton.1 hx]; exact hgt y hy
theorem ins_mem {m l : List Int} {a i : Nat} {v : Int} (hm : ∀ y, y ∈ m ↔ y ∈ l.take i) (hv : l[i]? = some v) (y : Int) : y ∈ m.take a ++ [v] ++ m.drop a ↔ y ∈ l.take (i + 1) := by
  rw [List.take_add_one, hv]
  simp only [List.mem_append, List.mem_singleton, Option.toList_some]
  rw [← hm]
  constructor
  · rintro ((h | h) | h)
    · exact .inl (List.mem_of_mem_take h)
    · exact .inr h
    · exact .inl (List.mem_of_mem_drop h)
  · rintro (h | h)
    · rw [← List.take_append_drop a m] at h
      rcases List.mem_append.1 h with h | h
      · exact .inl (.inl h)
      · exact .inr h
    · exact .inl (.inr h)
theorem same_mem {m l : List Int} {i : Nat} {v : Int} (hm : ∀ y, y ∈ m ↔ y ∈ l.take i) (hv : l[i]? = some v) (hin : v ∈ m) (y : Int) : y ∈ m ↔ y ∈ l.take (i + 1) := by
  rw [List.take_add_one, hv]
  simp only [List.mem_append, List.mem_singleton, Option.toList_some]
  rw [← hm]
  exact ⟨.inl, fun h => h.elim id (fun h => by rw [h]; exact hin)⟩
theorem rowI_cell {W : World} {b n c j : Nat} {l : List Int} {x : Int} (h : RowI W (.slice (some ⟨b, 0, none⟩) n c) l) (hx : l[j]? = some x) : b < W.heap.size ∧ W.cell? ⟨b, j, none⟩ = some (.int .i64 x) := by
  obtain ⟨hi, e⟩ := List.getElem?_eq_some_iff.1 hx
  obtain ⟨b', c', e1, -, -, h3, h4, -⟩ := RowI.at h hi
  simp only [Value.slice.injEq] at e1
  obtain ⟨e2, -, -⟩ := e1
  cases e2
  refine ⟨h3, ?_⟩
  rw [h4 j hi]
  simp [hi, e]
theorem rowI_some {W : World} {a : Option Addr} {n c j : Nat} {l : List Int} {x : Int} (h : RowI W (.slice a n c) l) (hx : l[j]? = some x) : ∃ b, a = some ⟨b, 0, none⟩ := by
  obtain ⟨hi, e⟩ := List.getElem?_eq_some_iff.1 hx
  obtain ⟨b', c', e1, -, -, h3, h4, -⟩ := RowI.at h hi
  simp only [Value.slice.injEq] at e1
  exact ⟨b', e1.1⟩

set_option maxRecDepth 100000 in
set_option maxHeartbeats 8000000 in
theorem rise_is (w : World) (a0 : Option Addr) (c0 n : Nat) (l : List Int) (hn : l.length = n) (hz : n ≤ 50000) (h : RowI w (.slice a0 n c0) l) :
    Calls Tryz.prog 88 #[.slice a0 n c0] w fun e w' => ∃ s, e = .returned s ∧ ∃ m, RowI w' s m ∧ Rise m ∧ (∀ y, y ∈ m ↔ y ∈ l) ∧ Below w.heap.size w w' := by
  have HN := Lib.hid hn
  have HH := Lib.hid h
  clear hn h
  go_enter Tryz.func88, Tryz.ntmps88
  go_wp2_with fail
  go_loopg [3, 4] n (fun gg s3 s4 wr => ∃ (i : Nat) (m : List Int) (oa : Option Addr) (on oc : Nat), s3 = .slice oa on oc ∧ s4 = .int .i64 i ∧ i ≤ n ∧ n - i ≤ gg ∧ Hid (Below w.heap.size w wr) ∧ Hid (RowI wr (.slice oa on oc) m) ∧ Hid (m.length = on ∧ on ≤ i ∧ (on = 0 → oa = none ∧ oc = 0)) ∧ Hid (∀ k, Value.ownBlock (.slice oa on oc) = some k → w.heap.size ≤ k) ∧ Hid (Rise m ∧ ∀ y, y ∈ m ↔ y ∈ l.take i))
  case atStart => exact ⟨0, [], none, 0, 0, rfl, rfl, Nat.zero_le _, by omega, Lib.hid (Below.refl _ _), Lib.hid (RowF.nil _ _ _ _), Lib.hid ⟨rfl, Nat.le_refl _, fun _ => ⟨rfl, rfl⟩⟩, Lib.hid (fun k hk => by cases hk), Lib.hid ⟨List.Pairwise.nil, fun y => Iff.rfl⟩⟩
  case round =>
    obtain ⟨i, m, oa, on, oc, rfl, rfl, hi, hgg, HB, HR, HON, HOW, HM⟩ := hrel
    by_cases hlt : i < n
    · have hltz : (i : Int) < (n : Int) := by omega
      obtain ⟨v, hv⟩ : ∃ v, l[i]? = some v := ⟨l[i]'(by rw [HN.out]; exact hlt), by simp [HN.out, hlt]⟩
      obtain ⟨lb, rfl⟩ := rowI_some HH.out hv
      have HV := Lib.hid hv
      have HLT := Lib.hid (And.intro hlt (And.intro hi hgg))
      have hon9 : on ≤ 50000 := by have := HON.out.2.1; omega
      clear hv hlt hi hgg
      go_wp2_with fail
      go_loopg [5] on (fun gk s5 wq => ∃ a : Nat, s5 = .int .i64 a ∧ a ≤ on ∧ on - a ≤ gk ∧ Hid (Below wr.heap.size wr wq) ∧ Hid (∀ j x, j < a → m[j]? = some x → x < v))
      case atStart => exact ⟨0, rfl, Nat.zero_le _, by omega, Lib.hid (Below.refl _ _), Lib.hid (fun j x hj => absurd hj (Nat.not_lt_zero j))⟩
      case round =>
        obtain ⟨a, rfl, ha, hga, HBq, HLO⟩ := hrel
        obtain ⟨hlb, rv⟩ := rowI_cell (RowF.below HH.out (HB.out.trans (HBq.out.mono HB.out.size))) HV.out
        have HA := Lib.hid (And.intro ha hga)
        by_cases hao : a < on
        · have haz : (a : Int) < (on : Int) := by omega
          obtain ⟨x, hx⟩ : ∃ x, m[a]? = some x := ⟨m[a]'(by rw [HON.out.1]; exact hao), by simp [HON.out.1, hao]⟩
          obtain ⟨ob, rfl⟩ := rowI_some HR.out hx
          obtain ⟨hob, ro⟩ := rowI_cell (RowF.below HR.out HBq.out) hx
          have HX := Lib.hid hx
          have HAO := Lib.hid hao
          clear hx ha hga hao
          by_cases hxv : x < v
          · have HXV := Lib.hid hxv
            go_upto_region 6 with (fail)
            go_quiet (fail)
            go_wp2_with fail
            go_roundg (on - (a + 1))
            case measure => have := HAO.out; have := HA.out; omega
            case rel => exact ⟨a + 1, by go_num, HAO.out, Nat.le_refl _, Lib.hid (HBq.out.trans ((drewN_belV _ _).mono HBq.out.size)), Lib.hid (fun j y hj hy => by
              by_cases e : j = a
              · rw [e, HX.out] at hy; cases hy; exact HXV.out
              · exact HLO.out j y (by omega) hy)⟩
          · by_cases hxe : x = v
            · have HXE := Lib.hid hxe
              rw [hxe] at ro hxv
              clear hxe
              go_upto_region 6 with (fail)
              go_quiet (fail)
              go_wp2_with fail
              go_quiet (fail)
              go_wp2_with fail
              go_roundg (n - (i + 1))
              case measure => have := HLT.out; omega
              case rel =>
                exact ⟨i + 1, m, _, on, oc, rfl, by go_num, by have := HLT.out; omega, Nat.le_refl _, Lib.hid (HB.out.trans ((two_bel HBq.out _).mono HB.out.size)), Lib.hid (RowF.below HR.out (two_bel HBq.out _)), Lib.hid ⟨HON.out.1, by have := HON.out.2.1; omega, HON.out.2.2⟩, HOW, Lib.hid ⟨HM.out.1, same_mem HM.out.2 HV.out (by rw [← HXE.out]; exact List.mem_of_getElem? HX.out)⟩⟩
            · have hne : (x == v) = false := by simpa using hxe
              have HGT : Hid (∀ y, m[a]? = some y → v < y) := Lib.hid (fun y hy => by rw [HX.out] at hy; cases hy; omega)
              have hxv2 : ¬ x = v := hxe
              go_upto_region 6 with (fail)
              go_quiet (fail)
              go_upto_region 8 with (fail)
              go_cut [44] (fun sx wx => sx = .bool false ∧ Hid (Below wr.heap.size wr wx))
              case first =>
                go_quiet (fail)
                go_wp2_with fail
                go_meet
                exact ⟨rfl, Lib.hid (by first | exact drewN_belV _ _ | exact (drewN_belV _ _).trans ((drewN_belV _ _).mono (drewN_belV _ _).size))⟩
              case rest =>
                obtain ⟨rfl, HBc⟩ := hcut
                have HBC := Lib.hid (HBq.out.trans (HBc.out.mono HBq.out.size))
                have HBW := Lib.hid (HB.out.trans (HBC.out.mono HB.out.size))
                have HRc := Lib.hid (RowF.below HR.out HBC.out)
                have HVc := Lib.hid (rowI_cell (RowF.below HH.out HBW.out) HV.out)
                have hcell : ∀ W, Below wc.heap.size wc W → ∀ j y, m[j]? = some y → W.cell? ⟨ob, j, none⟩ = some (.int .i64 y) := fun W hb j y hy => (rowI_cell (RowF.below HRc.out hb) hy).2
                have htl : (m.take a).length = a := by rw [List.length_take, HON.out.1]; have := HA.out.1; omega
                have hdl : (m.drop a).length = on - a := by rw [List.length_drop, HON.out.1]
                have b1 := Below.allocs wc (.cells #[] 3)
                obtain ⟨p1, c1, W2, hr1, hw1, ht1, ho1⟩ := RowI.app (RowI.empty wc) (m := m.take a) (b := ob) (off := 0) (fun j y hy => by
                  rw [Nat.zero_add]
                  rw [List.getElem?_take] at hy
                  split at hy
                  · exact hcell _ b1 j y hy
                  · cases hy) htl oc (by simp; have := HA.out.1; omega)
                simp only [List.length_nil, Nat.zero_add, List.nil_append] at hr1 hw1 ho1
                have b2 : Below wc.heap.size wc W2 := b1.trans (ht1.below (fun k hk => by have : wc.heap.size = k := Option.some.inj hk; omega) b1.size)
                have hn1 : ∀ k, Value.ownBlock (.slice p1 a c1) = some k → wc.heap.size ≤ k := fun k hk => by
                  rcases ho1 k hk with e | e
                  · have : wc.heap.size = k := Option.some.inj e
                    omega
                  · have := b1.size; omega
                obtain ⟨p2, c2, W4, hr2, hw2, ht2, ho2⟩ := row_snoc 49 49 Tryz.underlying49 hw1 v (by rw [htl]; have := HA.out.1; omega)
                simp only [htl] at hr2 hw2 ho2
                have b4 : Below wc.heap.size wc W4 := b2.trans (ht2.below hn1 b2.size)
                have hn2 : ∀ k, Value.ownBlock (.slice p2 (a + 1) c2) = some k → wc.heap.size ≤ k := fun k hk => (ho2 k hk).elim (hn1 k) (fun e => Nat.le_trans b2.size e)
                have hl2 : (m.take a ++ [v]).length = a + 1 := by rw [List.length_append, htl]; rfl
                obtain ⟨p3, c3, W5, hr3, hw3, ht3, ho3⟩ := RowI.app (l := m.take a ++ [v]) (s := .slice p2 (a + 1) c2) hw2 (m := m.drop a) (b := ob) (off := a) (fun j y hy => by
                  rw [List.getElem?_drop] at hy
                  exact hcell _ b4 _ y hy) hdl (oc - a) (by rw [hl2]; have := HA.out.1; omega)
                rw [hl2] at hr3 hw3 ho3
                have b5 : Below wc.heap.size wc W5 := b4.trans (ht3.below hn2 b4.size)
                have hwv : W2.cell? ⟨lb, i, none⟩ = some (.int .i64 v) := by rw [b2.cell (p := ⟨lb, i, none⟩) HVc.out.1]; exact HVc.out.2
                have hlb2 := Nat.lt_of_lt_of_le HVc.out.1 b2.size
                have HEND := Lib.hid (show RowI W5 (.slice p3 (a + 1 + (on - a)) c3) (m.take a ++ [v] ++ m.drop a) ∧ (∀ k, Value.ownBlock (.slice p3 (a + 1 + (on - a)) c3) = some k → w.heap.size ≤ k) ∧ Below w.heap.size w W5 from ⟨hw3, fun k hk => by
                  have e0 : w.heap.size ≤ wc.heap.size := HBW.out.size
                  rcases ho3 k hk with e | e
                  · exact Nat.le_trans e0 (hn2 k e)
                  · have := b4.size; omega, HBW.out.trans (b5.mono HBW.out.size)⟩)
                have HR1 := Lib.hid hr1
                have HR2 := Lib.hid hr2
                have HR3 := Lib.hid hr3
                have haon := HA.out.1
                have hoc : on ≤ oc := by obtain ⟨a9, c9, e9, h9, -⟩ := HRc.out.form; simp only [Value.slice.injEq] at e9; obtain ⟨-, e8, e7⟩ := e9; omega
                clear hcell htl hdl b1 hr1 hw1 ht1 ho1 b2 hn1 hr2 hw2 ht2 ho2 b4 hn2 hl2 hr3 hw3 ht3 ho3 b5
                obtain ⟨-, hwc⟩ := HVc.out
                go_upto_region 10 with (first | (at_builtin; refine append_stepW rfl _ _ 49 rfl _ _ _ _ rfl rfl HR1.out ?_) | fail)
                clear hwc
                go_upto_region 11 with (first | (at_builtin; refine append_stepW rfl _ _ 49 rfl _ _ _ _ rfl rfl HR2.out ?_) | fail)
                go_wp2_with (first | (at_builtin; refine append_stepW rfl _ _ 49 rfl _ _ _ _ rfl rfl HR3.out ?_) | fail)
                go_roundg (n - (i + 1))
                case measure => have := HLT.out; omega
                case rel =>
                  obtain ⟨e1, e2, e3⟩ := HEND.out
                  have e4 := HA.out.1
                  have e5 := HON.out
                  exact ⟨i + 1, m.take a ++ [v] ++ m.drop a, p3, a + 1 + (on - a), c3, rfl, by go_num, by have := HLT.out; omega, Nat.le_refl _, Lib.hid e3, Lib.hid e1, Lib.hid ⟨by simp only [List.length_append, List.length_take, List.length_drop, List.length_singleton]; omega, by omega, fun h => by omega⟩, Lib.hid e2, Lib.hid ⟨ins_rise HM.out.1 HLO.out HGT.out, ins_mem HM.out.2 HV.out⟩⟩
        · have hae : a = on := by omega
          have haz : ¬ (a : Int) < (on : Int) := by omega
          have HGT : Hid (∀ y, m[a]? = some y → v < y) := Lib.hid (fun y hy => by have h1 := (List.getElem?_eq_some_iff.1 hy).1; have h2 := HON.out.1; omega)
          by_cases h0 : on = 0
          · subst h0
            obtain ⟨rfl, rfl⟩ := HON.out.2.2 rfl
            subst hae
            go_upto_region 6 with (fail)
            go_quiet (fail)
            go_upto_region 8 with (fail)
            go_cut [44] (fun sx wx => sx = .bool false ∧ Hid (Below wr.heap.size wr wx))
            case first =>
              go_quiet (fail)
              go_wp2_with fail
              go_meet
              exact ⟨rfl, Lib.hid (by first | exact drewN_belV _ _ | exact (drewN_belV _ _).trans ((drewN_belV _ _).mono (drewN_belV _ _).size))⟩
            case rest =>
              obtain ⟨rfl, HBc⟩ := hcut
              have HBC := Lib.hid (HBq.out.trans (HBc.out.mono HBq.out.size))
              have HBW := Lib.hid (HB.out.trans (HBC.out.mono HB.out.size))
              have HVc := Lib.hid (rowI_cell (RowF.below HH.out HBW.out) HV.out)
              have hm0 : m = [] := List.length_eq_zero_iff.1 HON.out.1
              have b1 := Below.allocs wc (.cells #[] 3)
              have hr1 := (RowI.empty wc).app0
              have hwv : (wc.alloc (.cells #[] 3)).cell? ⟨lb, i, none⟩ = some (.int .i64 v) := by rw [b1.cell (p := ⟨lb, i, none⟩) HVc.out.1]; exact HVc.out.2
              have hlb2 := Nat.lt_of_lt_of_le HVc.out.1 b1.size
              obtain ⟨W2, hW2⟩ : ∃ W2, wc.alloc (.cells #[] 3) = W2 := ⟨_, rfl⟩
              obtain ⟨g2, hg2⟩ : ∃ g2, wc.heap.size = g2 := ⟨_, rfl⟩
              have hrow2 := RowI.empty wc
              rw [hW2, hg2] at hrow2
              rw [hW2] at hwv hlb2 b1
              obtain ⟨p2, c2, W4, hr2, hw2, ht2, ho2⟩ := row_snoc 49 49 Tryz.underlying49 hrow2 v (by simp)
              simp only [List.length_nil, Nat.zero_add, List.nil_append] at hr2 hw2 ho2
              have b4 : Below wc.heap.size wc W4 := b1.trans (ht2.below (fun k hk => by have : g2 = k := Option.some.inj hk; omega) b1.size)
              have hr3 := RowI.app0 hw2
              have HEND := Lib.hid (show RowI W4 (.slice p2 1 c2) [v] ∧ (∀ k, Value.ownBlock (.slice p2 1 c2) = some k → w.heap.size ≤ k) ∧ Below w.heap.size w W4 from ⟨hw2, fun k hk => by
                have e0 : w.heap.size ≤ wc.heap.size := HBW.out.size
                rcases ho2 k hk with e | e
                · have : g2 = k := Option.some.inj e
                  omega
                · have := b1.size; omega, HBW.out.trans (b4.mono HBW.out.size)⟩)
              have HR1 := Lib.hid hr1
              have HR2 := Lib.hid hr2
              have HR3 := Lib.hid hr3
              have HW2 := Lib.hid hW2
              have HG2 := Lib.hid hg2
              have HM0 := Lib.hid hm0
              clear b1 hr1 hr2 hw2 ht2 ho2 b4 hr3 hW2 hg2 hrow2 hm0
              obtain ⟨-, hwc⟩ := HVc.out
              go_upto_region 10 with (first | (at_builtin; refine append_stepW rfl _ _ 49 rfl _ _ _ _ rfl rfl HR1.out ?_) | fail)
              rw [HW2.out, HG2.out]
              clear hwc
              go_upto_region 11 with (first | (at_builtin; refine append_stepW rfl _ _ 49 rfl _ _ _ _ rfl rfl HR2.out ?_) | fail)
              go_wp2_with (first | (at_builtin; refine append_stepW rfl _ _ 49 rfl _ _ _ _ rfl rfl HR3.out ?_) | fail)
              go_roundg (n - (i + 1))
              case measure => have := HLT.out; omega
              case rel =>
                obtain ⟨e1, e2, e3⟩ := HEND.out
                have hm := HM.out
                rw [HM0.out] at hm
                exact ⟨i + 1, [v], p2, 1, c2, rfl, by go_num, by have := HLT.out; omega, Nat.le_refl _, Lib.hid e3, Lib.hid e1, Lib.hid ⟨rfl, by omega, fun h => by omega⟩, Lib.hid e2, Lib.hid ⟨List.pairwise_singleton _ _, fun y => by
                  have := ins_mem (a := 0) hm.2 HV.out y
                  simpa using this⟩⟩
          · obtain ⟨x0, hx0⟩ : ∃ x0, m[0]? = some x0 := ⟨m[0]'(by rw [HON.out.1]; omega), List.getElem?_eq_getElem _⟩
            obtain ⟨ob, rfl⟩ := rowI_some HR.out hx0
            clear hx0
            subst hae
            have HX9 := Lib.hid h0
            clear h0 haz
            by_cases hca : oc = a
            · subst hca
              go_upto_region 6 with (fail)
              go_quiet (fail)
              go_upto_region 8 with (fail)
              go_cut [44] (fun sx wx => sx = .bool false ∧ Hid (Below wr.heap.size wr wx))
              case first =>
                go_quiet (fail)
                go_wp2_with fail
                go_meet
                exact ⟨rfl, Lib.hid (by first | exact drewN_belV _ _ | exact (drewN_belV _ _).trans ((drewN_belV _ _).mono (drewN_belV _ _).size))⟩
              case rest =>
                obtain ⟨rfl, HBc⟩ := hcut
                have HBC := Lib.hid (HBq.out.trans (HBc.out.mono HBq.out.size))
                have HBW := Lib.hid (HB.out.trans (HBC.out.mono HB.out.size))
                have HRc := Lib.hid (RowF.below HR.out HBC.out)
                have HVc := Lib.hid (rowI_cell (RowF.below HH.out HBW.out) HV.out)
                have hcell : ∀ W, Below wc.heap.size wc W → ∀ j y, m[j]? = some y → W.cell? ⟨ob, j, none⟩ = some (.int .i64 y) := fun W hb j y hy => (rowI_cell (RowF.below HRc.out hb) hy).2
                have htl : (m.take oc).length = oc := by rw [List.length_take, HON.out.1]; have := HA.out.1; omega
                have hdl : (m.drop oc).length = 0 := by rw [List.length_drop, HON.out.1]; omega
                have b1 := Below.allocs wc (.cells #[] 3)
                obtain ⟨p1, c1, W2, hr1, hw1, ht1, ho1⟩ := RowI.app (RowI.empty wc) (m := m.take oc) (b := ob) (off := 0) (fun j y hy => by
                  rw [Nat.zero_add]
                  rw [List.getElem?_take] at hy
                  split at hy
                  · exact hcell _ b1 j y hy
                  · cases hy) htl oc (by simp; have := HA.out.1; omega)
                simp only [List.length_nil, Nat.zero_add, List.nil_append] at hr1 hw1 ho1
                have b2 : Below wc.heap.size wc W2 := b1.trans (ht1.below (fun k hk => by have : wc.heap.size = k := Option.some.inj hk; omega) b1.size)
                have hn1 : ∀ k, Value.ownBlock (.slice p1 oc c1) = some k → wc.heap.size ≤ k := fun k hk => by
                  rcases ho1 k hk with e | e
                  · have : wc.heap.size = k := Option.some.inj e
                    omega
                  · have := b1.size; omega
                obtain ⟨p2, c2, W4, hr2, hw2, ht2, ho2⟩ := row_snoc 49 49 Tryz.underlying49 hw1 v (by rw [htl]; have := HA.out.1; omega)
                simp only [htl] at hr2 hw2 ho2
                have b4 : Below wc.heap.size wc W4 := b2.trans (ht2.below hn1 b2.size)
                have hn2 : ∀ k, Value.ownBlock (.slice p2 (oc + 1) c2) = some k → wc.heap.size ≤ k := fun k hk => (ho2 k hk).elim (hn1 k) (fun e => Nat.le_trans b2.size e)
                have hl2 : (m.take oc ++ [v]).length = oc + 1 := by rw [List.length_append, htl]; rfl
                obtain ⟨p3, c3, W5, hr3, hw3, ht3, ho3⟩ := RowI.app (l := m.take oc ++ [v]) (s := .slice p2 (oc + 1) c2) hw2 (m := m.drop oc) (b := ob) (off := 0) (fun j y hy => by
                  have h1 := (List.getElem?_eq_some_iff.1 hy).1
                  rw [hdl] at h1
                  omega) hdl 0 (by rw [hl2]; have := HA.out.1; omega)
                rw [hl2] at hr3 hw3 ho3
                simp only [Nat.add_zero] at hr3 hw3 ho3
                have b5 : Below wc.heap.size wc W5 := b4.trans (ht3.below hn2 b4.size)
                have hwv : W2.cell? ⟨lb, i, none⟩ = some (.int .i64 v) := by rw [b2.cell (p := ⟨lb, i, none⟩) HVc.out.1]; exact HVc.out.2
                have hlb2 := Nat.lt_of_lt_of_le HVc.out.1 b2.size
                have HEND := Lib.hid (show RowI W5 (.slice p3 (oc + 1) c3) (m.take oc ++ [v] ++ m.drop oc) ∧ (∀ k, Value.ownBlock (.slice p3 (oc + 1) c3) = some k → w.heap.size ≤ k) ∧ Below w.heap.size w W5 from ⟨hw3, fun k hk => by
                  have e0 : w.heap.size ≤ wc.heap.size := HBW.out.size
                  rcases ho3 k hk with e | e
                  · exact Nat.le_trans e0 (hn2 k e)
                  · have := b4.size; omega, HBW.out.trans (b5.mono HBW.out.size)⟩)
                have HR1 := Lib.hid hr1
                have HR2 := Lib.hid hr2
                have HR3 := Lib.hid hr3
                have haon := HA.out.1
                have hoc : oc ≤ oc := by obtain ⟨a9, c9, e9, h9, -⟩ := HRc.out.form; simp only [Value.slice.injEq] at e9; obtain ⟨-, e8, e7⟩ := e9; omega
                clear hcell htl hdl b1 hr1 hw1 ht1 ho1 b2 hn1 hr2 hw2 ht2 ho2 b4 hn2 hl2 hr3 hw3 ht3 ho3 b5
                obtain ⟨-, hwc⟩ := HVc.out
                go_upto_region 10 with (first | (at_builtin; refine append_stepW rfl _ _ 49 rfl _ _ _ _ rfl rfl HR1.out ?_) | fail)
                clear hwc
                go_upto_region 11 with (first | (at_builtin; refine append_stepW rfl _ _ 49 rfl _ _ _ _ rfl rfl HR2.out ?_) | fail)
                go_wp2_with (first | (at_builtin; refine append_stepW rfl _ _ 49 rfl _ _ _ _ rfl rfl HR3.out ?_) | fail)
                go_roundg (n - (i + 1))
                case measure => have := HLT.out; omega
                case rel =>
                  obtain ⟨e1, e2, e3⟩ := HEND.out
                  have e4 := HA.out.1
                  have e5 := HON.out
                  exact ⟨i + 1, m.take oc ++ [v] ++ m.drop oc, p3, oc + 1, c3, rfl, by go_num, by have := HLT.out; omega, Nat.le_refl _, Lib.hid e3, Lib.hid e1, Lib.hid ⟨by simp only [List.length_append, List.length_take, List.length_drop, List.length_singleton]; omega, by omega, fun h => by omega⟩, Lib.hid e2, Lib.hid ⟨ins_rise HM.out.1 HLO.out HGT.out, ins_mem HM.out.2 HV.out⟩⟩
            · have HCA := Lib.hid hca
              go_upto_region 6 with (fail)
              go_quiet (fail)
              go_upto_region 8 with (fail)
              go_cut [44] (fun sx wx => sx = .bool false ∧ Hid (Below wr.heap.size wr wx))
              case first =>
                go_quiet (fail)
                go_wp2_with fail
                go_meet
                exact ⟨rfl, Lib.hid (by first | exact drewN_belV _ _ | exact (drewN_belV _ _).trans ((drewN_belV _ _).mono (drewN_belV _ _).size))⟩
              case rest =>
                obtain ⟨rfl, HBc⟩ := hcut
                have HBC := Lib.hid (HBq.out.trans (HBc.out.mono HBq.out.size))
                have HBW := Lib.hid (HB.out.trans (HBC.out.mono HB.out.size))
                have HRc := Lib.hid (RowF.below HR.out HBC.out)
                have HVc := Lib.hid (rowI_cell (RowF.below HH.out HBW.out) HV.out)
                have hcell : ∀ W, Below wc.heap.size wc W → ∀ j y, m[j]? = some y → W.cell? ⟨ob, j, none⟩ = some (.int .i64 y) := fun W hb j y hy => (rowI_cell (RowF.below HRc.out hb) hy).2
                have htl : (m.take a).length = a := by rw [List.length_take, HON.out.1]; have := HA.out.1; omega
                have hdl : (m.drop a).length = 0 := by rw [List.length_drop, HON.out.1]; omega
                have b1 := Below.allocs wc (.cells #[] 3)
                obtain ⟨p1, c1, W2, hr1, hw1, ht1, ho1⟩ := RowI.app (RowI.empty wc) (m := m.take a) (b := ob) (off := 0) (fun j y hy => by
                  rw [Nat.zero_add]
                  rw [List.getElem?_take] at hy
                  split at hy
                  · exact hcell _ b1 j y hy
                  · cases hy) htl oc (by simp; have := HA.out.1; omega)
                simp only [List.length_nil, Nat.zero_add, List.nil_append] at hr1 hw1 ho1
                have b2 : Below wc.heap.size wc W2 := b1.trans (ht1.below (fun k hk => by have : wc.heap.size = k := Option.some.inj hk; omega) b1.size)
                have hn1 : ∀ k, Value.ownBlock (.slice p1 a c1) = some k → wc.heap.size ≤ k := fun k hk => by
                  rcases ho1 k hk with e | e
                  · have : wc.heap.size = k := Option.some.inj e
                    omega
                  · have := b1.size; omega
                obtain ⟨p2, c2, W4, hr2, hw2, ht2, ho2⟩ := row_snoc 49 49 Tryz.underlying49 hw1 v (by rw [htl]; have := HA.out.1; omega)
                simp only [htl] at hr2 hw2 ho2
                have b4 : Below wc.heap.size wc W4 := b2.trans (ht2.below hn1 b2.size)
                have hn2 : ∀ k, Value.ownBlock (.slice p2 (a + 1) c2) = some k → wc.heap.size ≤ k := fun k hk => (ho2 k hk).elim (hn1 k) (fun e => Nat.le_trans b2.size e)
                have hl2 : (m.take a ++ [v]).length = a + 1 := by rw [List.length_append, htl]; rfl
                obtain ⟨p3, c3, W5, hr3, hw3, ht3, ho3⟩ := RowI.app (l := m.take a ++ [v]) (s := .slice p2 (a + 1) c2) hw2 (m := m.drop a) (b := ob) (off := a) (fun j y hy => by
                  rw [List.getElem?_drop] at hy
                  exact hcell _ b4 _ y hy) hdl (oc - a) (by rw [hl2]; have := HA.out.1; omega)
                rw [hl2] at hr3 hw3 ho3
                simp only [Nat.add_zero] at hr3 hw3 ho3
                have b5 : Below wc.heap.size wc W5 := b4.trans (ht3.below hn2 b4.size)
                have hwv : W2.cell? ⟨lb, i, none⟩ = some (.int .i64 v) := by rw [b2.cell (p := ⟨lb, i, none⟩) HVc.out.1]; exact HVc.out.2
                have hlb2 := Nat.lt_of_lt_of_le HVc.out.1 b2.size
                have HEND := Lib.hid (show RowI W5 (.slice p3 (a + 1) c3) (m.take a ++ [v] ++ m.drop a) ∧ (∀ k, Value.ownBlock (.slice p3 (a + 1) c3) = some k → w.heap.size ≤ k) ∧ Below w.heap.size w W5 from ⟨hw3, fun k hk => by
                  have e0 : w.heap.size ≤ wc.heap.size := HBW.out.size
                  rcases ho3 k hk with e | e
                  · exact Nat.le_trans e0 (hn2 k e)
                  · have := b4.size; omega, HBW.out.trans (b5.mono HBW.out.size)⟩)
                have HR1 := Lib.hid hr1
                have HR2 := Lib.hid hr2
                have HR3 := Lib.hid hr3
                have haon := HA.out.1
                have hoc : a ≤ oc := by obtain ⟨a9, c9, e9, h9, -⟩ := HRc.out.form; simp only [Value.slice.injEq] at e9; obtain ⟨-, e8, e7⟩ := e9; omega
                clear hcell htl hdl b1 hr1 hw1 ht1 ho1 b2 hn1 hr2 hw2 ht2 ho2 b4 hn2 hl2 hr3 hw3 ht3 ho3 b5
                obtain ⟨-, hwc⟩ := HVc.out
                go_upto_region 10 with (first | (at_builtin; refine append_stepW rfl _ _ 49 rfl _ _ _ _ rfl rfl HR1.out ?_) | fail)
                clear hwc
                go_upto_region 11 with (first | (at_builtin; refine append_stepW rfl _ _ 49 rfl _ _ _ _ rfl rfl HR2.out ?_) | fail)
                go_wp2_with (first | (at_builtin; refine append_stepW rfl _ _ 49 rfl _ _ _ _ rfl rfl HR3.out ?_) | fail)
                go_roundg (n - (i + 1))
                case measure => have := HLT.out; omega
                case rel =>
                  obtain ⟨e1, e2, e3⟩ := HEND.out
                  have e4 := HA.out.1
                  have e5 := HON.out
                  exact ⟨i + 1, m.take a ++ [v] ++ m.drop a, p3, a + 1, c3, rfl, by go_num, by have := HLT.out; omega, Nat.le_refl _, Lib.hid e3, Lib.hid e1, Lib.hid ⟨by simp only [List.length_append, List.length_take, List.length_drop, List.length_singleton]; omega, by omega, fun h => by omega⟩, Lib.hid e2, Lib.hid ⟨ins_rise HM.out.1 HLO.out HGT.out, ins_mem HM.out.2 HV.out⟩⟩
    · have hltz : ¬ (i : Int) < (n : Int) := by omega
      obtain rfl : n = i := by omega
      go_wp2_with fail
      go_ret
      have hm := HM.out
      rw [List.take_of_length_le (by rw [HN.out]; exact Nat.le_refl _)] at hm
      exact ⟨_, rfl, m, HR.out, hm.1, hm.2, HB.out⟩

end Go.Proofs.YtbgnbaogclnpgaaGreat

namespace Go.Proofs.YtbgnbaogclnpgaaGreat
open Go.RowKit
set_option linter.unusedVariables false

def idF (u : Int) (p : Plc) : Option Int := if p.2.no = u then some p.2.id else none
def noF (p : Plc) : Option Int := some p.2.no
theorem pick_ids {A : Ab} {u : Int} {m : List Int} (h : Rise m) (hm : ∀ y, y ∈ m ↔ y ∈ pick (pls A) (idF u)) : A.IsIDs u m := by
  refine ⟨h, fun y => (hm y).trans ?_⟩
  unfold pick pls
  rw [List.mem_filterMap]
  constructor
  · rintro ⟨p, hp, e⟩
    obtain ⟨q, hq, rfl⟩ := List.mem_map.1 hp
    unfold idF at e
    split at e
    · rename_i h1
      exact ⟨q, hq, h1, Option.some.inj e⟩
    · cases e
  · rintro ⟨q, hq, h1, h2⟩
    exact ⟨_, List.mem_map.2 ⟨q, hq, rfl⟩, by unfold idF; rw [if_pos h1]; exact congrArg some h2⟩
theorem pick_tabs {A : Ab} {m : List Int} (h : Rise m) (hm : ∀ y, y ∈ m ↔ y ∈ pick (pls A) noF) : A.IsTabs m := by
  refine ⟨h, fun y => (hm y).trans ?_⟩
  unfold pick pls
  rw [List.mem_filterMap]
  constructor
  · rintro ⟨p, hp, e⟩
    obtain ⟨q, hq, rfl⟩ := List.mem_map.1 hp
    exact ⟨q, hq, Option.some.inj e⟩
  · rintro ⟨q, hq, h1⟩
    exact ⟨_, List.mem_map.2 ⟨q, hq, rfl⟩, congrArg some h1⟩

set_option maxRecDepth 100000 in
set_option maxHeartbeats 8000000 in
theorem rids_is (w : World) (x : Nat) (A : Ab) (z : Nat) (F : Nat → Prop) (ls gs : Value) (gl : List Gvn) (R : Nat → Prop) (u : Int) (hz : A.pl.length ≤ 50000) (H : Rf w x A z F ls gs gl R) :
    Calls Tryz.prog 57 #[.pointer (some ⟨x, 0, none⟩), .int .i64 u] w fun e w' => ∃ s, e = .returned s ∧ ∃ m, RowI w' s m ∧ A.IsIDs u m ∧ Below w.heap.size w w' := by
  obtain ⟨la, lc, rfl, -, -⟩ := H.row.form
  obtain ⟨n, hn⟩ : ∃ n, (pls A).length = n := ⟨_, rfl⟩
  have hn9 : n ≤ 50000 := by rw [← hn, pls_len]; omega
  have HN := Lib.hid hn
  rw [hn] at H
  have HH := Lib.hid H
  clear H hn hz
  go_enter Tryz.func57, Tryz.ntmps57
  go_wp2_with fail
  go_loopg [5, 6] n (fun gg s7 s8 wr => ∃ (i : Nat) (oa : Option Addr) (on oc : Nat), s7 = .slice oa on oc ∧ s8 = .int .i64 i ∧ i ≤ n ∧ n - i ≤ gg ∧ Hid (Below w.heap.size w wr) ∧ Hid (RowI wr (.slice oa on oc) (pick ((pls A).take i) (idF u))) ∧ Hid ((pick ((pls A).take i) (idF u)).length = on) ∧ Hid (∀ k, Value.ownBlock (.slice oa on oc) = some k → w.heap.size ≤ k))
  case atStart => exact ⟨0, none, 0, 0, rfl, rfl, Nat.zero_le _, by omega, Lib.hid (Below.refl _ _), Lib.hid (RowF.nil _ _ _ _), Lib.hid rfl, Lib.hid (fun k hk => by cases hk)⟩
  case round =>
    obtain ⟨i, oa, on, oc, rfl, rfl, hi, hgg, HB, HR, HON, HOW⟩ := hrel
    have H2 := HH.out.below HB.out
    have cx := H2.lit.cell (o := 0) rfl
    have hxl := H2.lit.lt
    have HON9 : Hid (on ≤ 50000) := Lib.hid (by
      rw [← HON.out]
      refine Nat.le_trans (List.length_filterMap_le _ _) ?_
      rw [List.length_take]
      omega)
    by_cases hlt : i < n
    · have hltz : (i : Int) < (n : Int) := by omega
      obtain ⟨p, hp⟩ : ∃ p, (pls A)[i]? = some p := ⟨(pls A)[i]'(by rw [HN.out]; exact hlt), by simp [HN.out, hlt]⟩
      obtain ⟨b, ra, rc, rfl, hb, -, -, k0, k1, k2, -⟩ := H2.row.at hp
      have HP := Lib.hid hp
      have HLT := Lib.hid (And.intro hlt (And.intro hi hgg))
      clear hp hlt hi hgg H2
      by_cases h1 : p.2.no = u
      · have HF : Hid (idF u p = some p.2.id) := Lib.hid (by unfold idF; rw [if_pos h1])
        rw [h1] at k1
        obtain ⟨a3, c3, W6, hrun, hrow, ht, ho⟩ := row_snoc 49 49 Tryz.underlying49 HR.out p.2.id (by rw [HON.out]; have := HON9.out; omega)
        rw [HON.out] at hrun hrow ho
        have HRUN := Lib.hid hrun
        have HE6 := Lib.hid (And.intro hrow (And.intro ht ho))
        clear hrun hrow ht ho h1
        go_wp2_with (first | (at_builtin; refine append_stepW rfl _ _ 49 rfl _ _ _ _ rfl rfl HRUN.out ?_) | fail)
        go_roundg (n - (i + 1))
        case measure => have := HLT.out; omega
        case rel =>
          obtain ⟨hrow, ht, ho⟩ := HE6.out
          exact ⟨i + 1, a3, on + 1, c3, rfl, by go_num, by have := HLT.out; omega, Nat.le_refl _, Lib.hid (HB.out.trans (ht.below HOW.out HB.out.size)), Lib.hid (by rw [pick_take HP.out, HF.out]; exact hrow), Lib.hid (by rw [pick_take HP.out, HF.out, List.length_append, HON.out]; rfl), Lib.hid (fun k hk => (ho k hk).elim (HOW.out k) (fun e => Nat.le_trans HB.out.size e))⟩
      · have hne : (p.2.no == u) = false := by simpa using h1
        have HF : Hid (idF u p = none) := Lib.hid (by unfold idF; rw [if_neg h1])
        go_wp2_with fail
        go_roundg (n - (i + 1))
        case measure => have := HLT.out; omega
        case rel => exact ⟨i + 1, oa, on, oc, rfl, by go_num, by have := HLT.out; omega, Nat.le_refl _, HB, Lib.hid (by rw [pick_take HP.out, HF.out]; simpa using HR.out), Lib.hid (by rw [pick_take HP.out, HF.out]; simpa using HON.out), HOW⟩
    · have hltz : ¬ (i : Int) < (n : Int) := by omega
      obtain rfl : n = i := by omega
      have hfull : (pls A).take n = pls A := List.take_of_length_le (by rw [HN.out]; exact Nat.le_refl _)
      rw [hfull] at HR HON
      clear hfull hi hgg hlt H2
      have hcon := rise_is wr oa oc on _ HON.out HON9.out HR.out
      go_wp2_with fail
      refine (show Calls Tryz.prog _ _ _ _ from hcon).mono ?_
      rintro e w3 ⟨s, rfl, m, q1, q2, q3, q4⟩
      have HE := Lib.hid (And.intro q1 (And.intro q2 (And.intro q3 q4)))
      clear hcon q1 q2 q3 q4
      go_wp2_with fail
      go_ret
      obtain ⟨q1, q2, q3, q4⟩ := HE.out
      exact ⟨_, rfl, m, q1, pick_ids q2 q3, HB.out.trans (q4.mono HB.out.size)⟩

end Go.Proofs.YtbgnbaogclnpgaaGreat

namespace Go.Proofs.YtbgnbaogclnpgaaGreat
open Go.RowKit
set_option linter.unusedVariables false

theorem kl_lst (A : Ab) (x a c : Int) : (A.kl x a c).lst = A.lst := by unfold Ab.kl; split <;> rfl
theorem fe_lst (A : Ab) (x : Int) : (A.fe x).lst = A.lst := by unfold Ab.fe; split <;> rfl

theorem pls_one {A : Ab} (hok : A.Ok) {i j : Nat} {p q : Plc} (hp : (pls A)[i]? = some p) (hq : (pls A)[j]? = some q) (e : p.1 = q.1) : i = j := by
  have hnd : ((pls A).map Prod.fst).Nodup := by
    unfold pls
    rw [List.map_map]
    have : (Prod.fst ∘ fun p : Nat × Tup => ((p.1 : Int), p.2)) = (fun k : Nat => (k : Int)) ∘ Prod.fst := rfl
    rw [this, ← List.map_map]
    unfold List.Nodup
    rw [List.pairwise_map]
    exact List.Pairwise.imp (fun h e => h (by omega)) hok.nd
  obtain ⟨hi, e1⟩ := List.getElem?_eq_some_iff.1 hp
  obtain ⟨hj, e2⟩ := List.getElem?_eq_some_iff.1 hq
  rcases Nat.lt_trichotomy i j with h | h | h
  · have h5 := (List.pairwise_iff_getElem.1 hnd) i j (by simpa using hi) (by simpa using hj) h
    simp only [List.getElem_map, e1, e2] at h5
    exact absurd e h5
  · exact h
  · have h5 := (List.pairwise_iff_getElem.1 hnd) j i (by simpa using hj) (by simpa using hi) h
    simp only [List.getElem_map, e1, e2] at h5
    exact absurd e.symm h5

theorem kl_pls {A : Ab} (hok : A.Ok) {y a c : Int} {i : Nat} {p : Plc} (hp : (pls A)[i]? = some p) (hy : p.1 = y) : pls (A.kl y a c) = (pls A).set i (p.1, p.2.kill a c) := by
  have hs : ∀ s : Stp, s.kind = 1 → s.slot = y → s.a = a → s.b = c → pls (A.kl y a c) = (pls A).set i (p.1, p.2.kill a c) := fun s h1 h2 h3 h4 => by
    subst h2 h3 h4
    rw [← left_kill A s h1]
    have e : ∀ q, leftP s q = some (if q.1 = s.slot then (q.1, q.2.kill s.a s.b) else q) := fun q => by
      unfold leftP
      rw [if_neg (fun e => by omega)]
      by_cases e : q.1 = s.slot
      · rw [if_pos ⟨e, h1⟩, if_pos e]
      · rw [if_neg (fun h => e h.1), if_neg e]
    rw [show leftP s = fun q => some (if q.1 = s.slot then (q.1, q.2.kill s.a s.b) else q) from funext e, List.filterMap_eq_map']
    apply List.ext_getElem?
    intro j
    rw [List.getElem?_map, List.getElem?_set]
    cases hj : (pls A)[j]? with
    | none =>
      have hl := List.getElem?_eq_none_iff.1 hj
      by_cases e : i = j
      · subst e; rw [if_pos rfl, if_neg (by omega)]; rfl
      · rw [if_neg e]; rfl
    | some q =>
      have hl := (List.getElem?_eq_some_iff.1 hj).1
      by_cases e : i = j
      · subst e
        rw [hp] at hj
        cases hj
        rw [if_pos rfl, if_pos hl, Option.map_some, if_pos hy]
      · rw [if_neg e, Option.map_some, if_neg]
        intro h
        exact e (pls_one hok hp hj (by rw [hy, h]))
  exact hs ⟨1, tup0, y, a, c⟩ rfl rfl rfl rfl
theorem fe_pls {A : Ab} (hok : A.Ok) {y : Int} {i : Nat} {p : Plc} (hp : (pls A)[i]? = some p) (hy : p.1 = y) : pls (A.fe y) = (pls A).take i ++ (pls A).drop (i + 1) := by
  have hs : ∀ s : Stp, s.kind = 2 → s.slot = y → pls (A.fe y) = (pls A).take i ++ (pls A).drop (i + 1) := fun s h1 h2 => by
    subst h2
    rw [← left_free A s h1]
    obtain ⟨hi, e1⟩ := List.getElem?_eq_some_iff.1 hp
    conv => lhs; rw [← List.take_append_drop i (pls A), List.filterMap_append, List.drop_eq_getElem_cons hi, e1]
    have hne : ∀ (q : Plc) (j : Nat), (pls A)[j]? = some q → j ≠ i → leftP s q = some q := fun q j hj hji => by
      unfold leftP
      have : q.1 ≠ s.slot := fun e => hji (pls_one hok hj hp (by rw [e, hy]))
      rw [if_neg (fun h => this h.1), if_neg (fun h => this h.1)]
    have hz : leftP s p = none := by unfold leftP; rw [if_pos ⟨hy, h1⟩]
    rw [List.filterMap_cons_none hz, filterMap_some fun q hq => ?_, filterMap_some fun q hq => ?_]
    · obtain ⟨j, hj, e⟩ := List.mem_iff_getElem.1 hq
      rw [List.getElem_drop] at e
      exact hne q (i + 1 + j) (by rw [List.getElem?_eq_getElem (by rw [List.length_drop] at hj; omega), e]) (by omega)
    · obtain ⟨j, hj, e⟩ := List.mem_iff_getElem.1 hq
      rw [List.length_take] at hj
      rw [List.getElem_take] at e
      exact hne q j (by rw [List.getElem?_eq_getElem (by omega), e]) (by omega)
  exact hs ⟨2, tup0, y, 0, 0⟩ rfl rfl
theorem tupI_some {A : Ab} (hok : A.Ok) {y : Int} {i : Nat} {p : Plc} (hp : (pls A)[i]? = some p) (hy : p.1 = y) : A.tupI y ≠ none := fun h => tupI_none.1 h p (List.mem_of_getElem? hp) hy

section
variable {R : Nat → Prop} {W : World} {l : List Plc} {b n c i : Nat} {p : Plc}
/-- Max and CMax of a place are written. -/
theorem RowP.kill (h : RowP R W (.slice (some ⟨b, 0, none⟩) n c) l) (hp : l[i]? = some p) (a' c' : Int) :
    RowP R ((W.setCell ⟨b, i * 8 + 5, none⟩ (.int .i64 a')).setCell ⟨b, i * 8 + 6, none⟩ (.int .i64 c')) (.slice (some ⟨b, 0, none⟩) n c) (l.set i (p.1, p.2.kill a' c')) ∧ Touch (fun k => k = b) W ((W.setCell ⟨b, i * 8 + 5, none⟩ (.int .i64 a')).setCell ⟨b, i * 8 + 6, none⟩ (.int .i64 c')) := by
  obtain ⟨⟨rv, h1, h2⟩, h3⟩ := h
  obtain ⟨hi, e1⟩ := List.getElem?_eq_some_iff.1 hp
  have hrb : ¬ R b := h3 b rfl
  have t1 := Touch.setCell W (F := fun k => k = b) rfl (i * 8 + 5) (.int .i64 a')
  have t2 := Touch.setCell (W.setCell ⟨b, i * 8 + 5, none⟩ (.int .i64 a')) (F := fun k => k = b) rfl (i * 8 + 6) (.int .i64 c')
  have ht := t1.trans t2 (fun _ _ h => h)
  have hst := ht.stay (G := R) (fun k hk e => hrb (by rw [← e]; exact hk))
  have g := (h1.set (b := b) rfl hi (c := 5) (by omega) rfl (.int .i64 a')).set (b := b) rfl hi (c := 6) (by omega) rfl (.int .i64 c')
  have hgi : l.getD i pl0 = p := by simp [hi, e1]
  refine ⟨⟨⟨rv, ?_, fun j q hq => ?_⟩, h3⟩, ht⟩
  · rw [List.length_set]
    refine g.congr fun j hj => ?_
    unfold updR
    by_cases e : j = i
    · subst e
      rw [if_pos rfl, if_pos rfl, hgi]
      simp [hi, plC, Tup.kill]
    · rw [if_neg e, if_neg e]
      have : (l.set i (p.1, p.2.kill a' c')).getD j pl0 = l.getD j pl0 := by
        simp only [List.getD_eq_getElem?_getD, List.getElem?_set]
        rw [if_neg (fun h => e h.symm)]
      rw [this]
  · rw [List.getElem?_set] at hq
    by_cases e : i = j
    · subst e
      rw [if_pos rfl, if_pos hi] at hq
      cases hq
      obtain ⟨a2, c2, q1, q2, q3⟩ := h2 i p hp
      exact ⟨a2, c2, q1, q2.stay hst q3, q3⟩
    · rw [if_neg e] at hq
      obtain ⟨a2, c2, q1, q2, q3⟩ := h2 j q hq
      exact ⟨a2, c2, q1, q2.stay hst q3, q3⟩
end
/-- Only the places' row has changed. -/
theorem Rf.onRow {W W' : World} {x z b : Nat} {A A' : Ab} {F : Nat → Prop} {ls gs : Value} {gl : List Gvn} {R : Nat → Prop} (H : Rf W x A z F ls gs gl R) (hb : ls.ownBlock = some b) (hrow : RowP R W' ls (pls A')) (hlst : A'.lst = A.lst) (ht : Touch (fun k => k = b) W W') : Rf W' x A' z F ls gs gl R :=
  ⟨H.lit.stay (ht.stay (G := fun k => k = x) (fun k hk e => (H.fl b hb).2 (by rw [← e]; exact hk))) rfl, hrow, RowF.stay H.giv (ht.stay (G := fun k => k ≠ b) (fun k hk e => hk e)) (fun k hk e => (H.fg k hk).2.2.1 (by rw [e]; exact hb)), fun y => by rw [hlst]; exact H.most y, H.gz, H.fx, H.fl, H.fg, H.fr, fun k hk => Nat.lt_of_lt_of_le (H.lt k hk) ht.size⟩

set_option maxRecDepth 100000 in
set_option maxHeartbeats 8000000 in
theorem rkill_is (w : World) (x : Nat) (A : Ab) (z : Nat) (F : Nat → Prop) (ls gs : Value) (gl : List Gvn) (R : Nat → Prop) (y av cv : Int) (hz : A.pl.length ≤ 50000) (hok : A.Ok) (H : Rf w x A z F ls gs gl R) :
    Calls Tryz.prog 38 #[.pointer (some ⟨x, 0, none⟩), .int .i64 y, .int .i64 av, .int .i64 cv] w fun e w' => e = .returned (.int .i64 (A.atE y)) ∧ ∃ F' ls', Rf w' x (A.kl y av cv) z F' ls' gs gl R ∧ More w.heap.size F F' ∧ Touch F w w' := by
  have hcon := rfind_is w x A z F ls gs gl R y (by omega) H
  have HH := Lib.hid H
  have HOK := Lib.hid hok
  have HZ := Lib.hid hz
  clear H hok hz
  go_enter Tryz.func38, Tryz.ntmps38
  go_wp2_with fail
  refine (show Calls Tryz.prog _ _ _ _ from hcon).mono ?_
  rintro e w1 ⟨v, rfl, hv, rfl⟩
  clear hcon
  rcases hv with ⟨rfl, hnone⟩ | ⟨i, p, rfl, hp, hpy⟩
  · have HE : Hid (A.atE y = 1 ∧ A.kl y av cv = A) := Lib.hid (by unfold Ab.atE Ab.kl; rw [if_pos hnone, if_pos hnone]; exact ⟨rfl, rfl⟩)
    clear hnone
    go_wp2_with fail
    go_ret
    rw [HE.out.1, HE.out.2]
    first | exact ⟨rfl, F, ls, HH.out, More.refl _ _, Touch.refl _ _⟩ | exact ⟨rfl, F, ⟨ls, HH.out⟩, More.refl _ _, Touch.refl _ _⟩
  · have hsome := tupI_some HOK.out hp hpy
    have HE : Hid (A.atE y = 0 ∧ pls (A.kl y av cv) = (pls A).set i (p.1, p.2.kill av cv)) := Lib.hid ⟨by unfold Ab.atE; rw [if_neg hsome], kl_pls HOK.out hp hpy⟩
    obtain ⟨la, lc, rfl, hnl, -⟩ := HH.out.row.form
    obtain ⟨n, hn⟩ : ∃ n, (pls A).length = n := ⟨_, rfl⟩
    have H2 := HH.out
    rw [hn] at H2 hnl
    obtain ⟨lb, _, _, rfl, hlb, -⟩ := H2.row.at hp
    have hin : i < n := by rw [← hn]; exact (List.getElem?_eq_some_iff.1 hp).1
    have hn9 : n ≤ 50000 := by rw [← hn, pls_len]; exact HZ.out
    have cx := H2.lit.cell (o := 0) rfl
    have fzx := H2.lit.fz 0
    have hxl := H2.lit.lt
    have b1 := Below.allocs w1 (.cells #[] 123)
    have hRl : ∀ k, R k → k < w1.heap.size := fun k hk => H2.lt k (H2.fr k hk).1
    have hsrc := H2.row.src 0
    rw [List.drop_zero] at hsrc
    obtain ⟨a1, c1, W2, hrun, hrow, ht, ho⟩ := (RowP.empty w1 hRl).app (hsrc.below b1 hlb) hn lc 73 (fun k hk => Nat.lt_of_lt_of_le (hRl k hk) b1.size) (by simp; omega)
    simp only [List.length_nil, Nat.zero_add, List.nil_append, Nat.zero_mul] at hrun hrow ho
    have b2 : Below w1.heap.size w1 W2 := b1.trans (ht.below (fun k hk => by have : w1.heap.size = k := Option.some.inj hk; omega) b1.size)
    have ho1 : ∀ k, Value.ownBlock (.slice a1 n c1) = some k → w1.heap.size ≤ k := fun k hk => by
      rcases ho k hk with e | e
      · have : w1.heap.size = k := Option.some.inj e
        omega
      · have := b1.size; omega
    obtain ⟨b', ra', rc', ea, hb', -⟩ := hrow.at hp
    subst ea
    obtain ⟨h3, t3⟩ := (H2.below b2).setL (ls' := .slice (some ⟨b', 0, none⟩) n c1) (A' := A) (R' := R) hrow rfl (fun k hk hf => by have := ho1 k hk; have := H2.lt k hf; omega) (fun k hk => .inl hk)
    obtain ⟨W3, hW3⟩ : ∃ W3, W2.setCell ⟨x, 0, none⟩ (.slice (some ⟨b', 0, none⟩) n c1) = W3 := ⟨_, rfl⟩
    rw [hW3] at h3 t3
    obtain ⟨hk5, t5⟩ := h3.row.kill hp av cv
    obtain ⟨W4, hW4⟩ : ∃ W4, W3.setCell ⟨b', i * 8 + 5, none⟩ (.int .i64 av) = W4 := ⟨_, rfl⟩
    rw [hW4] at hk5 t5
    obtain ⟨W5, hW5⟩ : ∃ W5, W4.setCell ⟨b', i * 8 + 6, none⟩ (.int .i64 cv) = W5 := ⟨_, rfl⟩
    rw [hW5] at hk5 t5
    have h5 := h3.onRow (A' := A.kl y av cv) rfl (by rw [HE.out.2]; exact hk5) (kl_lst A y av cv) t5
    have hbw : w1.heap.size ≤ b' := ho1 b' rfl
    have hbx : b' ≠ x := fun e => by rw [e] at hbw; omega
    have HEND := Lib.hid (show Rf W5 x (A.kl y av cv) z _ (.slice (some ⟨b', 0, none⟩) n c1) gs gl R ∧ More w1.heap.size F (fun k => F k ∨ Value.ownBlock (.slice (some ⟨b', 0, none⟩) n c1) = some k ∨ R k) ∧ Touch F w1 W5 from ⟨h5, ⟨fun k hk => .inl hk, fun k hk => by
      rcases hk with hk | hk | hk
      · exact .inl hk
      · exact .inr (ho1 k hk)
      · exact .inl (H2.fr k hk).1⟩, ((Touch.of_below b2).trans t3 (fun k _ hk => by rw [hk]; exact H2.fx)).trans t5 (fun k hk1 hk => by omega)⟩)
    obtain ⟨_, _, _, eb, hb3, -, -, -, -, -, -, -, k5, k6, -⟩ := h3.row.at hp
    cases eb
    have cx3 := h3.lit.cell (o := 0) rfl
    have hx3 := h3.lit.lt
    have t4 := Touch.setCell W3 (F := fun k => k = b') rfl (i * 8 + 5) (.int .i64 av)
    rw [hW4] at t4
    have s4 := t4.stay (G := fun k => k = x) (fun k hk e => hbx (e.symm.trans hk))
    have cx4 : W4.cell? ⟨x, 0, none⟩ = some (.slice (some ⟨b', 0, none⟩) n c1) := by rw [s4.cell hx3 rfl]; exact cx3
    have hx4 := Nat.lt_of_lt_of_le hx3 t4.size
    have fz5 : W3.frozen? ⟨b', i * 8 + 5, none⟩ = false := by
      obtain ⟨⟨rv, q1, -⟩, -⟩ := h3.row
      obtain ⟨b9, c9, e9, -, -, -, -, hf⟩ := q1.at (j := i) (by rw [hn]; exact hin)
      cases e9
      exact hf _
    have c5 : W3.cell? ⟨b', i * 8 + 5, none⟩ = some (.int .i64 p.2.mx) := k5
    have hk4 : W4.cell? ⟨b', i * 8 + 6, none⟩ = some (.int .i64 p.2.cx) ∧ W4.frozen? ⟨b', i * 8 + 6, none⟩ = false := by
      obtain ⟨⟨rv, q1, q2⟩, -⟩ := h3.row
      have g := q1.set (b := b') rfl (j := i) (by rw [hn]; exact hin) (c := 5) (by omega) rfl (.int .i64 av)
      rw [hW4] at g
      obtain ⟨b9, c9, e9, -, -, -, hc, hf⟩ := g.at (j := i) (by rw [hn]; exact hin)
      cases e9
      refine ⟨?_, hf _⟩
      obtain ⟨hi2, e2⟩ := List.getElem?_eq_some_iff.1 hp
      have hgi : (pls A).getD i pl0 = p := by simp [hi2, e2]
      exact hc i (by rw [hn]; exact hin) 6 _ (by unfold updR; rw [if_pos rfl, hgi]; rfl)
    have c6 := hk4.1
    have fz6 := hk4.2
    have hb4 := Nat.lt_of_lt_of_le hb3 t4.size
    have cx2 := (H2.below b2).lit.cell (o := 0) rfl
    have fz2 := (H2.below b2).lit.fz 0
    have hx2 := (H2.below b2).lit.lt
    have hinz : (i : Int) < (n : Int) := by omega
    have HRUN := Lib.hid hrun
    have HW3 := Lib.hid hW3
    have HW4 := Lib.hid hW4
    have HW5 := Lib.hid hW5
    clear H2 b1 hRl hsrc hrun hrow ht ho b2 ho1 h3 t3 hk5 t5 h5 hW3 hW4 hW5 hk4 t4 s4 k5 k6 hp hpy hsome hn hin hnl
    go_upto_region 5 with (first | (at_builtin; refine append_stepW rfl _ _ 73 rfl _ _ _ _ rfl rfl HRUN.out ?_) | fail)
    rw [HW3.out]
    clear HW3 cx fzx hxl cx2 fz2 hx2 hlb
    go_upto_region 6 with (fail)
    rw [HW4.out]
    clear HW4 cx3 hx3 fz5 c5 hb3
    go_upto_region 7 with (fail)
    rw [HW5.out]
    clear HW5
    go_wp2_with fail
    go_ret
    obtain ⟨q1, q2, q3⟩ := HEND.out
    rw [HE.out.1]
    first | exact ⟨rfl, _, _, q1, q2, q3⟩ | exact ⟨rfl, _, ⟨_, q1⟩, q2, q3⟩

end Go.Proofs.YtbgnbaogclnpgaaGreat

namespace Go.Proofs.YtbgnbaogclnpgaaGreat
open Go.RowKit
set_option linter.unusedVariables false

set_option maxRecDepth 100000 in
set_option maxHeartbeats 8000000 in
theorem rfree_is (w : World) (x : Nat) (A : Ab) (z : Nat) (F : Nat → Prop) (ls gs : Value) (gl : List Gvn) (R : Nat → Prop) (y : Int) (hz : A.pl.length ≤ 50000) (hok : A.Ok) (H : Rf w x A z F ls gs gl R) :
    Calls Tryz.prog 39 #[.pointer (some ⟨x, 0, none⟩), .int .i64 y] w fun e w' => e = .returned (.int .i64 (A.atE y)) ∧ ∃ F' ls', Rf w' x (A.fe y) z F' ls' gs gl R ∧ More w.heap.size F F' ∧ Touch F w w' := by
  have hcon := rfind_is w x A z F ls gs gl R y (by omega) H
  have HH := Lib.hid H
  have HOK := Lib.hid hok
  have HZ := Lib.hid hz
  clear H hok hz
  go_enter Tryz.func39, Tryz.ntmps39
  go_wp2_with fail
  refine (show Calls Tryz.prog _ _ _ _ from hcon).mono ?_
  rintro e w1 ⟨v, rfl, hv, rfl⟩
  clear hcon
  rcases hv with ⟨rfl, hnone⟩ | ⟨i, p, rfl, hp, hpy⟩
  · have HE : Hid (A.atE y = 1 ∧ A.fe y = A) := Lib.hid (by unfold Ab.atE Ab.fe; rw [if_pos hnone, if_pos hnone]; exact ⟨rfl, rfl⟩)
    clear hnone
    go_wp2_with fail
    go_ret
    rw [HE.out.1, HE.out.2]
    first | exact ⟨rfl, F, ls, HH.out, More.refl _ _, Touch.refl _ _⟩ | exact ⟨rfl, F, ⟨ls, HH.out⟩, More.refl _ _, Touch.refl _ _⟩
  · have hsome := tupI_some HOK.out hp hpy
    have HE : Hid (A.atE y = 0 ∧ pls (A.fe y) = (pls A).take i ++ (pls A).drop (i + 1)) := Lib.hid ⟨by unfold Ab.atE; rw [if_neg hsome], fe_pls HOK.out hp hpy⟩
    obtain ⟨la, lc, rfl, hnl, -⟩ := HH.out.row.form
    obtain ⟨n, hn⟩ : ∃ n, (pls A).length = n := ⟨_, rfl⟩
    have H2 := HH.out
    rw [hn] at H2 hnl
    obtain ⟨lb, _, _, rfl, hlb, -⟩ := H2.row.at hp
    have hin : i < n := by rw [← hn]; exact (List.getElem?_eq_some_iff.1 hp).1
    have hn9 : n ≤ 50000 := by rw [← hn, pls_len]; exact HZ.out
    have cx := H2.lit.cell (o := 0) rfl
    have hxl := H2.lit.lt
    by_cases hca : lc = i + 1
    · subst hca
      obtain rfl : n = i + 1 := by omega
      clear hnl hin
      have b1 := Below.allocs w1 (.cells #[] 123)
      have hRl : ∀ k, R k → k < w1.heap.size := fun k hk => H2.lt k (H2.fr k hk).1
      have hsrc := (H2.row.src 0).take i
      rw [List.drop_zero] at hsrc
      have htl : ((pls A).take i).length = i := by rw [List.length_take, hn]; omega
      obtain ⟨a1, c1, W2, hrun, hrow, ht, ho⟩ := (RowP.empty w1 hRl).app (hsrc.below b1 hlb) htl (i + 1) 73 (fun k hk => Nat.lt_of_lt_of_le (hRl k hk) b1.size) (by simp; omega)
      simp only [List.length_nil, Nat.zero_add, List.nil_append, Nat.zero_mul] at hrun hrow ho
      have b2 : Below w1.heap.size w1 W2 := b1.trans (ht.below (fun k hk => by have : w1.heap.size = k := Option.some.inj hk; omega) b1.size)
      have ho1 : ∀ k, Value.ownBlock (.slice a1 i c1) = some k → w1.heap.size ≤ k := fun k hk => by
        rcases ho k hk with e | e
        · have : w1.heap.size = k := Option.some.inj e
          omega
        · have := b1.size; omega
      have H22 := H2.below b2
      have hdl : ((pls A).drop (i + 1)).length = 0 := by rw [List.length_drop, hn]; omega
      obtain ⟨a2, c2, W3, hrun2, hrow2, ht2, ho2⟩ := hrow.app (b := lb) (off := 0) (m := (pls A).drop (i + 1)) ⟨fun _ => .slice none 0 0, fun j q hq => by rw [List.drop_eq_nil_of_le (by rw [hn]; exact Nat.le_refl _)] at hq; simp at hq⟩ hdl 0 73 (fun k hk => Nat.lt_of_lt_of_le (hRl k hk) b2.size) (by rw [htl]; omega)
      rw [htl] at hrun2 hrow2 ho2
      simp only [Nat.add_zero] at hrun2 hrow2 ho2
      have b3 : Below w1.heap.size w1 W3 := b2.trans (ht2.below ho1 b2.size)
      have ho3 : ∀ k, Value.ownBlock (.slice a2 (i) c2) = some k → w1.heap.size ≤ k := fun k hk => by
        rcases ho2 k hk with e | e
        · exact ho1 k e
        · exact Nat.le_trans b2.size e
      have H23 := H2.below b3
      obtain ⟨h4, t4⟩ := H23.setL (ls' := .slice a2 (i) c2) (A' := A.fe y) (R' := R) (by rw [HE.out.2]; exact hrow2) (fe_lst A y) (fun k hk hf => by have := ho3 k hk; have := H2.lt k hf; omega) (fun k hk => .inl hk)
      have HEND := Lib.hid (show Rf (W3.setCell ⟨x, 0, none⟩ (.slice a2 (i) c2)) x (A.fe y) z _ (.slice a2 (i) c2) gs gl R ∧ More w1.heap.size F (fun k => F k ∨ Value.ownBlock (.slice a2 (i) c2) = some k ∨ R k) ∧ Touch F w1 (W3.setCell ⟨x, 0, none⟩ (.slice a2 (i) c2)) from ⟨h4, ⟨fun k hk => .inl hk, fun k hk => by
        rcases hk with hk | hk | hk
        · exact .inl hk
        · exact .inr (ho3 k hk)
        · exact .inl (H2.fr k hk).1⟩, (Touch.of_below b3).trans t4 (fun k _ hk => by rw [hk]; exact H2.fx)⟩)
      have cx2 := H22.lit.cell (o := 0) rfl
      have hx2 := H22.lit.lt
      have cx3 := H23.lit.cell (o := 0) rfl
      have fz3 := H23.lit.fz 0
      have hx3 := H23.lit.lt
      have hinz : (i : Int) < ((i + 1 : Nat) : Int) := by omega
      have HR1 := Lib.hid hrun
      have HR2 := Lib.hid hrun2
      clear H2 b1 hRl hsrc htl hrun hrow ht ho b2 ho1 H22 hdl hrun2 hrow2 ht2 ho2 b3 ho3 H23 h4 t4 hp hpy hsome hlb
      go_upto_region 5 with (first | (at_builtin; refine append_stepW rfl _ _ 73 rfl _ _ _ _ rfl rfl HR1.out ?_) | fail)
      clear cx hxl
      go_wp2_with (first | (at_builtin; refine append_stepW rfl _ _ 73 rfl _ _ _ _ rfl rfl HR2.out ?_) | fail)
      go_ret
      obtain ⟨q1, q2, q3⟩ := HEND.out
      rw [HE.out.1]
      first | exact ⟨rfl, _, _, q1, q2, q3⟩ | exact ⟨rfl, _, ⟨_, q1⟩, q2, q3⟩
    · have HCA := Lib.hid hca
      have b1 := Below.allocs w1 (.cells #[] 123)
      have hRl : ∀ k, R k → k < w1.heap.size := fun k hk => H2.lt k (H2.fr k hk).1
      have hsrc := (H2.row.src 0).take i
      rw [List.drop_zero] at hsrc
      have htl : ((pls A).take i).length = i := by rw [List.length_take, hn]; omega
      obtain ⟨a1, c1, W2, hrun, hrow, ht, ho⟩ := (RowP.empty w1 hRl).app (hsrc.below b1 hlb) htl lc 73 (fun k hk => Nat.lt_of_lt_of_le (hRl k hk) b1.size) (by simp; omega)
      simp only [List.length_nil, Nat.zero_add, List.nil_append, Nat.zero_mul] at hrun hrow ho
      have b2 : Below w1.heap.size w1 W2 := b1.trans (ht.below (fun k hk => by have : w1.heap.size = k := Option.some.inj hk; omega) b1.size)
      have ho1 : ∀ k, Value.ownBlock (.slice a1 i c1) = some k → w1.heap.size ≤ k := fun k hk => by
        rcases ho k hk with e | e
        · have : w1.heap.size = k := Option.some.inj e
          omega
        · have := b1.size; omega
      have H22 := H2.below b2
      have hdl : ((pls A).drop (i + 1)).length = n - (i + 1) := by rw [List.length_drop, hn]
      obtain ⟨a2, c2, W3, hrun2, hrow2, ht2, ho2⟩ := hrow.app (b := lb) (off := (i + 1) * 8) (m := (pls A).drop (i + 1)) ((H2.row.src (i + 1)).below b2 hlb) hdl (lc - (i + 1)) 73 (fun k hk => Nat.lt_of_lt_of_le (hRl k hk) b2.size) (by rw [htl]; omega)
      rw [htl] at hrun2 hrow2 ho2
      skip
      have b3 : Below w1.heap.size w1 W3 := b2.trans (ht2.below ho1 b2.size)
      have ho3 : ∀ k, Value.ownBlock (.slice a2 (i + (n - (i + 1))) c2) = some k → w1.heap.size ≤ k := fun k hk => by
        rcases ho2 k hk with e | e
        · exact ho1 k e
        · exact Nat.le_trans b2.size e
      have H23 := H2.below b3
      obtain ⟨h4, t4⟩ := H23.setL (ls' := .slice a2 (i + (n - (i + 1))) c2) (A' := A.fe y) (R' := R) (by rw [HE.out.2]; exact hrow2) (fe_lst A y) (fun k hk hf => by have := ho3 k hk; have := H2.lt k hf; omega) (fun k hk => .inl hk)
      have HEND := Lib.hid (show Rf (W3.setCell ⟨x, 0, none⟩ (.slice a2 (i + (n - (i + 1))) c2)) x (A.fe y) z _ (.slice a2 (i + (n - (i + 1))) c2) gs gl R ∧ More w1.heap.size F (fun k => F k ∨ Value.ownBlock (.slice a2 (i + (n - (i + 1))) c2) = some k ∨ R k) ∧ Touch F w1 (W3.setCell ⟨x, 0, none⟩ (.slice a2 (i + (n - (i + 1))) c2)) from ⟨h4, ⟨fun k hk => .inl hk, fun k hk => by
        rcases hk with hk | hk | hk
        · exact .inl hk
        · exact .inr (ho3 k hk)
        · exact .inl (H2.fr k hk).1⟩, (Touch.of_below b3).trans t4 (fun k _ hk => by rw [hk]; exact H2.fx)⟩)
      have cx2 := H22.lit.cell (o := 0) rfl
      have hx2 := H22.lit.lt
      have cx3 := H23.lit.cell (o := 0) rfl
      have fz3 := H23.lit.fz 0
      have hx3 := H23.lit.lt
      have hinz : (i : Int) < (n : Int) := by omega
      have HR1 := Lib.hid hrun
      have HR2 := Lib.hid hrun2
      clear H2 b1 hRl hsrc htl hrun hrow ht ho b2 ho1 H22 hdl hrun2 hrow2 ht2 ho2 b3 ho3 H23 h4 t4 hp hpy hsome hlb
      go_upto_region 5 with (first | (at_builtin; refine append_stepW rfl _ _ 73 rfl _ _ _ _ rfl rfl HR1.out ?_) | fail)
      clear cx hxl
      go_wp2_with (first | (at_builtin; refine append_stepW rfl _ _ 73 rfl _ _ _ _ rfl rfl HR2.out ?_) | fail)
      go_ret
      obtain ⟨q1, q2, q3⟩ := HEND.out
      rw [HE.out.1]
      first | exact ⟨rfl, _, _, q1, q2, q3⟩ | exact ⟨rfl, _, ⟨_, q1⟩, q2, q3⟩

end Go.Proofs.YtbgnbaogclnpgaaGreat

namespace Go.Proofs.YtbgnbaogclnpgaaGreat

namespace RX
section
variable {P : Program} {md : Region.Mode} {ops : Array Oper} {Q : Exit → Act → World → Prop} {S : World → Prop}
/-- Two may come up. -/
theorem anyH_fork {i1 i2 : Nat} {fuel : Nat} {listed : Array Bool} {a : Act} {w : World} (hr : Region.ready md ops listed = [i1, i2])
    (h1 : wpOp P ops Q i1 (fun a' w' => S w' ∧ wpAnyH P md ops Q S fuel (listed.setIfInBounds i1 true) a' w') a w)
    (h2 : wpOp P ops Q i2 (fun a' w' => S w' ∧ wpAnyH P md ops Q S fuel (listed.setIfInBounds i2 true) a' w') a w) : wpAnyH P md ops Q S (fuel + 1) listed a w := by
  refine wpAnyH_all hr (by simp) fun j hj => ?_
  rcases (show j = i1 ∨ j = i2 by simpa using hj) with rfl | rfl
  · exact h1
  · exact h2
theorem opH_val {i : Nat} {o : Oper} {fuel : Nat} {listed : Array Bool} {a : Act} {w w' : World} {v : Value} (ho : ops[i]? = some o) (hw : Region.wanted o (yielded ops a.tmps) = true)
    (hrun : (execOp a.eval o).run P w = .ok (.value v) w') (hS : S w') (h : wpAnyH P md ops Q S fuel (listed.setIfInBounds i true) (a.put o.dst v) w') : wpOp P ops Q i (fun a' w' => S w' ∧ wpAnyH P md ops Q S fuel (listed.setIfInBounds i true) a' w') a w := by
  unfold wpOp
  simp only [ho, hw, if_true]
  left
  unfold Oper.wp
  rw [hrun]
  exact ⟨hS, h⟩
theorem opH_app {i : Nat} {o : Oper} {fuel : Nat} {listed : Array Bool} {a : Act} {w w' : World} {v u v' : Value} (s x : Operand) (t t' : TypeId) (ho : ops[i]? = some o) (hw : Region.wanted o (yielded ops a.tmps) = true)
    (hop : o.op = Op.call { callee := Callee.builtin Builtin.append, args := #[s, x], argTypes := #[t, t'] }) (hs : a.eval s = v) (hx : a.eval x = u)
    (hrun : (Builtin.append_ #[t, t'] o.type #[v, u]).run P w = .ok v' w') (hS : S w') (h : wpAnyH P md ops Q S fuel (listed.setIfInBounds i true) (a.put o.dst v') w') : wpOp P ops Q i (fun a' w' => S w' ∧ wpAnyH P md ops Q S fuel (listed.setIfInBounds i true) a' w') a w := by
  refine opH_val ho hw (v := v') (w' := w') ?_ hS h
  simp [execOp, hop, resolve, invoke, builtin, hs, hx, hrun, Result.andThen]
end
end RX

open Go.RowKit
set_option linter.unusedVariables false

section
variable {R R' : Nat → Prop} {W W' : World} {s : Value} {l : List Plc}
theorem RowP.wider (h : RowP R W s l) (hR : ∀ k, R k → R' k) (hno : ∀ k, s.ownBlock = some k → ¬ R' k) : RowP R' W s l := by
  obtain ⟨⟨rv, h1, h2⟩, h3⟩ := h
  exact ⟨⟨rv, h1, fun j p hp => by
    obtain ⟨a, c, q1, q2, q3⟩ := h2 j p hp
    exact ⟨a, c, q1, q2, fun hl b o e => hR b (q3 hl b o e)⟩⟩, hno⟩

/-- All of a row is appended to an empty one. -/
theorem copy_app {la : Option Addr} {n lc ge : Nat} (hE : RowP R W (.slice (some ⟨ge, 0, none⟩) 0 0) []) (hl : RowP R W (.slice la n lc) l) (hn : l.length = n) (hn9 : n ≤ 100000) (hlt : ∀ k, R k → k < W.heap.size) :
    ∃ a' c' W6, (Builtin.append_ #[73, 73] 73 #[.slice (some ⟨ge, 0, none⟩) 0 0, .slice la n lc]).run Tryz.prog W = .ok (.slice a' n c') W6 ∧
      RowP R W6 (.slice a' n c') l ∧ Touch (fun k => k = ge) W W6 ∧ (∀ k', Value.ownBlock (.slice a' n c') = some k' → k' = ge ∨ W.heap.size ≤ k') := by
  cases la with
  | none =>
    have h0 : n = 0 ∧ lc = 0 := by
      obtain ⟨⟨rv, h1, h2⟩, h3⟩ := hl
      obtain ⟨⟨xs, q1, q2⟩, q3⟩ := h1
      rcases q1.2 with ⟨e, -⟩ | ⟨b, cap, cur, e, -⟩
      · cases e; exact ⟨rfl, rfl⟩
      · cases e
    obtain ⟨rfl, rfl⟩ := h0
    have hl0 : l = [] := List.length_eq_zero_iff.1 hn
    subst hl0
    obtain ⟨i0, hi, hz, hsz, hby⟩ := info_parts info_pl
    have hE2 := hE
    obtain ⟨⟨rv, h1, h2⟩, h3⟩ := hE2
    exact ⟨_, _, W, RowF.append0 h1 73 73 i0 Tryz.underlying73 hi, hE, Touch.refl _ _, fun k hk => .inl (Option.some.inj hk).symm⟩
  | some ad =>
    have hf : ∃ b, ad = ⟨b, 0, none⟩ := by
      obtain ⟨⟨rv, h1, h2⟩, h3⟩ := hl
      obtain ⟨⟨xs, q1, q2⟩, q3⟩ := h1
      rcases q1.2 with ⟨e, -⟩ | ⟨b, cap, cur, e, -⟩
      · cases e
      · simp only [Value.slice.injEq, Option.some.injEq] at e
        exact ⟨b, e.1⟩
    obtain ⟨b, rfl⟩ := hf
    have hs := hl.src 0
    rw [List.drop_zero] at hs
    obtain ⟨a', c', W6, h1, h2, h3, h4⟩ := hE.app hs hn lc 73 hlt (by simp; omega)
    simp only [List.length_nil, Nat.zero_add, List.nil_append, Nat.zero_mul] at h1 h2 h4
    exact ⟨a', c', W6, h1, h2, h3.mono (fun k hk => (Option.some.inj hk).symm), fun k hk => (h4 k hk).imp (fun e => (Option.some.inj e).symm) id⟩

/-- One place, that lies in a block. -/
theorem one_src {gp : Nat} {p : Plc} {a : Option Addr} {c : Nat} (hl : Lit W gp 123 (plC p (.slice a p.2.row.length c))) (hr : SlL W a c p.2.row) (hR : p.2.row ≠ [] → ∀ b o, a = some ⟨b, o, none⟩ → R b) : SrcP R W gp 0 [p] := by
  refine ⟨fun _ => .slice a p.2.row.length c, fun j q hq => ?_⟩
  have hj : j = 0 := by have := (List.getElem?_eq_some_iff.1 hq).1; simp at this; omega
  subst hj
  cases hq
  exact ⟨fun o v hv => by rw [show 0 + (0 * 8 + o) = o by omega]; exact hl.cell hv, a, c, rfl, hr, hR⟩
end

/-- Behind both blocks: the copy, and the place behind it. -/
theorem put_two {R : Nat → Prop} {V V2 : World} {la : Option Addr} {n lc ge gp : Nat} {l : List Plc} {p : Plc} {a : Option Addr} {c pn : Nat} (hb : Below V.heap.size V V2) (hge : V.heap.size ≤ ge) (hgp : V.heap.size ≤ gp) (hne : gp ≠ ge)
    (hE : RowP R V2 (.slice (some ⟨ge, 0, none⟩) 0 0) []) (hL : Lit V2 gp 123 (plC p (.slice a pn c))) (hpn : p.2.row.length = pn) (hl : RowP R V (.slice la n lc) l) (hn : l.length = n) (hn9 : n ≤ 100000)
    (hr : SlL V a c p.2.row) (hR : p.2.row ≠ [] → ∀ b o, a = some ⟨b, o, none⟩ → R b) (hlt : ∀ k, R k → k < V.heap.size) :
    ∃ a3 c3 V3 a4 c4 V4, (Builtin.append_ #[73, 73] 73 #[.slice (some ⟨ge, 0, none⟩) 0 0, .slice la n lc]).run Tryz.prog V2 = .ok (.slice a3 n c3) V3 ∧ Below V.heap.size V V3 ∧
      (Builtin.append_ #[73, 73] 73 #[.slice a3 n c3, .slice (some ⟨gp, 0, none⟩) 1 1]).run Tryz.prog V3 = .ok (.slice a4 (n + 1) c4) V4 ∧ Below V.heap.size V V4 ∧
      RowP R V4 (.slice a4 (n + 1) c4) (l ++ [p]) ∧ ∀ k, Value.ownBlock (.slice a4 (n + 1) c4) = some k → V.heap.size ≤ k := by
  subst hpn
  obtain ⟨a3, c3, V3, h1, h2, h3, h4⟩ := copy_app hE (hl.below hb) hn hn9 (fun k hk => Nat.lt_of_lt_of_le (hlt k hk) hb.size)
  have hb3 : Below V.heap.size V V3 := hb.trans (h3.below (fun k hk => by omega) hb.size)
  have h5 : ∀ k, Value.ownBlock (.slice a3 n c3) = some k → V.heap.size ≤ k := fun k hk => by
    rcases h4 k hk with e | e
    · omega
    · exact Nat.le_trans hb.size e
  have hL3 := hL.stay (h3.stay (G := fun k => k = gp) (fun k hk e => hne (hk.symm.trans e))) rfl
  obtain ⟨a4, c4, V4, g1, g2, g3, g4⟩ := h2.app (k := 1) (one_src hL3 (hr.below hb3) hR) rfl 1 73 (fun k hk => Nat.lt_of_lt_of_le (hlt k hk) hb3.size) (by rw [hn]; omega)
  rw [hn] at g1 g2 g4
  exact ⟨a3, c3, V3, a4, c4, V4, h1, hb3, g1, hb3.trans (g3.below h5 hb3.size), g2, fun k hk => (g4 k hk).elim (h5 k) (fun e => Nat.le_trans hb3.size e)⟩

/-- The copy ahead of the place's block. -/
theorem put_one {R : Nat → Prop} {V V1 : World} {la : Option Addr} {n lc ge : Nat} {l : List Plc} {p : Plc} {a : Option Addr} {c pn : Nat} (hb : Below V.heap.size V V1) (hge : V.heap.size ≤ ge)
    (hE : RowP R V1 (.slice (some ⟨ge, 0, none⟩) 0 0) []) (hpn : p.2.row.length = pn) (hl : RowP R V (.slice la n lc) l) (hn : l.length = n) (hn9 : n ≤ 100000)
    (hr : SlL V a c p.2.row) (hR : p.2.row ≠ [] → ∀ b o, a = some ⟨b, o, none⟩ → R b) (hlt : ∀ k, R k → k < V.heap.size) :
    ∃ a3 c3 V3 a4 c4 V4, (Builtin.append_ #[73, 73] 73 #[.slice (some ⟨ge, 0, none⟩) 0 0, .slice la n lc]).run Tryz.prog V1 = .ok (.slice a3 n c3) V3 ∧ Below V.heap.size V V3 ∧
      (Builtin.append_ #[73, 73] 73 #[.slice a3 n c3, .slice (some ⟨V3.heap.size, 0, none⟩) 1 1]).run Tryz.prog (V3.alloc (.cells (plC p (.slice a pn c)).toArray 123)) = .ok (.slice a4 (n + 1) c4) V4 ∧ Below V.heap.size V V4 ∧
      RowP R V4 (.slice a4 (n + 1) c4) (l ++ [p]) ∧ ∀ k, Value.ownBlock (.slice a4 (n + 1) c4) = some k → V.heap.size ≤ k := by
  subst hpn
  obtain ⟨a3, c3, V3, h1, h2, h3, h4⟩ := copy_app hE (hl.below hb) hn hn9 (fun k hk => Nat.lt_of_lt_of_le (hlt k hk) hb.size)
  have hb3 : Below V.heap.size V V3 := hb.trans (h3.below (fun k hk => by omega) hb.size)
  have h5 : ∀ k, Value.ownBlock (.slice a3 n c3) = some k → V.heap.size ≤ k := fun k hk => by
    rcases h4 k hk with e | e
    · omega
    · exact Nat.le_trans hb.size e
  obtain ⟨a4, c4, V4, g1, g2, g3, g4⟩ := h2.push (R' := R) p a c 73 (hr.below hb3) (fun _ h => h) hR h2.own (fun k hk => Nat.lt_of_lt_of_le (hlt k hk) hb3.size) (by rw [hn]; omega)
  rw [hn] at g1 g2 g4
  exact ⟨a3, c3, V3, a4, c4, V4, h1, hb3, g1, hb3.trans (g3.below h5 hb3.size), g2, fun k hk => (g4 k hk).elim (h5 k) (fun e => Nat.le_trans hb3.size e)⟩

end Go.Proofs.YtbgnbaogclnpgaaGreat

namespace Go.Proofs.YtbgnbaogclnpgaaGreat
open Go.RowKit
set_option linter.unusedVariables false

theorem one_appR {W : World} {a : Option Addr} {c : Nat} {l : List Val} (h1 : SlL W a c l) (hl : l.length ≤ 1000000) :
    ∃ a1 c1 W1, (Builtin.append_ #[55, 55] 55 #[.slice (some ⟨W.heap.size, 0, none⟩) 0 0, .slice a l.length c]).run Tryz.prog (W.alloc (.cells #[] 82)) = .ok (.slice a1 l.length c1) W1 ∧ RowV W1 (.slice a1 l.length c1) l ∧ (∀ k, Value.ownBlock (.slice a1 l.length c1) = some k → W.heap.size ≤ k) ∧ Below W.heap.size W W1 := by
  have hal := Below.allocs W (.cells #[] 82)
  have ho := World.ownsRow_made (base := W.heap.size) (e := 82) (size := 4) W #[] 0 (Nat.le_refl _) (Nat.zero_le _) (by simp)
  obtain ⟨s1, W1, hr1, ho1, hb1, ⟨a1, c1, rfl⟩, _⟩ := app_run (W := W.alloc (.cells #[] 82)) (base := W.heap.size) (l := []) (m := l) hal.size ho (h1.below hal) (by simp; omega) (fun _ h => absurd h List.not_mem_nil)
  rw [List.nil_append] at hr1 ho1
  exact ⟨a1, c1, W1, hr1, RowV.of_own ho1, own_ge ho1, hal.trans hb1⟩

set_option maxRecDepth 100000 in
set_option maxHeartbeats 8000000 in
theorem rput_good (w : World) (x : Nat) (A : Ab) (z : Nat) (F : Nat → Prop) (ls gs : Value) (gl : List Gvn) (R : Nat → Prop) (t : Tup) (ra0 : Option Addr) (rc0 pn : Nat) (hpn : t.row.length = pn) (hpn9 : pn ≤ 1000000) (hg : goodT t) (hz : z ≤ 40000) (hzl : A.pl.length ≤ 40000) (hr : SlL w ra0 rc0 t.row) (H : Rf w x A z F ls gs gl R) :
    Calls Tryz.prog 37 #[.pointer (some ⟨x, 0, none⟩), tupV t (.slice ra0 pn rc0)] w fun e w' => e = .returned (.tuple #[.int .i64 (A.slot : Int), .int .i64 0]) ∧ ∃ F' ls' gs' gl' R', Rf w' x (A.put t) (z + 1) F' ls' gs' gl' R' ∧ More w.heap.size F F' ∧ Touch F w w' := by
  obtain ⟨la, lc, rfl, -, -⟩ := H.row.form
  obtain ⟨n, hn⟩ : ∃ n, (pls A).length = n := ⟨_, rfl⟩
  have hn9 : n ≤ 40000 := by rw [← hn, pls_len]; exact hzl
  rw [hn] at H
  -- the parameter's block
  have b1 := Below.allocs w (.cells (tupC t (.slice ra0 pn rc0)).toArray 87)
  have l1 := Lit.new w 87 (tupC t (.slice ra0 pn rc0))
  obtain ⟨g, hgg⟩ : ∃ g, w.heap.size = g := ⟨_, rfl⟩
  obtain ⟨W1, hW1⟩ : ∃ W, w.alloc (.cells (tupC t (.slice ra0 pn rc0)).toArray 87) = W := ⟨_, rfl⟩
  rw [hW1] at b1 l1
  rw [hgg] at l1
  have H1 := H.below b1
  have HF1 := Lib.hid H1
  have HZ := Lib.hid (And.intro hz (And.intro hzl hn9))
  obtain ⟨k0, k1, k2, k3, k4, k5, k6, kl⟩ := cells7e l1
  have HL1 := Lib.hid l1
  have HB1 := Lib.hid b1
  have HRR := Lib.hid (hr.below b1)
  have HPN := Lib.hid (And.intro hpn hpn9)
  have HN := Lib.hid hn
  have HH := Lib.hid H
  have hq := hg
  unfold goodT Most at hq
  obtain ⟨⟨g1, g2⟩, g3, g4⟩ := hq
  have HGD := Lib.hid hg
  have HW1 := Lib.hid hW1
  have HG1 := Lib.hid hgg
  unfold tupC at HW1
  unfold tupV
  clear b1 l1 hgg hW1 H H1 hz hzl hr hpn hpn9 hn hg hn9
  go_enter Tryz.func37, Tryz.ntmps37
  go_upto_region 1 with (fail)
  rw [show w.alloc _ = W1 from HW1.out, HG1.out]
  clear HW1
  go_wp2_with fail
  go_loopg [6] (n + 1) (fun gg s6 wr => ∃ m : Nat, s6 = .int .i64 m ∧ m ≤ n ∧ n + 1 - m ≤ gg ∧ Hid (∀ j, j < m → j ∈ A.used) ∧ wr = W1)
  case atStart => exact ⟨0, rfl, Nat.zero_le _, by omega, Lib.hid (fun j hj => absurd hj (Nat.not_lt_zero j)), rfl⟩
  case round =>
    obtain ⟨m, rfl, hm, hgm, HJ, rfl⟩ := hrel
    have hcon := rfind_is wr x A z F (.slice la n lc) gs gl R (m : Int) (by have := HZ.out; omega) HF1.out
    have hmb : m ≤ 40000 := by have := HZ.out.2.2; omega
    have HMG := Lib.hid (And.intro hm hgm)
    clear hm hgm
    go_wp2_with fail
    refine (show Calls Tryz.prog _ _ _ _ from hcon).mono ?_
    rintro e w3 ⟨v, rfl, hv, rfl⟩
    clear hcon
    rcases hv with ⟨rfl, hnone⟩ | ⟨i, p, rfl, hp, hpy⟩
    · have HSLOT : Hid ((A.slot : Int) = (m : Int) ∧ A.slot = m) := Lib.hid (by
        have h1 : m ∉ A.used := by
          unfold Ab.tupI at hnone
          rw [if_pos (by omega), Int.toNat_natCast] at hnone
          exact tup_used.1 hnone
        have : m = A.slot := leastN_eq h1 HJ.out
        exact ⟨by rw [← this], this.symm⟩)
      clear hnone
      obtain ⟨ra, rc, W3, hrun, hrow, hown, hb3⟩ := one_appR HRR.out (by rw [HPN.out.1]; exact HPN.out.2)
      rw [HPN.out.1] at hrun hrow hown
      have l3 := HL1.out.below hb3
      have t4 := Touch.setCell W3 (F := fun k => k = g) rfl 6 (.slice ra pn rc)
      have l4 := l3.set 6 (.slice ra pn rc)
      have k63 : W3.cell? ⟨g, 6, none⟩ = some (.slice ra0 pn rc0) := l3.cell (o := 6) rfl
      have fz63 := l3.fz 6
      have hgl3 := l3.lt
      obtain ⟨W4, hW4⟩ : ∃ W4, W3.setCell ⟨g, 6, none⟩ (.slice ra pn rc) = W4 := ⟨_, rfl⟩
      rw [hW4] at t4 l4
      have l4 : Lit W4 g 87 (tupC t (.slice ra pn rc)) := l4
      -- all of it at the region's world
      have hw4 : Below w.heap.size w W4 := ((HB1.out.trans (hb3.mono HB1.out.size))).trans (t4.below (fun k hk => by have := HG1.out; omega) (Nat.le_trans HB1.out.size hb3.size))
      have hd := below_drw W4
      obtain ⟨V0, hV0⟩ : ∃ V0, W4.drew = V0 := ⟨_, rfl⟩
      rw [hV0] at hd
      have hwV : Below w.heap.size w V0 := hw4.trans (hd.mono hw4.size)
      have HV := Lib.hid (HH.out.below hwV)
      have lV := l4.below hd
      have hV0r : RowV V0 (.slice ra pn rc) t.row := (RowF.stay hrow (t4.stay (G := fun k => k ≠ g) (fun k hk e => hk e)) (fun k hk e => by have := hown k hk; have := HL1.out.lt; omega)).below hd
      have rV : SlL V0 ra rc t.row := by
        obtain ⟨a9, c9, e9, hsl⟩ := RowV.sl hV0r HRR.out.wf
        simp only [Value.slice.injEq] at e9
        obtain ⟨q1, -, q3⟩ := e9
        rw [q1, q3]
        exact hsl
      obtain ⟨R', hR'⟩ : ∃ R' : Nat → Prop, R' = fun k => R k ∨ (t.row ≠ [] ∧ ∃ o, ra = some ⟨k, o, none⟩) := ⟨_, rfl⟩
      have hnew : ∀ k, R' k → R k ∨ (w.heap.size ≤ k ∧ k < V0.heap.size) := fun k hk => by
        rw [hR'] at hk
        rcases hk with hk | ⟨hl, o, e⟩
        · exact .inl hk
        · exact .inr ⟨Nat.le_trans HB1.out.size (hown k (by rw [e]; rfl)), rV.lt hl e⟩
      have hFw : ∀ k, F k → k < w.heap.size := HH.out.lt
      have HRLT : Hid (∀ k, R' k → k < V0.heap.size) := Lib.hid (fun k hk => (hnew k hk).elim (fun h => Nat.lt_of_lt_of_le (hFw k (HH.out.fr k h).1) hwV.size) (fun h => h.2))
      have HRW : Hid (∀ k, R' k → F k ∨ w.heap.size ≤ k) := Lib.hid (fun k hk => (hnew k hk).imp (fun h => (HH.out.fr k h).1) (fun h => h.1))
      have HRN : Hid (∀ V4, Below V0.heap.size V0 V4 → ∀ k, R' k → R k ∨ (¬ F k ∧ k < V4.heap.size)) := Lib.hid (fun V4 hb k hk => (hnew k hk).imp id (fun h => ⟨fun hf => by have := hFw k hf; omega, Nat.lt_of_lt_of_le h.2 hb.size⟩))
      have HLS : Hid (RowP R' V0 (.slice la n lc) (pls A)) := Lib.hid (HV.out.row.wider (fun k hk => by rw [hR']; exact .inl hk) (fun k hk hR => by
        rcases hnew k hR with h | h
        · exact HV.out.row.own k hk h
        · have := hFw k (HH.out.fl k hk).1; omega))
      have HRO : Hid (t.row ≠ [] → ∀ b o, ra = some ⟨b, o, none⟩ → R' b) := Lib.hid (fun hl b o e => by rw [hR']; exact .inr ⟨hl, o, e⟩)
      have HRV := Lib.hid rV
      have HLV := Lib.hid lV
      have HWV := Lib.hid hwV
      have HGX : Hid (g ≠ x) := Lib.hid (fun e => by have h1 := hFw x HH.out.fx; have h2 := HG1.out; omega)
      have HPLS : Hid (pls (⟨A.pl ++ [(A.slot, t)], A.lst⟩ : Ab) = pls A ++ [((m : Int), t)]) := Lib.hid (by rw [← HSLOT.out.1]; unfold pls; simp)
      have HS : Hid (∀ W, Below V0.heap.size V0 W → W.cell? ⟨x, 0, none⟩ = some (.slice la n lc) ∧ x < W.heap.size ∧ W.cell? ⟨g, 0, none⟩ = some (.int .i64 t.no) ∧ W.cell? ⟨g, 1, none⟩ = some (.int .i64 t.id) ∧ W.cell? ⟨g, 2, none⟩ = some (.int .i64 t.mn) ∧ W.cell? ⟨g, 3, none⟩ = some (.int .i64 t.cm) ∧ W.cell? ⟨g, 4, none⟩ = some (.int .i64 t.mx) ∧ W.cell? ⟨g, 5, none⟩ = some (.int .i64 t.cx) ∧ W.cell? ⟨g, 6, none⟩ = some (.slice ra pn rc) ∧ g < W.heap.size) := Lib.hid (fun W hb => by
        have h1 := (HV.out.below hb).lit
        have h2 := HLV.out.below hb
        exact ⟨h1.cell rfl, h1.lt, h2.cell rfl, h2.cell rfl, h2.cell rfl, h2.cell rfl, h2.cell rfl, h2.cell rfl, h2.cell rfl, h2.lt⟩)
      have HW4 := Lib.hid hW4
      have HV0 := Lib.hid hV0
      have HRUN := Lib.hid hrun
      have hxl := (HH.out.below HB1.out).lit.lt
      clear hrow hown hb3 l3 t4 l4 hw4 hd hwV lV hV0r rV hR' hnew hFw hW4 hV0 hrun
      go_upto_region 7 with (first | (at_builtin; refine append_stepW rfl _ _ 55 rfl _ _ _ _ rfl rfl HRUN.out ?_) | fail)
      rw [HW4.out]
      have mixed : Tryz.prog.follows Departure.mixedOrders = true := by kernel_rfl
      clear HRUN k63 fz63 hgl3 k0 k1 k2 k3 k4 k5 k6 kl hxl
      refine RX.wp_region_lastH 12 (fun W => W.cell? ⟨x, 0, none⟩ = some (.slice la n lc) ∧ x < W.heap.size ∧ W.cell? ⟨g, 0, none⟩ = some (.int .i64 t.no) ∧ W.cell? ⟨g, 1, none⟩ = some (.int .i64 t.id) ∧ W.cell? ⟨g, 2, none⟩ = some (.int .i64 t.mn) ∧ W.cell? ⟨g, 3, none⟩ = some (.int .i64 t.cm) ∧ W.cell? ⟨g, 4, none⟩ = some (.int .i64 t.mx) ∧ W.cell? ⟨g, 5, none⟩ = some (.int .i64 t.cx) ∧ W.cell? ⟨g, 6, none⟩ = some (.slice ra pn rc) ∧ g < W.heap.size) mixed (by kernel_rfl) ?_
      simp only [List.take_succ_cons, List.take_zero, List.drop_succ_cons, List.drop_zero]
      rw [HV0.out]
      refine wpAnyH_take (i := 0) (oi := _) (v := .pointer (some ⟨x, 0, none⟩)) rfl (by kernel_rfl) (by kernel_rfl) (by kernel_rfl) (fun _ _ _ h => h) (Or.inl ⟨by rfl, fun w' hw' => ?_⟩) (HS.out V0 (Below.refl _ _)) ?_
      · obtain ⟨j0, jl, c0, c1, c2, c3, c4, c5, c6, cl⟩ := hw'
        go_simp
        try first | with_reducible rfl | simp
      refine wpAnyH_take (i := 2) (oi := _) (v := .pointer (some ⟨x, 0, none⟩)) rfl (by kernel_rfl) (by kernel_rfl) (by kernel_rfl) (fun _ _ _ h => h) (Or.inl ⟨by rfl, fun w' hw' => ?_⟩) (HS.out V0 (Below.refl _ _)) ?_
      · obtain ⟨j0, jl, c0, c1, c2, c3, c4, c5, c6, cl⟩ := hw'
        go_simp
        try first | with_reducible rfl | simp
      refine wpAnyH_take (i := 3) (oi := _) (v := .pointer (some ⟨x, 0, none⟩)) rfl (by kernel_rfl) (by kernel_rfl) (by kernel_rfl) (fun _ _ _ h => h) (Or.inl ⟨by rfl, fun w' hw' => ?_⟩) (HS.out V0 (Below.refl _ _)) ?_
      · obtain ⟨j0, jl, c0, c1, c2, c3, c4, c5, c6, cl⟩ := hw'
        go_simp
        try first | with_reducible rfl | simp
      refine wpAnyH_take (i := 4) (oi := _) (v := .pointer (some ⟨x, 0, none⟩)) rfl (by kernel_rfl) (by kernel_rfl) (by kernel_rfl) (fun _ _ _ h => h) (Or.inl ⟨by rfl, fun w' hw' => ?_⟩) (HS.out V0 (Below.refl _ _)) ?_
      · obtain ⟨j0, jl, c0, c1, c2, c3, c4, c5, c6, cl⟩ := hw'
        go_simp
        try first | with_reducible rfl | simp
      refine wpAnyH_take (i := 5) (oi := _) (v := .slice la n lc) rfl (by kernel_rfl) (by kernel_rfl) (by kernel_rfl) (fun _ _ _ h => h) (Or.inl ⟨by rfl, fun w' hw' => ?_⟩) (HS.out V0 (Below.refl _ _)) ?_
      · obtain ⟨j0, jl, c0, c1, c2, c3, c4, c5, c6, cl⟩ := hw'
        go_simp
        try first | with_reducible rfl | simp
      refine wpAnyH_take (i := 7) (oi := _) (v := .int .i64 (m : Int)) rfl (by kernel_rfl) (by kernel_rfl) (by kernel_rfl) (fun _ _ _ h => h) (Or.inl ⟨by rfl, fun w' hw' => ?_⟩) (HS.out V0 (Below.refl _ _)) ?_
      · obtain ⟨j0, jl, c0, c1, c2, c3, c4, c5, c6, cl⟩ := hw'
        go_simp
        try first | with_reducible rfl | simp
      refine wpAnyH_take (i := 8) (oi := _) (v := .agg #[.int .i64 t.no, .int .i64 t.id, .int .i64 t.mn, .int .i64 t.cm, .int .i64 t.mx, .int .i64 t.cx, .slice ra pn rc]) rfl (by kernel_rfl) (by kernel_rfl) (by kernel_rfl) (fun _ _ _ h => h) (Or.inl ⟨by rfl, fun w' hw' => ?_⟩) (HS.out V0 (Below.refl _ _)) ?_
      · obtain ⟨j0, jl, c0, c1, c2, c3, c4, c5, c6, cl⟩ := hw'
        go_simp
        try first | with_reducible rfl | simp
      refine wpAnyH_take (i := 9) (oi := _) (v := .agg #[.int .i64 (m : Int), .int .i64 t.no, .int .i64 t.id, .int .i64 t.mn, .int .i64 t.cm, .int .i64 t.mx, .int .i64 t.cx, .slice ra pn rc]) rfl (by kernel_rfl) (by kernel_rfl) (by kernel_rfl) (fun _ _ _ h => h) (Or.inl ⟨by rfl, fun w' hw' => ?_⟩) (HS.out V0 (Below.refl _ _)) ?_
      · obtain ⟨j0, jl, c0, c1, c2, c3, c4, c5, c6, cl⟩ := hw'
        go_simp
        try first | with_reducible rfl | simp
      refine RX.anyH_fork (i1 := 1) (i2 := 10) (by kernel_rfl) ?_ ?_
      · refine RX.opH_val (i := 1) (v := .slice (some ⟨V0.heap.size, 0, none⟩) 0 0) (w' := V0.alloc (.cells #[] 123)) rfl (by rfl) (by go_simp) (HS.out _ (Below.allocs _ _)) ?_
        refine RX.anyH_fork (i1 := 6) (i2 := 10) (by kernel_rfl) ?_ ?_
        · obtain ⟨a3, c3, V3, a4, c4, V4, hr1, hb3, hr2, hb4, hrow4, hown4⟩ := put_one (R := R') (V := V0) (V1 := V0.alloc (.cells #[] 123)) (ge := V0.heap.size) (p := ((m : Int), t)) (a := ra) (c := rc) (pn := pn) (Below.allocs _ _) (Nat.le_refl _) (RowP.empty V0 HRLT.out) HPN.out.1 HLS.out HN.out (by have := HZ.out.2.2; omega) HRV.out HRO.out HRLT.out
          simp only [plC] at hr2
          refine RX.opH_app (i := 6) (v := .slice (some ⟨V0.heap.size, 0, none⟩) 0 0) (u := .slice la n lc) (.tmp 37) (.tmp 41) (73) (73) rfl (by rfl) rfl (by go_simp) (by go_simp) (hr1) (HS.out _ hb3) ?_
          refine RX.anyH_val (i := 10) (v := .slice (some ⟨V3.heap.size, 0, none⟩) 1 1) (w' := V3.alloc (.cells #[.int .i64 (m : Int), .int .i64 t.no, .int .i64 t.id, .int .i64 t.mn, .int .i64 t.cm, .int .i64 t.mx, .int .i64 t.cx, .slice ra pn rc] 123)) (by kernel_rfl) rfl (by rfl) (by go_simp) (HS.out _ (hb3.trans ((Below.allocs _ _).mono hb3.size))) ?_
          refine RX.anyH_app (i := 11) (v := .slice a3 n c3) (u := .slice (some ⟨V3.heap.size, 0, none⟩) 1 1) (.tmp 42) (.tmp 46) (73) (73) (by kernel_rfl) rfl (by rfl) rfl (by go_simp) (by go_simp) (hr2) (HS.out _ hb4) ?_
          refine wpAnyH_done (by kernel_rfl) ?_ _
          unfold RX.lastQ
          obtain ⟨h5, t5⟩ := (HV.out.below hb4).setL (ls' := .slice a4 (n + 1) c4) (A' := ⟨A.pl ++ [(A.slot, t)], A.lst⟩) (R' := R') (by rw [show pls (⟨A.pl ++ [(A.slot, t)], A.lst⟩ : Ab) = pls A ++ [((m : Int), t)] from HPLS.out]; exact hrow4) rfl (fun k hk hf => by have := hown4 k hk; have := HV.out.lt k hf; omega) (HRN.out V4 hb4)
          have l5 := (HLV.out.below hb4).stay (t5.stay (G := fun k => k = g) (fun k hk e => HGX.out (hk.symm.trans e))) rfl
          have cx4 := (HV.out.below hb4).lit.cell (o := 0) rfl
          have fz4 := (HV.out.below hb4).lit.fz 0
          have hx4 := (HV.out.below hb4).lit.lt
          obtain ⟨W5, hW5⟩ : ∃ W5, V4.setCell ⟨x, 0, none⟩ (.slice a4 (n + 1) c4) = W5 := ⟨_, rfl⟩
          rw [hW5] at h5 t5 l5
          have HW5 := Lib.hid hW5
          obtain ⟨e0, e1, -, -, -, -, -, hgl5⟩ := cells7e l5
          have hcon5 := rgive_is W5 x _ z _ _ gs gl _ t.no t.id (by have := HZ.out; omega) h5 (A.put t) rfl (fun y => by
            show (if y = t.no then max (A.lst y) t.id else A.lst y) = if y = t.no then max t.id (A.lst t.no) else A.lst y
            by_cases e : y = t.no
            · rw [if_pos e, if_pos e, e, Int.max_comm]
            · rw [if_neg e, if_neg e])
          have HT5 := Lib.hid (show Touch F w W5 ∧ (∀ k, Value.ownBlock (.slice a4 (n + 1) c4) = some k → w.heap.size ≤ k) from ⟨(Touch.of_below (HWV.out.trans (hb4.mono HWV.out.size))).trans t5 (fun k _ hk => by rw [hk]; exact HH.out.fx), fun k hk => Nat.le_trans HWV.out.size (hown4 k hk)⟩)
          clear h5 t5 l5 hW5 hrow4 hown4 hb4
          go_upto_region 8 with (fail)
          rw [HW5.out]
          clear HW5 cx4 fz4 hx4
          go_wp2_with fail
          refine (show Calls Tryz.prog _ _ _ _ from hcon5).mono ?_
          rintro e w9 ⟨rfl, F', gs', gl', q1, q2, q3⟩
          have HE9 := Lib.hid (And.intro q1 (And.intro q2 q3))
          clear hcon5 q1 q2 q3
          go_wp2_with fail
          go_ret2
          obtain ⟨q1, q2, q3⟩ := HE9.out
          obtain ⟨t5, ho5⟩ := HT5.out
          have hm : More w.heap.size F (fun k => F k ∨ Value.ownBlock (.slice a4 (n + 1) c4) = some k ∨ R' k) := ⟨fun k hk => .inl hk, fun k hk => by
            rcases hk with hk | hk | hk
            · exact .inl hk
            · exact .inr (ho5 k hk)
            · exact (HRW.out k hk)⟩
          rw [HSLOT.out.1]
          exact ⟨rfl, F', .slice a4 (n + 1) c4, gs', gl', R', q1, hm.trans (q2.mono t5.size), t5.trans q3 (fun k hk hF => (hm.new k hF).elim id (fun e => by omega))⟩
        · obtain ⟨a3, c3, V3, a4, c4, V4, hr1, hb3, hr2, hb4, hrow4, hown4⟩ := put_two (R := R') (V := V0) (V2 := (V0.alloc (.cells #[] 123)).alloc (.cells #[.int .i64 (m : Int), .int .i64 t.no, .int .i64 t.id, .int .i64 t.mn, .int .i64 t.cm, .int .i64 t.mx, .int .i64 t.cx, .slice ra pn rc] 123)) (ge := V0.heap.size) (gp := (V0.alloc (.cells #[] 123)).heap.size) (p := ((m : Int), t)) (a := ra) (c := rc) (pn := pn) ((Below.allocs _ _).trans ((Below.allocs _ _).mono (Below.allocs _ _).size)) (Nat.le_refl _) ((Below.allocs _ _).size) (by simp) ((RowP.empty V0 HRLT.out).below (Below.allocs _ _)) (Lit.new _ _ _) HPN.out.1 HLS.out HN.out (by have := HZ.out.2.2; omega) HRV.out HRO.out HRLT.out
          refine RX.opH_val (i := 10) (v := .slice (some ⟨(V0.alloc (.cells #[] 123)).heap.size, 0, none⟩) 1 1) (w' := (V0.alloc (.cells #[] 123)).alloc (.cells #[.int .i64 (m : Int), .int .i64 t.no, .int .i64 t.id, .int .i64 t.mn, .int .i64 t.cm, .int .i64 t.mx, .int .i64 t.cx, .slice ra pn rc] 123)) rfl (by rfl) (by go_simp) (HS.out _ ((Below.allocs _ _).trans ((Below.allocs _ _).mono (Below.allocs _ _).size))) ?_
          refine RX.anyH_app (i := 6) (v := .slice (some ⟨V0.heap.size, 0, none⟩) 0 0) (u := .slice la n lc) (.tmp 37) (.tmp 41) (73) (73) (by kernel_rfl) rfl (by rfl) rfl (by go_simp) (by go_simp) (hr1) (HS.out _ hb3) ?_
          refine RX.anyH_app (i := 11) (v := .slice a3 n c3) (u := .slice (some ⟨(V0.alloc (.cells #[] 123)).heap.size, 0, none⟩) 1 1) (.tmp 42) (.tmp 46) (73) (73) (by kernel_rfl) rfl (by rfl) rfl (by go_simp) (by go_simp) (hr2) (HS.out _ hb4) ?_
          refine wpAnyH_done (by kernel_rfl) ?_ _
          unfold RX.lastQ
          obtain ⟨h5, t5⟩ := (HV.out.below hb4).setL (ls' := .slice a4 (n + 1) c4) (A' := ⟨A.pl ++ [(A.slot, t)], A.lst⟩) (R' := R') (by rw [show pls (⟨A.pl ++ [(A.slot, t)], A.lst⟩ : Ab) = pls A ++ [((m : Int), t)] from HPLS.out]; exact hrow4) rfl (fun k hk hf => by have := hown4 k hk; have := HV.out.lt k hf; omega) (HRN.out V4 hb4)
          have l5 := (HLV.out.below hb4).stay (t5.stay (G := fun k => k = g) (fun k hk e => HGX.out (hk.symm.trans e))) rfl
          have cx4 := (HV.out.below hb4).lit.cell (o := 0) rfl
          have fz4 := (HV.out.below hb4).lit.fz 0
          have hx4 := (HV.out.below hb4).lit.lt
          obtain ⟨W5, hW5⟩ : ∃ W5, V4.setCell ⟨x, 0, none⟩ (.slice a4 (n + 1) c4) = W5 := ⟨_, rfl⟩
          rw [hW5] at h5 t5 l5
          have HW5 := Lib.hid hW5
          obtain ⟨e0, e1, -, -, -, -, -, hgl5⟩ := cells7e l5
          have hcon5 := rgive_is W5 x _ z _ _ gs gl _ t.no t.id (by have := HZ.out; omega) h5 (A.put t) rfl (fun y => by
            show (if y = t.no then max (A.lst y) t.id else A.lst y) = if y = t.no then max t.id (A.lst t.no) else A.lst y
            by_cases e : y = t.no
            · rw [if_pos e, if_pos e, e, Int.max_comm]
            · rw [if_neg e, if_neg e])
          have HT5 := Lib.hid (show Touch F w W5 ∧ (∀ k, Value.ownBlock (.slice a4 (n + 1) c4) = some k → w.heap.size ≤ k) from ⟨(Touch.of_below (HWV.out.trans (hb4.mono HWV.out.size))).trans t5 (fun k _ hk => by rw [hk]; exact HH.out.fx), fun k hk => Nat.le_trans HWV.out.size (hown4 k hk)⟩)
          clear h5 t5 l5 hW5 hrow4 hown4 hb4
          go_upto_region 8 with (fail)
          rw [HW5.out]
          clear HW5 cx4 fz4 hx4
          go_wp2_with fail
          refine (show Calls Tryz.prog _ _ _ _ from hcon5).mono ?_
          rintro e w9 ⟨rfl, F', gs', gl', q1, q2, q3⟩
          have HE9 := Lib.hid (And.intro q1 (And.intro q2 q3))
          clear hcon5 q1 q2 q3
          go_wp2_with fail
          go_ret2
          obtain ⟨q1, q2, q3⟩ := HE9.out
          obtain ⟨t5, ho5⟩ := HT5.out
          have hm : More w.heap.size F (fun k => F k ∨ Value.ownBlock (.slice a4 (n + 1) c4) = some k ∨ R' k) := ⟨fun k hk => .inl hk, fun k hk => by
            rcases hk with hk | hk | hk
            · exact .inl hk
            · exact .inr (ho5 k hk)
            · exact (HRW.out k hk)⟩
          rw [HSLOT.out.1]
          exact ⟨rfl, F', .slice a4 (n + 1) c4, gs', gl', R', q1, hm.trans (q2.mono t5.size), t5.trans q3 (fun k hk hF => (hm.new k hF).elim id (fun e => by omega))⟩
      · refine RX.opH_val (i := 10) (v := .slice (some ⟨V0.heap.size, 0, none⟩) 1 1) (w' := V0.alloc (.cells #[.int .i64 (m : Int), .int .i64 t.no, .int .i64 t.id, .int .i64 t.mn, .int .i64 t.cm, .int .i64 t.mx, .int .i64 t.cx, .slice ra pn rc] 123)) rfl (by rfl) (by go_simp) (HS.out _ (Below.allocs _ _)) ?_
        obtain ⟨a3, c3, V3, a4, c4, V4, hr1, hb3, hr2, hb4, hrow4, hown4⟩ := put_two (R := R') (V := V0) (V2 := (V0.alloc (.cells #[.int .i64 (m : Int), .int .i64 t.no, .int .i64 t.id, .int .i64 t.mn, .int .i64 t.cm, .int .i64 t.mx, .int .i64 t.cx, .slice ra pn rc] 123)).alloc (.cells #[] 123)) (ge := (V0.alloc (.cells #[.int .i64 (m : Int), .int .i64 t.no, .int .i64 t.id, .int .i64 t.mn, .int .i64 t.cm, .int .i64 t.mx, .int .i64 t.cx, .slice ra pn rc] 123)).heap.size) (gp := V0.heap.size) (p := ((m : Int), t)) (a := ra) (c := rc) (pn := pn) ((Below.allocs _ _).trans ((Below.allocs _ _).mono (Below.allocs _ _).size)) ((Below.allocs _ _).size) (Nat.le_refl _) (by simp) (RowP.empty _ (fun k hk => Nat.lt_of_lt_of_le (HRLT.out k hk) (Below.allocs _ _).size)) ((Lit.new _ _ _).below (Below.allocs _ _)) HPN.out.1 HLS.out HN.out (by have := HZ.out.2.2; omega) HRV.out HRO.out HRLT.out
        refine RX.anyH_val (i := 1) (v := .slice (some ⟨(V0.alloc (.cells #[.int .i64 (m : Int), .int .i64 t.no, .int .i64 t.id, .int .i64 t.mn, .int .i64 t.cm, .int .i64 t.mx, .int .i64 t.cx, .slice ra pn rc] 123)).heap.size, 0, none⟩) 0 0) (w' := (V0.alloc (.cells #[.int .i64 (m : Int), .int .i64 t.no, .int .i64 t.id, .int .i64 t.mn, .int .i64 t.cm, .int .i64 t.mx, .int .i64 t.cx, .slice ra pn rc] 123)).alloc (.cells #[] 123)) (by kernel_rfl) rfl (by rfl) (by go_simp) (HS.out _ ((Below.allocs _ _).trans ((Below.allocs _ _).mono (Below.allocs _ _).size))) ?_
        refine RX.anyH_app (i := 6) (v := .slice (some ⟨(V0.alloc (.cells #[.int .i64 (m : Int), .int .i64 t.no, .int .i64 t.id, .int .i64 t.mn, .int .i64 t.cm, .int .i64 t.mx, .int .i64 t.cx, .slice ra pn rc] 123)).heap.size, 0, none⟩) 0 0) (u := .slice la n lc) (.tmp 37) (.tmp 41) (73) (73) (by kernel_rfl) rfl (by rfl) rfl (by go_simp) (by go_simp) (hr1) (HS.out _ hb3) ?_
        refine RX.anyH_app (i := 11) (v := .slice a3 n c3) (u := .slice (some ⟨V0.heap.size, 0, none⟩) 1 1) (.tmp 42) (.tmp 46) (73) (73) (by kernel_rfl) rfl (by rfl) rfl (by go_simp) (by go_simp) (hr2) (HS.out _ hb4) ?_
        refine wpAnyH_done (by kernel_rfl) ?_ _
        unfold RX.lastQ
        obtain ⟨h5, t5⟩ := (HV.out.below hb4).setL (ls' := .slice a4 (n + 1) c4) (A' := ⟨A.pl ++ [(A.slot, t)], A.lst⟩) (R' := R') (by rw [show pls (⟨A.pl ++ [(A.slot, t)], A.lst⟩ : Ab) = pls A ++ [((m : Int), t)] from HPLS.out]; exact hrow4) rfl (fun k hk hf => by have := hown4 k hk; have := HV.out.lt k hf; omega) (HRN.out V4 hb4)
        have l5 := (HLV.out.below hb4).stay (t5.stay (G := fun k => k = g) (fun k hk e => HGX.out (hk.symm.trans e))) rfl
        have cx4 := (HV.out.below hb4).lit.cell (o := 0) rfl
        have fz4 := (HV.out.below hb4).lit.fz 0
        have hx4 := (HV.out.below hb4).lit.lt
        obtain ⟨W5, hW5⟩ : ∃ W5, V4.setCell ⟨x, 0, none⟩ (.slice a4 (n + 1) c4) = W5 := ⟨_, rfl⟩
        rw [hW5] at h5 t5 l5
        have HW5 := Lib.hid hW5
        obtain ⟨e0, e1, -, -, -, -, -, hgl5⟩ := cells7e l5
        have hcon5 := rgive_is W5 x _ z _ _ gs gl _ t.no t.id (by have := HZ.out; omega) h5 (A.put t) rfl (fun y => by
          show (if y = t.no then max (A.lst y) t.id else A.lst y) = if y = t.no then max t.id (A.lst t.no) else A.lst y
          by_cases e : y = t.no
          · rw [if_pos e, if_pos e, e, Int.max_comm]
          · rw [if_neg e, if_neg e])
        have HT5 := Lib.hid (show Touch F w W5 ∧ (∀ k, Value.ownBlock (.slice a4 (n + 1) c4) = some k → w.heap.size ≤ k) from ⟨(Touch.of_below (HWV.out.trans (hb4.mono HWV.out.size))).trans t5 (fun k _ hk => by rw [hk]; exact HH.out.fx), fun k hk => Nat.le_trans HWV.out.size (hown4 k hk)⟩)
        clear h5 t5 l5 hW5 hrow4 hown4 hb4
        go_upto_region 8 with (fail)
        rw [HW5.out]
        clear HW5 cx4 fz4 hx4
        go_wp2_with fail
        refine (show Calls Tryz.prog _ _ _ _ from hcon5).mono ?_
        rintro e w9 ⟨rfl, F', gs', gl', q1, q2, q3⟩
        have HE9 := Lib.hid (And.intro q1 (And.intro q2 q3))
        clear hcon5 q1 q2 q3
        go_wp2_with fail
        go_ret2
        obtain ⟨q1, q2, q3⟩ := HE9.out
        obtain ⟨t5, ho5⟩ := HT5.out
        have hm : More w.heap.size F (fun k => F k ∨ Value.ownBlock (.slice a4 (n + 1) c4) = some k ∨ R' k) := ⟨fun k hk => .inl hk, fun k hk => by
          rcases hk with hk | hk | hk
          · exact .inl hk
          · exact .inr (ho5 k hk)
          · exact (HRW.out k hk)⟩
        rw [HSLOT.out.1]
        exact ⟨rfl, F', .slice a4 (n + 1) c4, gs', gl', R', q1, hm.trans (q2.mono t5.size), t5.trans q3 (fun k hk hF => (hm.new k hF).elim id (fun e => by omega))⟩
    · have hvz : (0 : Int) ≤ (i : Int) := by omega
      have hmm : m ∈ A.used := by
        obtain ⟨k, e1, e2⟩ := pls_mem (List.mem_of_getElem? hp)
        have : k = m := by omega
        rw [← this]
        exact List.mem_map.2 ⟨_, e2, rfl⟩
      have h1 : m + 1 ≤ n := by
        have := pigeon (m + 1) A.used (fun j hj => by
          by_cases e : j = m
          · rw [e]; exact hmm
          · exact HJ.out j (by omega))
        rw [used_len, ← pls_len, HN.out] at this
        exact this
      clear hp hpy
      go_wp2_with fail
      go_roundg (n + 1 - (m + 1))
      case measure => have := HMG.out; omega
      case rel => exact ⟨m + 1, by go_num, h1, Nat.le_refl _, Lib.hid (fun j hj => by
        by_cases e : j = m
        · rw [e]; exact hmm
        · exact HJ.out j (by omega)), rfl⟩

end Go.Proofs.YtbgnbaogclnpgaaGreat

namespace Go.Proofs.YtbgnbaogclnpgaaGreat
open Go.RowKit
set_option linter.unusedVariables false

set_option maxRecDepth 100000 in
set_option maxHeartbeats 8000000 in
theorem rput_b1 (w : World) (x : Nat) (t : Tup) (s : Value) (h1 : t.no < 1) :
    Calls Tryz.prog 37 #[.pointer (some ⟨x, 0, none⟩), tupV t s] w fun e w' => e = .returned (.tuple #[.int .i64 0, .int .i64 1]) ∧ Below w.heap.size w w' := by
  obtain ⟨g, hgg⟩ : ∃ g, w.heap.size = g := ⟨_, rfl⟩
  have b1 := Below.allocs w (.cells (tupC t s).toArray 87)
  have l1 := Lit.new w 87 (tupC t s)
  obtain ⟨W1, hW1⟩ : ∃ W, w.alloc (.cells (tupC t s).toArray 87) = W := ⟨_, rfl⟩
  rw [hW1] at b1 l1
  rw [hgg] at l1
  have HB := Lib.hid b1
  have HW1 := Lib.hid hW1
  have HG1 := Lib.hid hgg
  unfold tupC at HW1
  obtain ⟨k0, k1, -, -, -, -, -, kl⟩ := cells7e l1
  unfold tupV
  clear l1 hgg hW1 b1
  go_enter Tryz.func37, Tryz.ntmps37
  go_upto_region 1 with (fail)
  rw [show w.alloc _ = W1 from HW1.out, HG1.out]
  clear HW1 HG1
  go_wp2_with fail
  go_ret2
  exact ⟨rfl, HB.out⟩

theorem rput_b2 (w : World) (x : Nat) (t : Tup) (s : Value) (h1 : 1 ≤ t.no) (h2 : t.id < 1) :
    Calls Tryz.prog 37 #[.pointer (some ⟨x, 0, none⟩), tupV t s] w fun e w' => e = .returned (.tuple #[.int .i64 0, .int .i64 1]) ∧ Below w.heap.size w w' := by
  obtain ⟨g, hgg⟩ : ∃ g, w.heap.size = g := ⟨_, rfl⟩
  have b1 := Below.allocs w (.cells (tupC t s).toArray 87)
  have l1 := Lit.new w 87 (tupC t s)
  obtain ⟨W1, hW1⟩ : ∃ W, w.alloc (.cells (tupC t s).toArray 87) = W := ⟨_, rfl⟩
  rw [hW1] at b1 l1
  rw [hgg] at l1
  have HB := Lib.hid b1
  have HW1 := Lib.hid hW1
  have HG1 := Lib.hid hgg
  unfold tupC at HW1
  obtain ⟨k0, k1, -, -, -, -, -, kl⟩ := cells7e l1
  unfold tupV
  clear l1 hgg hW1 b1
  go_enter Tryz.func37, Tryz.ntmps37
  go_upto_region 1 with (fail)
  rw [show w.alloc _ = W1 from HW1.out, HG1.out]
  clear HW1 HG1
  go_wp2_with fail
  go_ret2
  exact ⟨rfl, HB.out⟩

theorem rput_b3 (w : World) (x : Nat) (t : Tup) (s : Value) (h1 : 1 ≤ t.no) (h2 : 1 ≤ t.id) (h3 : 2147483647 < t.no) :
    Calls Tryz.prog 37 #[.pointer (some ⟨x, 0, none⟩), tupV t s] w fun e w' => e = .returned (.tuple #[.int .i64 0, .int .i64 1]) ∧ Below w.heap.size w w' := by
  obtain ⟨g, hgg⟩ : ∃ g, w.heap.size = g := ⟨_, rfl⟩
  have b1 := Below.allocs w (.cells (tupC t s).toArray 87)
  have l1 := Lit.new w 87 (tupC t s)
  obtain ⟨W1, hW1⟩ : ∃ W, w.alloc (.cells (tupC t s).toArray 87) = W := ⟨_, rfl⟩
  rw [hW1] at b1 l1
  rw [hgg] at l1
  have HB := Lib.hid b1
  have HW1 := Lib.hid hW1
  have HG1 := Lib.hid hgg
  unfold tupC at HW1
  obtain ⟨k0, k1, -, -, -, -, -, kl⟩ := cells7e l1
  unfold tupV
  clear l1 hgg hW1 b1
  go_enter Tryz.func37, Tryz.ntmps37
  go_upto_region 1 with (fail)
  rw [show w.alloc _ = W1 from HW1.out, HG1.out]
  clear HW1 HG1
  go_wp2_with fail
  go_ret2
  exact ⟨rfl, HB.out⟩

theorem rput_b4 (w : World) (x : Nat) (t : Tup) (s : Value) (h1 : 1 ≤ t.no) (h2 : 1 ≤ t.id) (h3 : t.no ≤ 2147483647) (h4 : 2147483647 < t.id) :
    Calls Tryz.prog 37 #[.pointer (some ⟨x, 0, none⟩), tupV t s] w fun e w' => e = .returned (.tuple #[.int .i64 0, .int .i64 1]) ∧ Below w.heap.size w w' := by
  obtain ⟨g, hgg⟩ : ∃ g, w.heap.size = g := ⟨_, rfl⟩
  have b1 := Below.allocs w (.cells (tupC t s).toArray 87)
  have l1 := Lit.new w 87 (tupC t s)
  obtain ⟨W1, hW1⟩ : ∃ W, w.alloc (.cells (tupC t s).toArray 87) = W := ⟨_, rfl⟩
  rw [hW1] at b1 l1
  rw [hgg] at l1
  have HB := Lib.hid b1
  have HW1 := Lib.hid hW1
  have HG1 := Lib.hid hgg
  unfold tupC at HW1
  obtain ⟨k0, k1, -, -, -, -, -, kl⟩ := cells7e l1
  unfold tupV
  clear l1 hgg hW1 b1
  go_enter Tryz.func37, Tryz.ntmps37
  go_upto_region 1 with (fail)
  rw [show w.alloc _ = W1 from HW1.out, HG1.out]
  clear HW1 HG1
  go_wp2_with fail
  go_ret2
  exact ⟨rfl, HB.out⟩


theorem Rf.more {W : World} {x z z' : Nat} {A : Ab} {F : Nat → Prop} {ls gs : Value} {gl : List Gvn} {R : Nat → Prop} (h : Rf W x A z F ls gs gl R) (hz : z ≤ z') : Rf W x A z' F ls gs gl R := ⟨h.lit, h.row, h.giv, h.most, Nat.le_trans h.gz hz, h.fx, h.fl, h.fg, h.fr, h.lt⟩

theorem rput_is (w : World) (x : Nat) (A : Ab) (z : Nat) (F : Nat → Prop) (ls gs : Value) (gl : List Gvn) (R : Nat → Prop) (t : Tup) (a : Option Addr) (c n : Nat) (hn : t.row.length = n) (h9 : n ≤ 1000000) (hz : z ≤ 40000) (hzl : A.pl.length ≤ 40000) (hr : SlL w a c t.row) (H : Rf w x A z F ls gs gl R) :
    Calls Tryz.prog 37 #[.pointer (some ⟨x, 0, none⟩), tupV t (.slice a n c)] w fun e w' => e = .returned (.tuple #[.int .i64 (A.ptV t), .int .i64 (A.ptE t)]) ∧ ∃ F' ls' gs' gl' R', Rf w' x (A.pt t) (z + 1) F' ls' gs' gl' R' ∧ More w.heap.size F F' ∧ Touch F w w' := by
  unfold Ab.pt Ab.ptV Ab.ptE
  by_cases hx : goodT t
  · rw [if_pos hx, if_pos hx, if_pos hx]
    exact rput_good w x A z F ls gs gl R t a c _ hn h9 hx hz hzl hr H
  · rw [if_neg hx, if_neg hx, if_neg hx]
    have hk : Calls Tryz.prog 37 #[.pointer (some ⟨x, 0, none⟩), tupV t (.slice a n c)] w fun e w' => e = .returned (.tuple #[.int .i64 0, .int .i64 1]) ∧ Below w.heap.size w w' := by
      by_cases h1 : t.no < 1
      · exact rput_b1 w x t _ h1
      by_cases h2 : t.id < 1
      · exact rput_b2 w x t _ (by omega) h2
      by_cases h3 : 2147483647 < t.no
      · exact rput_b3 w x t _ (by omega) (by omega) h3
      by_cases h4 : 2147483647 < t.id
      · exact rput_b4 w x t _ (by omega) (by omega) (by omega) h4
      exact absurd ⟨⟨by omega, by omega⟩, by omega, by omega⟩ hx
    refine hk.mono ?_
    rintro e w' ⟨rfl, hb⟩
    exact ⟨rfl, F, ls, gs, gl, R, (H.below hb).more (Nat.le_succ z), More.refl _ _, Touch.of_below hb⟩

end Go.Proofs.YtbgnbaogclnpgaaGreat
