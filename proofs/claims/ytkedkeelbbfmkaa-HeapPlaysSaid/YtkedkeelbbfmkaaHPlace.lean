/-
  Rows of places: a slot, and a version (stage 11).
-/
import Derived.Test.YtkedkeelbbfmkaaHMore2
namespace Go.Proofs.Ytkedkeelbbfmkaa
open Go.RowKit
set_option linter.unusedVariables false

abbrev Plc := Int × Tup
def plC (p : Plc) (v : Value) : List Value := [.int .i64 p.1, .int .i64 p.2.no, .int .i64 p.2.id, .int .i64 p.2.mn, .int .i64 p.2.cm, .int .i64 p.2.mx, .int .i64 p.2.cx, v]
def pl0 : Plc := (0, tup0)

theorem info_pl : (Try.prog.info? 61).map (fun i => (i.zero, i.size, i.bytes)) = some (some (.agg #[.int .i64 0, .int .i64 0, .int .i64 0, .int .i64 0, .int .i64 0, .int .i64 0, .int .i64 0, .slice none 0 0]), 8, 80) := by kernel_rfl

theorem SlL.stay {G : Nat → Prop} {W W' : World} {a : Option Addr} {c : Nat} {l : List Val} (h : SlL W a c l) (hs : Stay G W W') (hG : l ≠ [] → ∀ b o, a = some ⟨b, o, none⟩ → G b) : SlL W' a c l :=
  ⟨h.lc, h.cm, fun hl => by
    obtain ⟨b, o, e, hx⟩ := h.at' hl
    refine ⟨b, o, e, fun i x hi => ?_⟩
    obtain ⟨h0, h1, h2, h3, h4⟩ := hx i x hi
    have hb := hG hl b o e
    exact ⟨by rw [hs.cell h4 hb]; exact h0, by rw [hs.cell h4 hb]; exact h1, by rw [hs.cell h4 hb]; exact h2, by rw [hs.cell h4 hb]; exact h3, Nat.lt_of_lt_of_le h4 hs.size⟩, h.wf⟩
theorem SlL.lt {W : World} {a : Option Addr} {c : Nat} {l : List Val} (h : SlL W a c l) (hl : l ≠ []) {b o : Nat} (e : a = some ⟨b, o, none⟩) : b < W.heap.size := by
  obtain ⟨b2, o2, e2, hx⟩ := h.at' hl
  rw [e] at e2
  cases e2
  cases l with
  | nil => exact absurd rfl hl
  | cons x l =>
    obtain ⟨_, _, _, _, h4⟩ := hx 0 x rfl
    exact h4

/-- A row of places; the versions' rows lie in blocks of R, and it does not itself. -/
structure RowP (R : Nat → Prop) (W : World) (s : Value) (l : List Plc) : Prop where
  ex : ∃ rv : Nat → Value, RowF 61 8 W s l.length (fun j => plC (l.getD j pl0) (rv j)) ∧
    ∀ j p, l[j]? = some p → ∃ a c, rv j = .slice a p.2.row.length c ∧ SlL W a c p.2.row ∧ (p.2.row ≠ [] → ∀ b o, a = some ⟨b, o, none⟩ → R b)
  own : ∀ k, s.ownBlock = some k → ¬ R k

section
variable {R R' : Nat → Prop} {W W' : World} {s : Value} {l : List Plc}
theorem RowP.stay {G : Nat → Prop} (h : RowP R W s l) (hs : Stay G W W') (hG : ∀ k, s.ownBlock = some k → G k) (hR : ∀ k, R k → G k) : RowP R W' s l := by
  obtain ⟨⟨rv, h1, h2⟩, h3⟩ := h
  refine ⟨⟨rv, h1.stay hs hG, fun j p hp => ?_⟩, h3⟩
  obtain ⟨a, c, q1, q2, q3⟩ := h2 j p hp
  exact ⟨a, c, q1, q2.stay hs (fun hl b o e => hR b (q3 hl b o e)), q3⟩
theorem RowP.below (h : RowP R W s l) (hb : Below W.heap.size W W') : RowP R W' s l := h.stay (G := fun _ => True) (Stay.of_below hb) (fun _ _ => trivial) (fun _ _ => trivial)
theorem RowP.nil (R : Nat → Prop) (W : World) : RowP R W (.slice none 0 0) [] := ⟨⟨fun _ => .slice none 0 0, RowF.nil _ _ _ _, fun j p hp => by simp at hp⟩, fun k hk => by cases hk⟩
theorem RowP.form (h : RowP R W s l) : ∃ a c, s = .slice a l.length c ∧ l.length ≤ c ∧ c ≤ maxLen := by
  obtain ⟨⟨rv, h1, h2⟩, h3⟩ := h
  exact h1.form
theorem RowP.lt (h : RowP R W s l) : ∀ k, s.ownBlock = some k → k < W.heap.size := by
  obtain ⟨⟨rv, h1, h2⟩, h3⟩ := h
  exact h1.lt
theorem RowP.at {a : Option Addr} {n c i : Nat} {p : Plc} (h : RowP R W (.slice a n c) l) (hp : l[i]? = some p) : ∃ b ra rc, a = some ⟨b, 0, none⟩ ∧ b < W.heap.size ∧ SlL W ra rc p.2.row ∧ (p.2.row ≠ [] → ∀ b o, ra = some ⟨b, o, none⟩ → R b) ∧
    W.cell? ⟨b, i * 8, none⟩ = some (.int .i64 p.1) ∧ W.cell? ⟨b, i * 8 + 1, none⟩ = some (.int .i64 p.2.no) ∧ W.cell? ⟨b, i * 8 + 2, none⟩ = some (.int .i64 p.2.id) ∧ W.cell? ⟨b, i * 8 + 3, none⟩ = some (.int .i64 p.2.mn) ∧ W.cell? ⟨b, i * 8 + 4, none⟩ = some (.int .i64 p.2.cm) ∧ W.cell? ⟨b, i * 8 + 5, none⟩ = some (.int .i64 p.2.mx) ∧ W.cell? ⟨b, i * 8 + 6, none⟩ = some (.int .i64 p.2.cx) ∧ W.cell? ⟨b, i * 8 + 7, none⟩ = some (.slice ra p.2.row.length rc) := by
  obtain ⟨⟨rv, h1, h2⟩, h3⟩ := h
  obtain ⟨hi, e⟩ := List.getElem?_eq_some_iff.1 hp
  obtain ⟨ra, rc, q1, q2, q3⟩ := h2 i p hp
  obtain ⟨b, c', e1, -, -, hb, hc, -⟩ := h1.at hi
  simp only [Value.slice.injEq] at e1
  obtain ⟨rfl, -, -⟩ := e1
  have hg : l.getD i pl0 = p := by simp [hi, e]
  have hc' : ∀ o v, (plC p (rv i))[o]? = some v → W.cell? ⟨b, i * 8 + o, none⟩ = some v := fun o v hv => hc i hi o v (by rw [hg]; exact hv)
  rw [q1] at hc'
  exact ⟨b, ra, rc, rfl, hb, q2, q3, hc' 0 _ rfl, hc' 1 _ rfl, hc' 2 _ rfl, hc' 3 _ rfl, hc' 4 _ rfl, hc' 5 _ rfl, hc' 6 _ rfl, hc' 7 _ rfl⟩

/-- One more, by append. -/
theorem RowP.push (h : RowP R W s l) (p : Plc) (a : Option Addr) (c : Nat) (ty : TypeId) (hr : SlL W a c p.2.row) (hRR : ∀ k, R k → R' k) (hnew : p.2.row ≠ [] → ∀ b o, a = some ⟨b, o, none⟩ → R' b) (hno : ∀ k, s.ownBlock = some k → ¬ R' k) (hlt : ∀ k, R' k → k < W.heap.size) (hn : l.length + 1 ≤ 1000000) :
    ∃ a' c' W6, (Builtin.append_ #[59, 59] ty #[s, .slice (some ⟨W.heap.size, 0, none⟩) 1 1]).run Try.prog (W.alloc (.cells (plC p (.slice a p.2.row.length c)).toArray 61)) = .ok (.slice a' (l.length + 1) c') W6 ∧
      RowP R' W6 (.slice a' (l.length + 1) c') (l ++ [p]) ∧ Touch (fun k => s.ownBlock = some k) W W6 ∧ (∀ k, Value.ownBlock (.slice a' (l.length + 1) c') = some k → s.ownBlock = some k ∨ W.heap.size ≤ k) := by
  obtain ⟨i0, hi, hz, hsz, hby⟩ := info_parts info_pl
  obtain ⟨⟨rv, h1, h2⟩, h3⟩ := h
  have hal := Below.allocs W (.cells (plC p (.slice a p.2.row.length c)).toArray 61)
  have hlit := Lit.new W 61 (plC p (.slice a p.2.row.length c))
  obtain ⟨s', W6, hrun, hrow, hg, hown⟩ := (h1.below hal).append (P := Try.prog) 59 ty i0 _ 80 Try.underlying59 hi hz hsz hby rfl (by decide) (by decide) (b := W.heap.size) (k := 1) (c := 1) (q := fun _ => plC p (.slice a p.2.row.length c))
    (fun j hj o v hv => by
      obtain rfl : j = 0 := by omega
      rw [Nat.zero_mul, Nat.zero_add]
      exact hlit.cell hv) (fun _ _ => rfl) (fun _ _ v hv => by
        simp only [plC, List.mem_cons, List.not_mem_nil, or_false] at hv
        rcases hv with rfl | rfl | rfl | rfl | rfl | rfl | rfl | rfl <;> rfl) (by omega)
  obtain ⟨a', c', rfl, _, _⟩ := hrow.form
  have ht : Touch (fun k => s.ownBlock = some k) W W6 := (Touch.of_below hal).trans (Touch.grown hg (fun k hk => hk)) (fun _ _ h => h)
  have hown' : ∀ k, Value.ownBlock (.slice a' (l.length + 1) c') = some k → s.ownBlock = some k ∨ W.heap.size ≤ k := fun k hk => by
    rcases hown with e | e
    · exact .inl (e ▸ hk)
    · right
      rw [e] at hk
      have : (W.alloc (.cells (plC p (.slice a p.2.row.length c)).toArray 61)).heap.size = k := Option.some.inj hk
      simp at this
      omega
  have hst := ht.stay (G := R') (fun k hk e => hno k e hk)
  refine ⟨a', c', W6, hrun, ⟨⟨fun j => if j < l.length then rv j else .slice a p.2.row.length c, ?_, fun j q hq => ?_⟩, fun k hk hR => ?_⟩, ht, hown'⟩
  · rw [List.length_append, List.length_singleton]
    refine hrow.congr fun j hj => ?_
    by_cases hjn : j < l.length
    · simp only [if_pos hjn]
      simp [List.getElem?_append_left hjn, hjn]
    · have e : j = l.length := by omega
      subst e
      simp
  · by_cases hjn : j < l.length
    · rw [List.getElem?_append_left hjn] at hq
      simp only [if_pos hjn]
      obtain ⟨a2, c2, q1, q2, q3⟩ := h2 j q hq
      exact ⟨a2, c2, q1, q2.stay hst (fun hl b o e => hRR b (q3 hl b o e)), fun hl b o e => hRR b (q3 hl b o e)⟩
    · have hj : j = l.length := by
        have := (List.getElem?_eq_some_iff.1 hq).1
        rw [List.length_append, List.length_singleton] at this
        omega
      subst hj
      rw [List.getElem?_concat_length] at hq
      cases hq
      simp only [if_neg hjn]
      exact ⟨a, c, rfl, hr.stay hst hnew, hnew⟩
  · rcases hown' k hk with e | e
    · exact hno k e hR
    · have := hlt k hR; omega
end

/-! ### A heap beside rows -/

theorem One.app {X X' Y : Nat → Prop} {w0 w w' : World} {h z : Nat} {A : Ab} (H : One X w0 w h A z) (ht : Touch Y w w') (hY : ∀ k, Y k → X k ∧ w0.heap.size ≤ k) (hX : ∀ k, X' k → (X k ∨ w.heap.size ≤ k) ∧ k < w'.heap.size) : One X' w0 w' h A z := by
  obtain ⟨F, h1, h2, h3, h4⟩ := H
  exact ⟨F, h1.apart ht (fun k hk hy => (h4 k (hY k hy).1).1 hk), h2, h3.trans (ht.below (fun k hk => (hY k hk).2) h3.size), fun k hk => ⟨fun hf => by
    rcases (hX k hk).1 with e | e
    · exact (h4 k e).1 hf
    · have := h1.lt k hf; omega, (hX k hk).2⟩⟩

/-- The same versions. -/
def pls (A : Ab) : List Plc := A.pl.map fun p => ((p.1 : Int), p.2)
theorem pls_len (A : Ab) : (pls A).length = A.pl.length := by unfold pls; rw [List.length_map]
theorem pls_mem {A : Ab} {p : Plc} (h : p ∈ pls A) : ∃ k : Nat, p.1 = (k : Int) ∧ (k, p.2) ∈ A.pl := by
  obtain ⟨q, hq, rfl⟩ := List.mem_map.1 h
  exact ⟨q.1, rfl, hq⟩
theorem pls_put (A : Ab) (t : Tup) : pls (A.put t) = pls A ++ [((A.slot : Int), t)] := by unfold pls Ab.put; simp

/-- What a step leaves of a place. -/
def leftP (s : Stp) (p : Plc) : Option Plc := if p.1 = s.slot ∧ s.kind = 2 then none else if p.1 = s.slot ∧ s.kind = 1 then some (p.1, p.2.kill s.a s.b) else some p
def hitP (s : Stp) (p : Plc) : Bool := decide (p.1 = s.slot ∧ (s.kind = 1 ∨ s.kind = 2))

theorem filterMap_same {α β : Type} {f g : α → Option β} : ∀ {l : List α}, (∀ x ∈ l, f x = g x) → l.filterMap f = l.filterMap g
  | [], _ => rfl
  | a :: l, h => by
    rw [List.filterMap_cons, List.filterMap_cons, h a (List.mem_cons_self ..), filterMap_same fun x hx => h x (List.mem_cons_of_mem _ hx)]
theorem filterMap_some {α : Type} {f : α → Option α} : ∀ {l : List α}, (∀ x ∈ l, f x = some x) → l.filterMap f = l
  | [], _ => rfl
  | a :: l, h => by
    rw [List.filterMap_cons_some (h a (List.mem_cons_self ..)), filterMap_some fun x hx => h x (List.mem_cons_of_mem _ hx)]

theorem tupI_none {A : Ab} {x : Int} : A.tupI x = none ↔ ∀ p ∈ pls A, p.1 ≠ x := by
  unfold Ab.tupI
  constructor
  · intro h p hp e
    obtain ⟨k, e2, hm⟩ := pls_mem hp
    rw [← e, e2, if_pos (by omega), Int.toNat_natCast, tup_used] at h
    exact h (List.mem_map.2 ⟨_, hm, rfl⟩)
  · intro h
    split
    · rw [tup_used]
      intro hm
      obtain ⟨q, hq, e⟩ := List.mem_map.1 hm
      exact h ((q.1 : Int), q.2) (List.mem_map.2 ⟨q, hq, rfl⟩) (by show (q.1 : Int) = x; rw [e]; omega)
    · rfl

theorem left_kill (A : Ab) (s : Stp) (hk : s.kind = 1) : (pls A).filterMap (leftP s) = pls (A.kl s.slot s.a s.b) := by
  unfold Ab.kl
  split
  · rename_i h
    exact filterMap_some fun p hp => by unfold leftP; rw [if_neg (fun e => by omega), if_neg (fun e => tupI_none.1 h p hp e.1)]
  · rename_i h
    unfold pls Ab.kill
    rw [List.filterMap_map, List.map_map, ← List.filterMap_eq_map]
    refine filterMap_same fun p hp => ?_
    simp only [Function.comp]
    have hs : 0 ≤ s.slot := by
      apply Classical.byContradiction
      intro e
      exact h (by unfold Ab.tupI; rw [if_neg e])
    unfold leftP killP
    rw [if_neg (fun e => by omega)]
    by_cases e : p.1 = s.slot.toNat
    · rw [if_pos ⟨by show (p.1 : Int) = _; omega, hk⟩, if_pos e]
    · rw [if_neg (fun e2 => e (by have : (p.1 : Int) = s.slot := e2.1; omega)), if_neg e]
theorem left_free (A : Ab) (s : Stp) (hk : s.kind = 2) : (pls A).filterMap (leftP s) = pls (A.fe s.slot) := by
  unfold Ab.fe
  split
  · rename_i h
    exact filterMap_some fun p hp => by unfold leftP; rw [if_neg (fun e => tupI_none.1 h p hp e.1), if_neg (fun e => by omega)]
  · rename_i h
    have hs : 0 ≤ s.slot := by
      apply Classical.byContradiction
      intro e
      exact h (by unfold Ab.tupI; rw [if_neg e])
    unfold pls Ab.free
    rw [List.filterMap_map, ← List.filterMap_eq_map, ← List.filterMap_eq_filter, List.filterMap_filterMap]
    refine filterMap_same fun p hp => ?_
    simp only [Function.comp]
    unfold leftP
    by_cases e : p.1 = s.slot.toNat
    · rw [if_pos ⟨by show (p.1 : Int) = _; omega, hk⟩]
      simp [e, Option.guard]
    · rw [if_neg (fun e2 => e (by have : (p.1 : Int) = s.slot := e2.1; omega)), if_neg (fun e => by omega)]
      simp [e, Option.guard]
theorem left_else {s : Stp} (l : List Plc) (h1 : s.kind ≠ 1) (h2 : s.kind ≠ 2) : l.filterMap (leftP s) = l :=
  filterMap_some fun p _ => by unfold leftP; rw [if_neg (fun e => h2 e.2), if_neg (fun e => h1 e.2)]

/-- Those that are there behind the step's first part: one more, if it was put. -/
def fstP (A : Ab) (s : Stp) : List Plc := if s.kind = 0 ∧ A.doE s = 0 then pls A ++ [((A.slot : Int), s.t)] else pls A
theorem left_all (A : Ab) (s : Stp) : (fstP A s).filterMap (leftP s) = pls (A.doA s) := by
  unfold fstP
  by_cases h0 : s.kind = 0
  · rw [left_else _ (by omega) (by omega)]
    by_cases he : A.doE s = 0
    · rw [if_pos ⟨h0, he⟩, (doE_put h0 he).2.1, pls_put]
    · rw [if_neg (fun e => he e.2), doE_bad h0 he]
  · rw [if_neg (fun e => h0 e.1)]
    by_cases h1 : s.kind = 1
    · rw [left_kill A s h1, doA_kill h1]
    · by_cases h2 : s.kind = 2
      · rw [left_free A s h2, doA_free h2]
      · rw [left_else _ h1 h2, (doA_next h0 h1 h2).1]
        unfold pls
        rw [nx_pl]
theorem hit_all (A : Ab) (s : Stp) (hk : s.kind = 1 ∨ s.kind = 2) : (fstP A s).any (hitP s) = decide (A.doE s = 0) := by
  unfold fstP
  rw [if_neg (fun e => by omega)]
  have hE : A.doE s = A.atE s.slot := by
    unfold Ab.doE
    rw [if_neg (by omega)]
    rcases hk with h | h
    · rw [if_pos h]
    · rw [if_neg (by omega), if_pos h]
  rw [hE]
  unfold Ab.atE
  rw [Bool.eq_iff_iff, List.any_eq_true]
  constructor
  · rintro ⟨p, hp, h⟩
    unfold hitP at h
    simp only [decide_eq_true_eq] at h
    rw [if_neg (fun e => tupI_none.1 e p hp h.1)]
    rfl
  · intro h
    simp only [decide_eq_true_eq] at h
    apply Classical.byContradiction
    intro h2
    rw [if_pos (tupI_none.2 fun p hp e => h2 ⟨p, hp, by unfold hitP; simp only [decide_eq_true_eq]; exact ⟨e, hk⟩⟩)] at h
    omega
theorem take_left {l : List Plc} {s : Stp} {k : Nat} {p : Plc} (h : l[k]? = some p) : (l.take (k + 1)).filterMap (leftP s) = (l.take k).filterMap (leftP s) ++ (leftP s p).toList := by
  rw [List.take_add_one, h, List.filterMap_append]
  cases e : leftP s p <;> simp [e]
theorem take_hit {l : List Plc} {s : Stp} {k : Nat} {p : Plc} (h : l[k]? = some p) : (l.take (k + 1)).any (hitP s) = ((l.take k).any (hitP s) || hitP s p) := by
  rw [List.take_add_one, h, List.any_append]
  simp

end Go.Proofs.Ytkedkeelbbfmkaa
