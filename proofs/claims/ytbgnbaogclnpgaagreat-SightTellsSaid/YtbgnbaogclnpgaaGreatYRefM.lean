/-
  The document's own table of transactions (stage 9): its memory when it is written.
-/
import Derived.Test.YtbgnbaogclnpgaaGreatYRef
namespace Go.Proofs.YtbgnbaogclnpgaaGreat
open Go.RowKit
set_option linter.unusedVariables false

theorem info_o : (Tryz.prog.info? 120).map (fun i => (i.zero, i.size, i.bytes)) = some (some (.agg #[.int .i64 0, .int .u8 0, .int .i64 0]), 3, 24) := by kernel_rfl

/-- The document's table in its two blocks, whatever stands in its records. -/
structure RawR (W : World) (x : Nat) (s : Value) (n : Nat) (last : Int) (f : Nat → List Value) (F : Nat → Prop) : Prop where
  lit : Lit W x 79 [s, .int .i64 last]
  row : RowF 120 3 W s n f
  own : ∀ k, s.ownBlock = some k → F k ∧ k ≠ x
  ft : F x
  lt : ∀ k, F k → k < W.heap.size

theorem IsR.raw {W : World} {x : Nat} {T : Tb} {F : Nat → Prop} (h : IsR W x T F) : ∃ s, RawR W x s T.n T.last (recR T) F := by
  obtain ⟨s, h1, h2, h3⟩ := h.ex
  exact ⟨s, h1, h2, h3, h.ft, h.lt⟩

section
variable {W W' : World} {x : Nat} {s : Value} {n : Nat} {last : Int} {f g : Nat → List Value} {F : Nat → Prop}

theorem RawR.is {T : Tb} (h : RawR W x s n last f F) (hn : T.n = n) (hla : (T.last : Int) = last) (hp : ∀ k, 1 ≤ k → k ≤ n → T.par k < k) (hf : ∀ j, j < n → recR T j = f j) : IsR W x T F := by
  subst hn hla
  exact ⟨hp, h.ft, h.lt, s, h.lit, h.row.congr hf, h.own⟩

theorem RawR.stay (h : RawR W x s n last f F) (hs : Stay F W W') : RawR W' x s n last f F :=
  ⟨h.lit.stay hs h.ft, h.row.stay hs (fun k hk => (h.own k hk).1), h.own, h.ft, fun k hk => Nat.lt_of_lt_of_le (h.lt k hk) hs.size⟩
theorem RawR.below (h : RawR W x s n last f F) (hb : Below W.heap.size W W') : RawR W' x s n last f F := h.stay (Stay.of_below hb)
theorem RawR.drew (h : RawR W x s n last f F) : RawR W.drew x s n last f F := h.below (below_drw W)

/-- A cell of a record is written. -/
theorem RawR.set (h : RawR W x s n last f F) {j c o b : Nat} (hb : s.ownBlock = some b) (hj : j < n) (hc : c < 3) (ho : o = j * 3 + c) (v : Value) :
    RawR (W.setCell ⟨b, o, none⟩ v) x s n last (updR f j ((f j).set c v)) F ∧ Touch F W (W.setCell ⟨b, o, none⟩ v) := by
  have ho' := h.own b hb
  have ht := Touch.setCell W (F := F) ho'.1 o v
  have ht2 := Touch.setCell W (F := fun k => k = b) rfl o v
  exact ⟨⟨h.lit.stay (ht2.stay (G := fun k => k = x) (fun k hk hx => ho'.2 (by omega))) rfl, h.row.set hb hj hc ho v, h.own, h.ft, fun k hk => Nat.lt_of_lt_of_le (h.lt k hk) ht.size⟩, ht⟩

/-- The second cell is written. -/
theorem RawR.setLast (h : RawR W x s n last f F) (v : Int) : RawR (W.setCell ⟨x, 1, none⟩ (.int .i64 v)) x s n v f F ∧ Touch F W (W.setCell ⟨x, 1, none⟩ (.int .i64 v)) := by
  have ht := Touch.setCell W (F := F) h.ft 1 (.int .i64 v)
  have ht2 := Touch.setCell W (F := fun k => k = x) rfl 1 (.int .i64 v)
  exact ⟨⟨h.lit.set 1 _, h.row.stay (ht2.stay (G := fun k => k ≠ x) (fun k hk hx => hk hx)) (fun k hk => (h.own k hk).2), h.own, h.ft, fun k hk => Nat.lt_of_lt_of_le (h.lt k hk) ht.size⟩, ht⟩

/-- Another row, all of it new, is put into the first cell. -/
theorem RawR.put (h : RawR W x s n last f F) {W2 : World} {s2 : Value} {n2 : Nat} {f2 : Nat → List Value} (hb : Below W.heap.size W W2) (hr : RowF 120 3 W2 s2 n2 f2) (ho : ∀ k, s2.ownBlock = some k → W.heap.size ≤ k) :
    Lit W2 x 79 [s, .int .i64 last] ∧ RawR (W2.setCell ⟨x, 0, none⟩ s2) x s2 n2 last f2 (fun k => F k ∨ (W.heap.size ≤ k ∧ k < W2.heap.size)) ∧ Touch F W (W2.setCell ⟨x, 0, none⟩ s2) := by
  have hl := h.lit.below hb
  have hset := Touch.setCell W2 (F := fun k => k = x) rfl 0 s2
  have hx := h.lt x h.ft
  have hbs := hb.size
  refine ⟨hl, ⟨hl.set 0 s2, hr.stay (hset.stay (G := fun k => k ≠ x) (fun k hk hx => hk hx)) (fun k hk => by have := ho k hk; omega), fun k hk => ⟨.inr ⟨ho k hk, hr.lt k hk⟩, by have := ho k hk; omega⟩, .inl h.ft, fun k hk => ?_⟩, ?_⟩
  · have := hset.size
    rcases hk with hk | hk
    · have := h.lt k hk; omega
    · omega
  · exact (Touch.of_below hb).trans hset (fun k _ hk => by rw [hk]; exact h.ft)
end

theorem app_none (w : World) (g : Nat) (ty : TypeId) : (Builtin.append_ #[77, 77] ty #[.slice (some ⟨g, 0, none⟩) 0 0, .slice none 0 0]).run Tryz.prog w = .ok (.slice (some ⟨g, 0, none⟩) 0 0) w := by
  kernel_rfl

/-- A copy of a row, by append onto a literal. -/
theorem copy_run {W : World} {a : Option Addr} {n c : Nat} {f : Nat → List Value} (h : RowF 120 3 W (.slice a n c) n f) (h1 : ∀ j, j < n → ∀ v ∈ f j, v.oneCell' = true) (hn : n ≤ 100000) :
    ∃ a' c' W2, (∀ ty, (Builtin.append_ #[77, 77] ty #[.slice (some ⟨W.heap.size, 0, none⟩) 0 0, .slice a n c]).run Tryz.prog (W.alloc (.cells #[] 120)) = .ok (.slice a' n c') W2) ∧
      RowF 120 3 W2 (.slice a' n c') n f ∧ (∀ k, (Value.slice a' n c').ownBlock = some k → W.heap.size ≤ k) ∧ Below W.heap.size W W2 := by
  obtain ⟨i0, hi, hz, hsz, hby⟩ := info_parts info_o
  have hal := Below.allocs W (.cells #[] 120)
  have hr0 : RowF 120 3 (W.alloc (.cells #[] 120)) (.slice (some ⟨W.heap.size, 0, none⟩) 0 0) 0 f := ⟨⟨_, World.ownsRow_lit W #[] 0 (Nat.zero_le _) (by decide) rfl, fun j hj => absurd hj (Nat.not_lt_zero j)⟩, fun j hj => absurd hj (Nat.not_lt_zero j)⟩
  cases a with
  | none =>
    have hn0 : n = 0 ∧ c = 0 := by
      obtain ⟨⟨xs, h2, _⟩, _⟩ := h
      rcases h2.2 with ⟨h0, h3⟩ | ⟨g, cap, cur, h0, _⟩
      · simp at h0; exact ⟨h3, h0.2⟩
      · simp at h0
    obtain ⟨rfl, rfl⟩ := hn0
    exact ⟨_, _, _, fun ty => app_none _ _ ty, hr0, fun k hk => by simp [Value.ownBlock] at hk; omega, hal⟩
  | some ad =>
    have hb : ∃ b, ad = ⟨b, 0, none⟩ := by
      obtain ⟨⟨xs, h2, _⟩, _⟩ := h
      rcases h2.2 with ⟨h0, h3⟩ | ⟨g, cap, cur, h0, _⟩
      · simp at h0
      · simp at h0; exact ⟨g, h0.1⟩
    obtain ⟨b, rfl⟩ := hb
    have h2 := h.below hal
    obtain ⟨s', W', hrun, hrow, hg, hown⟩ := hr0.append (P := Tryz.prog) 77 77 i0 _ 24 Tryz.underlying77 hi hz hsz hby rfl (by decide) (by decide) (b := b) (k := n) (c := c) (q := f)
      (fun j hj o v hv => by
        obtain ⟨b', c', e, _, _, _, hat, _⟩ := h2.at hj
        cases e
        exact hat j hj o v hv) h.len h1 (by omega)
    rw [Nat.zero_add] at hrow
    obtain ⟨a2, c2, rfl, _, _⟩ := hrow.form
    refine ⟨a2, c2, W', fun ty => hrun, hrow.congr (g := f) fun j hj => by simp, fun k hk => ?_, hal.grown hg hal.size (fun k hk => by simp [Value.ownBlock] at hk; omega)⟩
    have := hal.size
    rcases hown with e | e
    · rw [e] at hk; simp [Value.ownBlock] at hk; omega
    · rw [e] at hk; injection hk with hk; omega

theorem recR_one (T : Tb) (j : Nat) : ∀ v ∈ recR T j, v.oneCell' = true := by
  intro v hv
  simp only [recR, List.mem_cons, List.not_mem_nil, or_false] at hv
  rcases hv with rfl | rfl | rfl <;> rfl

/-- TOne record more. -/
theorem push_run {W : World} {s : Value} {n n1 : Nat} {f : Nat → List Value} (h : RowF 120 3 W s n f) (hb : n1 ≤ W.heap.size) (ho : ∀ k, s.ownBlock = some k → n1 ≤ k) (hn : n ≤ 100000) (vs : List Value) (hl : vs.length = 3) (h1 : ∀ v ∈ vs, v.oneCell' = true) :
    ∃ a' c' W2, (∀ ty, (Builtin.append_ #[77, 77] ty #[s, .slice (some ⟨W.heap.size, 0, none⟩) 1 1]).run Tryz.prog (W.alloc (.cells vs.toArray 120)) = .ok (.slice a' (n + 1) c') W2) ∧
      RowF 120 3 W2 (.slice a' (n + 1) c') (n + 1) (fun j => if j < n then f j else vs) ∧ (∀ k, (Value.slice a' (n + 1) c').ownBlock = some k → n1 ≤ k) ∧ Below n1 W W2 := by
  obtain ⟨i0, hi, hz, hsz, hby⟩ := info_parts info_o
  have hal := Below.allocs W (.cells vs.toArray 120)
  have hlit := Lit.new W 120 vs
  obtain ⟨s', W', hrun, hrow, hg, hown⟩ := (h.below hal).append (P := Tryz.prog) 77 77 i0 _ 24 Tryz.underlying77 hi hz hsz hby rfl (by decide) (by decide) (b := W.heap.size) (k := 1) (c := 1) (q := fun _ => vs)
    (fun j hj o v hv => by
      obtain rfl : j = 0 := by omega
      rw [Nat.zero_mul, Nat.zero_add]
      exact hlit.cell hv) (fun _ _ => hl) (fun _ _ => h1) (by omega)
  obtain ⟨a', c', rfl, _, _⟩ := hrow.form
  refine ⟨a', c', W', fun ty => hrun, hrow, fun k hk => ?_, (hal.mono hb).grown hg (Nat.le_trans hb hal.size) ho⟩
  rcases hown with e | e
  · rw [e] at hk; exact ho k hk
  · rw [e] at hk
    have := hal.size
    injection hk with hk
    omega

end Go.Proofs.YtbgnbaogclnpgaaGreat
