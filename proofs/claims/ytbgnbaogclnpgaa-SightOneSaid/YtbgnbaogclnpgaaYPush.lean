/-
  TOne record more in a table's row, and other writing into it (stage 9).
-/
import Derived.Test.YtbgnbaogclnpgaaYGet
import Derived.Test.YtbgnbaogclnpgaaHPush
namespace Go.Proofs.Ytbgnbaogclnpgaa
open Go.RowKit
set_option linter.unusedVariables false

theorem info_t : (Try.prog.info? 81).map (fun i => (i.zero, i.size, i.bytes)) = some (some (.agg #[.int .u8 0, .int .i64 0, .int .i64 0, .int .i64 0, .int .i64 0]), 5, 40) := by kernel_rfl

/-- A table's two blocks, whatever stands in its records. -/
structure Raw (W : World) (t : Nat) (s : Value) (n : Nat) (last : Int) (f : Nat → List Value) (F : Nat → Prop) : Prop where
  lit : Lit W t 78 [s, .int .i64 last]
  row : RowF 81 5 W s n f
  own : ∀ k, s.ownBlock = some k → F k ∧ k ≠ t
  ft : F t
  lt : ∀ k, F k → k < W.heap.size

theorem Tab.raw {W : World} {t : Nat} {T : Tb} {F : Nat → Prop} (h : Tab W t T F) : ∃ s, Raw W t s T.n T.last (recT T) F := by
  obtain ⟨s, h1, h2, h3⟩ := h.ex
  exact ⟨s, h1, h2, h3, h.ft, h.lt⟩

section
variable {W W' : World} {t : Nat} {s : Value} {n : Nat} {last : Int} {f g : Nat → List Value} {F : Nat → Prop}

theorem Raw.tab {T : Tb} (h : Raw W t s n last f F) (hn : T.n = n) (hla : (T.last : Int) = last) (hf : ∀ j, j < n → recT T j = f j) : Tab W t T F := by
  subst hn hla
  exact ⟨h.ft, h.lt, s, h.lit, h.row.congr hf, h.own⟩
theorem Raw.is {T : Tb} (h : Raw W t s n last f F) (hn : T.n = n) (hla : (T.last : Int) = last) (hok : T.Ok) (hf : ∀ j, j < n → recT T j = f j) : Is W t T F := by
  subst hn hla
  exact ⟨hok, h.ft, h.lt, s, h.lit, h.row.congr hf, h.own⟩

theorem Raw.stay (h : Raw W t s n last f F) (hs : Stay F W W') : Raw W' t s n last f F :=
  ⟨h.lit.stay hs h.ft, h.row.stay hs (fun k hk => (h.own k hk).1), h.own, h.ft, fun k hk => Nat.lt_of_lt_of_le (h.lt k hk) hs.size⟩
theorem Raw.below (h : Raw W t s n last f F) (hb : Below W.heap.size W W') : Raw W' t s n last f F := h.stay (Stay.of_below hb)
theorem Raw.drew (h : Raw W t s n last f F) : Raw W.drew t s n last f F := h.below (below_drw W)

/-- A cell of a record is written. -/
theorem Raw.set (h : Raw W t s n last f F) {j c o b : Nat} (hb : s.ownBlock = some b) (hj : j < n) (hc : c < 5) (ho : o = j * 5 + c) (v : Value) :
    Raw (W.setCell ⟨b, o, none⟩ v) t s n last (updR f j ((f j).set c v)) F ∧ Touch F W (W.setCell ⟨b, o, none⟩ v) := by
  have ho' := h.own b hb
  have ht := Touch.setCell W (F := F) ho'.1 o v
  have ht2 := Touch.setCell W (F := fun k => k = b) rfl o v
  exact ⟨⟨h.lit.stay (ht2.stay (G := fun k => k = t) (fun k hk hx => ho'.2 (by omega))) rfl, h.row.set hb hj hc ho v, h.own, h.ft, fun k hk => Nat.lt_of_lt_of_le (h.lt k hk) ht.size⟩, ht⟩

/-- The second cell is written. -/
theorem Raw.setLast (h : Raw W t s n last f F) (v : Int) : Raw (W.setCell ⟨t, 1, none⟩ (.int .i64 v)) t s n v f F ∧ Touch F W (W.setCell ⟨t, 1, none⟩ (.int .i64 v)) := by
  have ht := Touch.setCell W (F := F) h.ft 1 (.int .i64 v)
  have ht2 := Touch.setCell W (F := fun k => k = t) rfl 1 (.int .i64 v)
  exact ⟨⟨h.lit.set 1 _, h.row.stay (ht2.stay (G := fun k => k ≠ t) (fun k hk hx => hk hx)) (fun k hk => (h.own k hk).2), h.own, h.ft, fun k hk => Nat.lt_of_lt_of_le (h.lt k hk) ht.size⟩, ht⟩

/-- TOne record more: by append of a literal, and a store. -/
theorem Raw.push (h : Raw W t s n last f F) (vs : List Value) (hl : vs.length = 5) (h1 : ∀ v ∈ vs, v.oneCell' = true) (hn : n ≤ 100000) :
    ∃ a' c' W6 F', (∀ ty, (Builtin.append_ #[76, 76] ty #[s, .slice (some ⟨W.heap.size, 0, none⟩) 1 1]).run Try.prog (W.alloc (.cells vs.toArray 81)) = .ok (.slice a' (n + 1) c') W6) ∧
      Lit W6 t 78 [s, .int .i64 last] ∧ Raw (W6.setCell ⟨t, 0, none⟩ (.slice a' (n + 1) c')) t (.slice a' (n + 1) c') (n + 1) last (fun j => if j < n then f j else vs) F' ∧ (∀ k, F' k → F k ∨ W.heap.size ≤ k) ∧
      Touch F W (W6.setCell ⟨t, 0, none⟩ (.slice a' (n + 1) c')) ∧ ∀ k, k < W.heap.size → ¬ F k → W6.heap[k]? = W.heap[k]? := by
  obtain ⟨i0, hi, hz, hsz, hby⟩ := info_parts info_t
  have hal := Below.allocs W (.cells vs.toArray 81)
  have hlit := Lit.new W 81 vs
  obtain ⟨s', W6, hrun, hrow, hg, hown⟩ := (h.row.below hal).append (P := Try.prog) 76 76 i0 _ 40 Try.underlying76 hi hz hsz hby rfl (by decide) (by decide) (b := W.heap.size) (k := 1) (c := 1) (q := fun _ => vs)
    (fun j hj o v hv => by
      obtain rfl : j = 0 := by omega
      rw [Nat.zero_mul, Nat.zero_add]
      exact hlit.cell hv) (fun _ _ => hl) (fun _ _ => h1) (by omega)
  obtain ⟨a', c', rfl, _, _⟩ := hrow.form
  have hlt := h.lt
  have htl := hlt t h.ft
  have hsl : (W.alloc (.cells vs.toArray 81)).heap.size = W.heap.size + 1 := by simp
  have hnt : some t ≠ s.ownBlock := fun e => (h.own t e.symm).2 rfl
  have htg : Touch F W W6 := (Touch.of_below hal).trans (Touch.grown (F := F) hg (fun k hk => (h.own k hk).1)) (fun _ _ hk => hk)
  have hl6 : Lit W6 t 78 [s, .int .i64 last] := (hg.block t (by omega) hnt).trans (h.lit.below hal)
  have hs6 := htg.size
  have hg6 := hg.size
  have hset := Touch.setCell W6 (F := fun k => k = t) rfl 0 (.slice a' (n + 1) c')
  have hown' : ∀ k, Value.ownBlock (.slice a' (n + 1) c') = some k → (F k ∨ (W.heap.size ≤ k ∧ k < W6.heap.size)) ∧ k ≠ t := fun k hk => by
    rcases hown with e | e
    · rw [e] at hk
      exact ⟨.inl (h.own k hk).1, (h.own k hk).2⟩
    · rw [e, hsl] at hk
      have hk' : W.heap.size + 1 = k := by injection hk
      have := hrow.lt k (by rw [e, hsl]; exact hk)
      exact ⟨.inr ⟨by omega, by omega⟩, by omega⟩
  refine ⟨a', c', W6, fun k => F k ∨ (W.heap.size ≤ k ∧ k < W6.heap.size), fun ty => hrun, hl6, ⟨hl6.set 0 _, ?_, hown', .inl h.ft, fun k hk => ?_⟩, fun k hk => hk.imp id (fun h => h.1), ?_, fun k hk hF => htg.block k hk hF⟩
  · exact hrow.stay (hset.stay (G := fun k => k ≠ t) (fun k hk hx => hk hx)) (fun k hk => (hown' k hk).2)
  · have := hset.size
    rcases hk with hk | hk
    · have := hlt k hk; omega
    · omega
  · exact htg.trans hset (fun k _ hk => by rw [hk]; exact h.ft)
end

end Go.Proofs.Ytbgnbaogclnpgaa
