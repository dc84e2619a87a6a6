/-
  Free's own loop over the gaps: what a turn leaves behind.
-/
import Derived.Test.YtnifpphimodonaaSIter
namespace Go.Proofs.Ytnifpphimodonaa
open Go.RowKit

def gapC (g : Int × Int) : List Value := [.int .u8 4, .int .i64 g.1, .int .i64 g.2, .string ⟨#[]⟩]
def flatG (L : List (Int × Int)) : List Value := L.flatMap gapC

theorem flatG_snoc (L : List (Int × Int)) (x : Int × Int) : flatG (L ++ [x]) = flatG L ++ gapC x := by simp [flatG]

/-- What holds between two turns: the loop's record is ready; the variable holds the gaps so far, in a row of its own. -/
structure JF (l Dd B n0 : Nat) (rec : LoopState → Loop) (w0 : World) (L : List (Int × Int)) (W : World) : Prop where
  rec' : W.heap[l]? = some (.loop (rec .ready))
  dfr : W.heap[Dd]? = some (.deferred (some []))
  own : ∃ v, Go.Boxed W B 34 v ∧ W.ownsRow n0 23 4 v L.length (flatG L)
  bel : Below n0 w0 W

/-- The blocks that a turn leaves alone. -/
structure SafeF (l Dd B : Nat) (W : World) (k : Nat) : Prop where
  lt : k < W.heap.size
  nl : k ≠ l
  nd : k ≠ Dd
  nb : k ≠ B
  no : ∀ v, W.cell? ⟨B, 0, none⟩ = some v → v.ownBlock ≠ some k

theorem grown_of_below {W W' : World} (h : Below W.heap.size W W') : W.grownBy W' none := ⟨h.os, h.tape, h.output, h.size, fun k hk _ => h.block k hk⟩

theorem some_lt {W : World} {k : Nat} {o : Obj} (h : W.heap[k]? = some o) : k < W.heap.size := (Array.getElem?_eq_some_iff.1 h).1

theorem JF.old {l Dd B n0 : Nat} {rec : LoopState → Loop} {w0 : World} {L : List (Int × Int)} {W W' : World} (h : JF l Dd B n0 rec w0 L W) (hn : n0 ≤ W.heap.size) (hb : Below W.heap.size W W') : JF l Dd B n0 rec w0 L W' := by
  obtain ⟨v, hv, ho⟩ := h.own
  refine ⟨(hb.block _ (some_lt h.rec')).trans h.rec', (hb.block _ (some_lt h.dfr)).trans h.dfr, ⟨v, (hb.block _ (some_lt hv)).trans hv, ho.kept (grown_of_below hb) ?_⟩, h.bel.trans (hb.mono hn)⟩
  cases hv : v.ownBlock
  · exact .inl rfl
  · exact .inr (by simp)

theorem SafeF.stay {l Dd B n0 : Nat} {rec : LoopState → Loop} {w0 : World} {L : List (Int × Int)} {W W' : World} {k : Nat} (h : JF l Dd B n0 rec w0 L W) (hs : SafeF l Dd B W k) (hb : Below W.heap.size W W') : SafeF l Dd B W' k := by
  obtain ⟨v, hv, _⟩ := h.own
  exact ⟨Nat.lt_of_lt_of_le hs.lt hb.size, hs.nl, hs.nd, hs.nb, fun u hu => hs.no u (by rw [← hb.cell (p := ⟨B, 0, none⟩) (some_lt hv)]; exact hu)⟩

theorem SafeF.new {l Dd B n0 : Nat} {rec : LoopState → Loop} {w0 : World} {L : List (Int × Int)} {W W' : World} {k : Nat} (h : JF l Dd B n0 rec w0 L W) (hb : Below W.heap.size W W') (h1 : W.heap.size ≤ k) (h2 : k < W'.heap.size) : SafeF l Dd B W' k := by
  obtain ⟨v, hv, ho⟩ := h.own
  have a := some_lt h.rec'
  have b := some_lt h.dfr
  have c := some_lt hv
  refine ⟨h2, by omega, by omega, by omega, fun u hu => ?_⟩
  rw [hb.cell (p := ⟨B, 0, none⟩) c, hv.cell] at hu
  cases hu
  intro he
  have := (ho.lt k he).2
  omega

theorem info_v2 : (Try.prog.info? 23).map (fun i => (i.zero, i.size, i.bytes)) = some (some (.agg #[.int .u8 0, .int .i64 0, .int .i64 0, .string ⟨#[]⟩]), 4, 40) := info_v

/-- One turn, from world to world. -/
theorem turn_world {l Dd B n0 : Nat} {rec : LoopState → Loop} {w0 : World} {L : List (Int × Int)} {W : World} (h : JF l Dd B n0 rec w0 L W) (hn : n0 ≤ W.heap.size) (hB : n0 ≤ B) (hl : n0 ≤ l) (hlen : L.length ≤ 2000) (x y : Int) :
    ∃ v v' W4, Go.Boxed (W.alloc (.cells #[.int .u8 4, .int .i64 x, .int .i64 y, .string ⟨#[]⟩] 23)) B 34 v ∧ (W.alloc (.cells #[.int .u8 4, .int .i64 x, .int .i64 y, .string ⟨#[]⟩] 23)).heap[l]? = some (.loop (rec .ready)) ∧
      Go.Boxed ((W.alloc (.cells #[.int .u8 4, .int .i64 x, .int .i64 y, .string ⟨#[]⟩] 23)).putObj l (.loop (rec .busy))) B 34 v ∧ Boxed ((W.alloc (.cells #[.int .u8 4, .int .i64 x, .int .i64 y, .string ⟨#[]⟩] 23)).putObj l (.loop (rec .busy))) W.heap.size 4 x y ⟨#[]⟩ ∧
      (Builtin.append_ #[34, 34] 34 #[v, .slice (some ⟨W.heap.size + 1, 0, none⟩) 1 1]).run Try.prog (((W.alloc (.cells #[.int .u8 4, .int .i64 x, .int .i64 y, .string ⟨#[]⟩] 23)).putObj l (.loop (rec .busy))).alloc (.cells #[.int .u8 4, .int .i64 x, .int .i64 y, .string ⟨#[]⟩] 23)) = .ok v' W4 ∧
      (∃ g cap, v' = .slice (some ⟨g, 0, none⟩) (L.length + 1) cap) ∧ Go.Boxed W4 B 34 v ∧ (W4.setCell ⟨B, 0, none⟩ v').heap[l]? = some (.loop (rec .busy)) ∧
      JF l Dd B n0 rec w0 (L ++ [(x, y)]) ((W4.setCell ⟨B, 0, none⟩ v').putObj l (.loop (rec .ready))) ∧
      ∀ k, SafeF l Dd B W k → ((W4.setCell ⟨B, 0, none⟩ v').putObj l (.loop (rec .ready))).heap[k]? = W.heap[k]? ∧ SafeF l Dd B ((W4.setCell ⟨B, 0, none⟩ v').putObj l (.loop (rec .ready))) k := by
  obtain ⟨v, hv, ho⟩ := h.own
  have ll := some_lt h.rec'
  have ld := some_lt h.dfr
  have lb := some_lt hv
  have hlB : l ≠ B := by
    rintro rfl
    have := h.rec'.symm.trans hv
    cases this
  have hlD : l ≠ Dd := by
    rintro rfl
    have := h.rec'.symm.trans h.dfr
    cases this
  have hDB : Dd ≠ B := by
    rintro rfl
    have := h.dfr.symm.trans hv
    cases this
  have hbA := Below.allocs W (.cells #[.int .u8 4, .int .i64 x, .int .i64 y, .string ⟨#[]⟩] 23)
  have hBox := Boxed.new W 4 x y ⟨#[]⟩ 23
  obtain ⟨W1, hW1⟩ : ∃ W1, W.alloc (.cells #[.int .u8 4, .int .i64 x, .int .i64 y, .string ⟨#[]⟩] 23) = W1 := ⟨_, rfl⟩
  have s1 : W1.heap.size = W.heap.size + 1 := by rw [← hW1]; simp
  rw [hW1] at hbA hBox
  have v1 : Go.Boxed W1 B 34 v := (hbA.block _ lb).trans hv
  have l1 : W1.heap[l]? = some (.loop (rec .ready)) := (hbA.block _ ll).trans h.rec'
  have d1 : W1.heap[Dd]? = some (.deferred (some [])) := (hbA.block _ ld).trans h.dfr
  obtain ⟨W2, hW2⟩ : ∃ W2, W1.putObj l (.loop (rec .busy)) = W2 := ⟨_, rfl⟩
  have k2 : ∀ k, k ≠ l → W2.heap[k]? = W1.heap[k]? := fun k hk => by rw [← hW2]; exact World.putObj_heap_other hk
  have l2 : W2.heap[l]? = some (.loop (rec .busy)) := by rw [← hW2]; exact World.putObj_heap_same (by omega)
  have s2 : W2.heap.size = W.heap.size + 1 := by rw [← hW2, World.putObj_size, s1]
  have v2 : Go.Boxed W2 B 34 v := (k2 _ (fun e => hlB e.symm)).trans v1
  have b2 : Boxed W2 W.heap.size 4 x y ⟨#[]⟩ := hBox.same (k2 _ (by omega))
  have g02 : W.grownBy W2 (some l) := by
    refine ⟨?_, ?_, ?_, by omega, fun k hk hne => ?_⟩
    · rw [← hW2]; exact hbA.os
    · rw [← hW2]; exact hbA.tape
    · rw [← hW2]; exact hbA.output
    · rw [k2 k (fun e => hne (by rw [e]))]; exact hbA.block k hk
  have hvl : v.ownBlock ≠ some l := by
    intro he
    rcases ho.2 with ⟨rfl, _⟩ | ⟨g, cap, cur, rfl, _, hg, _⟩
    · simp [Value.ownBlock] at he
    · simp [Value.ownBlock] at he
      subst he
      rw [h.rec'] at hg
      cases hg
  have hvD : v.ownBlock ≠ some Dd := by
    intro he
    rcases ho.2 with ⟨rfl, _⟩ | ⟨g, cap, cur, rfl, _, hg, _⟩
    · simp [Value.ownBlock] at he
    · simp [Value.ownBlock] at he
      subst he
      rw [h.dfr] at hg
      cases hg
  have o2 : W2.ownsRow n0 23 4 v L.length (flatG L) := ho.kept g02 (.inr hvl)
  obtain ⟨W3, hW3⟩ : ∃ W3, W2.alloc (.cells #[.int .u8 4, .int .i64 x, .int .i64 y, .string ⟨#[]⟩] 23) = W3 := ⟨_, rfl⟩
  have hbB := Below.allocs W2 (.cells #[.int .u8 4, .int .i64 x, .int .i64 y, .string ⟨#[]⟩] 23)
  have hBox3 := Boxed.new W2 4 x y ⟨#[]⟩ 23
  have o3 : W3.ownsRow n0 23 4 v L.length (flatG L) := by rw [← hW3]; exact o2.alloc _
  rw [hW3] at hbB hBox3
  rw [s2] at hBox3
  have s3 : W3.heap.size = W.heap.size + 2 := by rw [← hW3]; simp [s2]
  have hte : 34 ≠ 23 := by decide
  have v3 : Go.Boxed W3 B 34 v := (hbB.block _ (some_lt v2)).trans v2
  obtain ⟨i0, hi, hz0, hz1, hz2⟩ := info_parts info_v
  obtain ⟨v', W4, hrun, o4, g34, _, hwh⟩ := run_append_own_at (P := Try.prog) W3 n0 34 34 23 i0 (.agg #[.int .u8 0, .int .i64 0, .int .i64 0, .string ⟨#[]⟩]) 4 40 Try.underlying34 hi hz0 hz1 hz2 rfl (by decide) v L.length (flatG L) o3
    ⟨W.heap.size + 1, 0, none⟩ 1 1 (gapC (x, y)) rfl
    (fun j u hu => by
      obtain ⟨c0, c1, c2, c3, _⟩ := hBox3
      have hj : j < 4 := by have := (List.getElem?_eq_some_iff.1 hu).1; simpa [gapC] using this
      rw [Addr.add_lit]
      match j, hj, hu with
      | 0, _, hu => simp [gapC] at hu; subst hu; exact c0
      | 1, _, hu => simp [gapC] at hu; subst hu; exact c1
      | 2, _, hu => simp [gapC] at hu; subst hu; exact c2
      | 3, _, hu => simp [gapC] at hu; subst hu; exact c3)
    (fun u hu => by
      simp only [gapC, List.mem_cons, List.not_mem_nil, or_false] at hu
      rcases hu with rfl | rfl | rfl | rfl <;> rfl)
    (by unfold maxLen; omega) (by omega) (by omega)
  have v4 : Go.Boxed W4 B 34 v := v3.kept g34 (v3.not_row hte o3)
  have hvB : v.ownBlock ≠ some B := fun e => v3.not_row hte o3 e.symm
  have hv'B : v'.ownBlock ≠ some B := fun e => v4.not_row hte o4 e.symm
  obtain ⟨g, cap, rfl⟩ := ownsRow_succ o4
  have k4 : ∀ k, k < W.heap.size → k ≠ l → v.ownBlock ≠ some k → W4.heap[k]? = W.heap[k]? := fun k hk hkl hko => by
    rw [g34.block k (by omega) (fun e => hko e.symm), hbB.block k (by omega), k2 k hkl, hbA.block k hk]
  have l4 : W4.heap[l]? = some (.loop (rec .busy)) := by
    rw [g34.block l (by omega) (fun e => hvl e.symm), hbB.block l (by omega)]; exact l2
  have d4 : W4.heap[Dd]? = some (.deferred (some [])) := by rw [k4 Dd ld (fun e => hlD e.symm) hvD]; exact h.dfr
  have s4 : W3.heap.size ≤ W4.heap.size := g34.size
  obtain ⟨W5, hW5⟩ : ∃ W5, W4.setCell ⟨B, 0, none⟩ (.slice (some ⟨g, 0, none⟩) (L.length + 1) cap) = W5 := ⟨_, rfl⟩
  have k5 : ∀ k, k ≠ B → W5.heap[k]? = W4.heap[k]? := fun k hk => by rw [← hW5]; exact Below.heap_setCell _ _ _ k hk
  have v5 : Go.Boxed W5 B 34 (.slice (some ⟨g, 0, none⟩) (L.length + 1) cap) := by rw [← hW5]; exact v4.set _
  have s5 : W5.heap.size = W4.heap.size := by rw [← hW5]; simp [World.setCell]
  have o5 : W5.ownsRow n0 23 4 (.slice (some ⟨g, 0, none⟩) (L.length + 1) cap) (L.length + 1) (flatG L ++ gapC (x, y)) := by
    rw [← hW5]; exact o4.kept (grownBy_setCell' W4 B _) (.inr hv'B)
  have l5 : W5.heap[l]? = some (.loop (rec .busy)) := by rw [k5 l hlB]; exact l4
  obtain ⟨W6, hW6⟩ : ∃ W6, W5.putObj l (.loop (rec .ready)) = W6 := ⟨_, rfl⟩
  have k6 : ∀ k, k ≠ l → W6.heap[k]? = W5.heap[k]? := fun k hk => by rw [← hW6]; exact World.putObj_heap_other hk
  have l6 : W6.heap[l]? = some (.loop (rec .ready)) := by rw [← hW6]; exact World.putObj_heap_same (by omega)
  have v6 : Go.Boxed W6 B 34 (.slice (some ⟨g, 0, none⟩) (L.length + 1) cap) := (k6 _ (fun e => hlB e.symm)).trans v5
  have s6 : W6.heap.size = W5.heap.size := by rw [← hW6, World.putObj_size]
  have hgl : g ≠ l := by
    intro e
    have := (o5.lt g rfl).2
    rcases o5.2 with ⟨h, _⟩ | ⟨g', cap', cur, he, _, hg, _⟩
    · cases h
    · simp only [Value.slice.injEq, Option.some.injEq, Addr.mk.injEq] at he
      rw [← he.1.1, e, l5] at hg
      cases hg
  have o6 : W6.ownsRow n0 23 4 (.slice (some ⟨g, 0, none⟩) (L.length + 1) cap) (L.length + 1) (flatG L ++ gapC (x, y)) := by
    rw [← hW6]
    exact o5.kept (grownBy_putObj' W5 l _) (.inr (by simp [Value.ownBlock]; exact hgl))
  rw [hW1, hW2, hW3]
  refine ⟨v, _, W4, v1, l1, v2, b2, hrun, ⟨g, cap, rfl⟩, v4, ?_, ?_, ?_⟩
  · rw [hW5]; exact l5
  · rw [hW5, hW6]
    refine ⟨l6, ?_, ⟨_, v6, ?_⟩, ?_⟩
    · rw [k6 _ (fun e => hlD e.symm), k5 _ hDB]; exact d4
    · rw [flatG_snoc]
      have : (L ++ [(x, y)]).length = L.length + 1 := by simp
      rw [this]
      exact o6
    · have hb : Below n0 W W6 := by
        refine ⟨?_, ?_, ?_, by omega, fun k hk => ?_⟩
        · rw [← hW6, ← hW5]; exact (g34.os.trans hbB.os).trans (by rw [← hW2]; exact hbA.os)
        · rw [← hW6, ← hW5]; exact (g34.tape.trans hbB.tape).trans (by rw [← hW2]; exact hbA.tape)
        · rw [← hW6, ← hW5]; exact (g34.output.trans hbB.output).trans (by rw [← hW2]; exact hbA.output)
        · rw [k6 k (by omega), k5 k (by omega)]
          refine k4 k (by omega) (by omega) (fun e => ?_)
          have := (ho.lt k e).1
          omega
      exact h.bel.trans hb
  · rw [hW5, hW6]
    intro k hk
    have hko : v.ownBlock ≠ some k := hk.no v hv.cell
    refine ⟨by rw [k6 k hk.nl, k5 k hk.nb]; exact k4 k hk.lt hk.nl hko, by have := hk.lt; omega, hk.nl, hk.nd, hk.nb, fun u hu => ?_⟩
    rw [v6.cell] at hu
    cases hu
    intro he
    rcases hwh with e | e
    · rw [e] at he; exact hko he
    · rw [e] at he
      have := hk.lt
      simp at he
      omega
end Go.Proofs.Ytnifpphimodonaa
