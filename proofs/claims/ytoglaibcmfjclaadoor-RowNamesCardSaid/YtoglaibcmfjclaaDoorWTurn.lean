/-
  Parse's own loop over the parts: what a turn leaves behind.
-/
import Derived.Test.YtoglaibcmfjclaaDoorWIter
namespace Go.Proofs.YtoglaibcmfjclaaDoor
open Go.RowKit

/-- What holds between two turns: the loop's record is ready; the variable holds the values so far, in a row of its own; the results are as they began. -/
structure JP (l Dd B r0 r1 n0 : Nat) (rec : LoopState → Option Code → Loop) (w0 : World) (L : List Val) (W : World) : Prop where
  rec' : W.heap[l]? = some (.loop (rec .ready none))
  dfr : W.heap[Dd]? = some (.deferred (some []))
  own : ∃ v, Go.Boxed W B 35 v ∧ W.ownsRow n0 25 4 v L.length (flatL L)
  z0 : Go.Boxed W r0 35 (.slice none 0 0)
  z1 : Go.Boxed W r1 33 (.int .i64 0)
  bel : Below n0 w0 W

/-- What holds when a turn has ended the loop. -/
structure SP (l Dd r0 r1 n0 : Nat) (rec : LoopState → Option Code → Loop) (w0 : World) (W : World) : Prop where
  rec' : W.heap[l]? = some (.loop (rec .done (some .ret)))
  dfr : W.heap[Dd]? = some (.deferred (some []))
  z0 : Go.Boxed W r0 35 (.slice none 0 0)
  z1 : Go.Boxed W r1 33 (.int .i64 4)
  bel : Below n0 w0 W

theorem JP.old {l Dd B r0 r1 n0 : Nat} {rec : LoopState → Option Code → Loop} {w0 : World} {L : List Val} {W W' : World} (h : JP l Dd B r0 r1 n0 rec w0 L W) (hn : n0 ≤ W.heap.size) (hb : Below W.heap.size W W') : JP l Dd B r0 r1 n0 rec w0 L W' := by
  obtain ⟨v, hv, ho⟩ := h.own
  exact ⟨(hb.block _ (some_lt h.rec')).trans h.rec', (hb.block _ (some_lt h.dfr)).trans h.dfr, ⟨v, (hb.block _ (some_lt hv)).trans hv, own_below ho hb⟩, (hb.block _ (some_lt h.z0)).trans h.z0, (hb.block _ (some_lt h.z1)).trans h.z1, h.bel.trans (hb.mono hn)⟩

theorem SP.old {l Dd r0 r1 n0 : Nat} {rec : LoopState → Option Code → Loop} {w0 : World} {W W' : World} (h : SP l Dd r0 r1 n0 rec w0 W) (hn : n0 ≤ W.heap.size) (hb : Below W.heap.size W W') : SP l Dd r0 r1 n0 rec w0 W' :=
  ⟨(hb.block _ (some_lt h.rec')).trans h.rec', (hb.block _ (some_lt h.dfr)).trans h.dfr, (hb.block _ (some_lt h.z0)).trans h.z0, (hb.block _ (some_lt h.z1)).trans h.z1, h.bel.trans (hb.mono hn)⟩

theorem ne_of_objs {W : World} {i j : Nat} {a b : Obj} (h1 : W.heap[i]? = some a) (h2 : W.heap[j]? = some b) (h : a ≠ b) : i ≠ j := by
  rintro rfl
  rw [h1, Option.some.injEq] at h2
  exact h h2

/-- A turn that takes its part. -/
theorem turn_yes {l Dd B r0 r1 n0 : Nat} {rec : LoopState → Option Code → Loop} {w0 : World} {L : List Val} {W : World} (h : JP l Dd B r0 r1 n0 rec w0 L W) (hB : n0 ≤ B) (hl : n0 ≤ l) (hr : r0 ≠ B) (v : Val) (hlen : L.length ≤ 200000) :
    ∃ u, Go.Boxed (W.putObj l (.loop (rec .busy none))) B 35 u ∧ ∀ W3, Below (W.putObj l (.loop (rec .busy none))).heap.size (W.putObj l (.loop (rec .busy none))) W3 →
      Go.Boxed W3 B 35 u ∧ ∃ g cap W4, (Builtin.append_ #[35, 35] 35 #[u, .slice (some ⟨W3.heap.size + 1, 0, none⟩) 1 1]).run Tryd.prog ((W3.alloc (.cells #[.int .u8 v.k, .int .i64 v.n, .int .i64 v.u, .string v.t] 25)).alloc (.cells #[.int .u8 v.k, .int .i64 v.n, .int .i64 v.u, .string v.t] 25)) = .ok (.slice (some ⟨g, 0, none⟩) (L.length + 1) cap) W4 ∧
        Go.Boxed W4 B 35 u ∧ (W4.setCell ⟨B, 0, none⟩ (.slice (some ⟨g, 0, none⟩) (L.length + 1) cap)).heap[l]? = some (.loop (rec .busy none)) ∧
        JP l Dd B r0 r1 n0 rec w0 (L ++ [v]) ((W4.setCell ⟨B, 0, none⟩ (.slice (some ⟨g, 0, none⟩) (L.length + 1) cap)).putObj l (.loop (rec .ready none))) := by
  obtain ⟨u, hu, ho⟩ := h.own
  have ll := some_lt h.rec'
  have hlB : l ≠ B := ne_of_objs h.rec' hu (by simp)
  have hlD : l ≠ Dd := ne_of_objs h.rec' h.dfr (by simp)
  have hl0 : l ≠ r0 := ne_of_objs h.rec' h.z0 (by simp)
  have hl1 : l ≠ r1 := ne_of_objs h.rec' h.z1 (by simp)
  have hDB : Dd ≠ B := ne_of_objs h.dfr hu (by simp)
  have hD0 : Dd ≠ r0 := ne_of_objs h.dfr h.z0 (by simp)
  have hD1 : Dd ≠ r1 := ne_of_objs h.dfr h.z1 (by simp)
  have hB1 : B ≠ r1 := ne_of_objs hu h.z1 (by simp)
  have hn : n0 ≤ W.heap.size := by have := some_lt hu; omega
  obtain ⟨W2, hW2⟩ : ∃ W2, W.putObj l (.loop (rec .busy none)) = W2 := ⟨_, rfl⟩
  rw [hW2]
  have k2 : ∀ k, k ≠ l → W2.heap[k]? = W.heap[k]? := fun k hk => by rw [← hW2]; exact World.putObj_heap_other hk
  have l2 : W2.heap[l]? = some (.loop (rec .busy none)) := by rw [← hW2]; exact World.putObj_heap_same ll
  have s2 : W2.heap.size = W.heap.size := by rw [← hW2, World.putObj_size]
  have u2 : Go.Boxed W2 B 35 u := (k2 _ (fun e => hlB e.symm)).trans hu
  have g02 : W.grownBy W2 (some l) := by
    refine ⟨?_, ?_, ?_, by omega, fun k hk hne => k2 k (fun e => hne (by rw [e]))⟩ <;> (rw [← hW2]; rfl)
  have hob : ∀ k o, W.heap[k]? = some o → (∀ cur, o ≠ .cells cur 25 (0, 0)) → u.ownBlock ≠ some k := by
    intro k o hk hne he
    rcases ho.2 with ⟨rfl, _⟩ | ⟨g, cap, cur, rfl, _, hg, _⟩
    · simp [Value.ownBlock] at he
    · simp [Value.ownBlock] at he
      subst he
      rw [hg, Option.some.injEq] at hk
      exact hne cur hk.symm
  have hul := hob l _ h.rec' (by simp)
  have huD := hob Dd _ h.dfr (by simp)
  have hu0 := hob r0 _ h.z0 (fun cur e => by injection e with _ e2; revert e2; decide)
  have hu1 := hob r1 _ h.z1 (fun cur e => by injection e with _ e2; revert e2; decide)
  have o2 : W2.ownsRow n0 25 4 u L.length (flatL L) := ho.kept g02 (.inr hul)
  refine ⟨u, u2, fun W3 hb3 => ?_⟩
  have u3 : Go.Boxed W3 B 35 u := (hb3.block _ (some_lt u2)).trans u2
  have o3 := own_below o2 hb3
  have hs3 : W.heap.size ≤ W3.heap.size := by rw [← s2]; exact hb3.size
  refine ⟨u3, ?_⟩
  have hbA := Below.allocs W3 (.cells #[.int .u8 v.k, .int .i64 v.n, .int .i64 v.u, .string v.t] 25)
  obtain ⟨Wa, hWa⟩ : ∃ Wa, W3.alloc (.cells #[.int .u8 v.k, .int .i64 v.n, .int .i64 v.u, .string v.t] 25) = Wa := ⟨_, rfl⟩
  have sa : Wa.heap.size = W3.heap.size + 1 := by rw [← hWa]; simp
  rw [hWa] at hbA ⊢
  have hbB := Below.allocs Wa (.cells #[.int .u8 v.k, .int .i64 v.n, .int .i64 v.u, .string v.t] 25)
  have hBox := Boxed.new Wa v.k v.n v.u v.t 25
  obtain ⟨Wb, hWb⟩ : ∃ Wb, Wa.alloc (.cells #[.int .u8 v.k, .int .i64 v.n, .int .i64 v.u, .string v.t] 25) = Wb := ⟨_, rfl⟩
  have sb : Wb.heap.size = W3.heap.size + 2 := by rw [← hWb]; simp [sa]
  rw [hWb] at hbB hBox ⊢
  rw [sa] at hBox
  have hab := below_tr hbA hbB
  have ub : Go.Boxed Wb B 35 u := (hab.block _ (some_lt u3)).trans u3
  have ob := own_below o3 hab
  obtain ⟨i0, hi, hz0, hz1, hz2⟩ := info_parts info_v
  have hte : 35 ≠ 25 := by decide
  obtain ⟨v', W4, hrun, o4, g4, _, hwh⟩ := run_append_own_at (P := Tryd.prog) Wb n0 35 35 25 i0 (.agg #[.int .u8 0, .int .i64 0, .int .i64 0, .string ⟨#[]⟩]) 4 40 Tryd.underlying35 hi hz0 hz1 hz2 rfl (by decide) u L.length (flatL L) ob
    ⟨W3.heap.size + 1, 0, none⟩ 1 1 (encV v) rfl
    (fun j x hx => by
      obtain ⟨c0, c1, c2, c3, _⟩ := hBox
      have hj : j < 4 := by have := (List.getElem?_eq_some_iff.1 hx).1; simpa [encV] using this
      rw [Addr.add_lit]
      match j, hj, hx with
      | 0, _, hx => simp [encV] at hx; subst hx; exact c0
      | 1, _, hx => simp [encV] at hx; subst hx; exact c1
      | 2, _, hx => simp [encV] at hx; subst hx; exact c2
      | 3, _, hx => simp [encV] at hx; subst hx; exact c3)
    (encV_one v) (by unfold maxLen; omega) (by omega) (by omega)
  have u4 : Go.Boxed W4 B 35 u := ub.kept g4 (ub.not_row hte ob)
  have hvB : v'.ownBlock ≠ some B := fun e => u4.not_row hte o4 e.symm
  obtain ⟨g, cap, rfl⟩ := ownsRow_succ o4
  have kb : ∀ k, k < W.heap.size → k ≠ l → Wb.heap[k]? = W.heap[k]? := fun k hk hkl => by
    rw [hab.block k (by omega), hb3.block k (by omega), k2 k hkl]
  have k4 : ∀ k, k < W.heap.size → k ≠ l → u.ownBlock ≠ some k → W4.heap[k]? = W.heap[k]? := fun k hk hkl hko => by
    rw [g4.block k (by omega) (fun e => hko e.symm)]; exact kb k hk hkl
  have l4 : W4.heap[l]? = some (.loop (rec .busy none)) := by
    rw [g4.block l (by omega) (fun e => hul e.symm), hab.block l (by omega), hb3.block l (by omega)]; exact l2
  obtain ⟨W5, hW5⟩ : ∃ W5, W4.setCell ⟨B, 0, none⟩ (.slice (some ⟨g, 0, none⟩) (L.length + 1) cap) = W5 := ⟨_, rfl⟩
  have k5 : ∀ k, k ≠ B → W5.heap[k]? = W4.heap[k]? := fun k hk => by rw [← hW5]; exact Below.heap_setCell _ _ _ k hk
  have u5 : Go.Boxed W5 B 35 (.slice (some ⟨g, 0, none⟩) (L.length + 1) cap) := by rw [← hW5]; exact u4.set _
  have s5 : W5.heap.size = W4.heap.size := by rw [← hW5]; simp [World.setCell]
  have o5 : W5.ownsRow n0 25 4 (.slice (some ⟨g, 0, none⟩) (L.length + 1) cap) (L.length + 1) (flatL L ++ encV v) := by
    rw [← hW5]; exact o4.kept (grownBy_setCell' W4 B _) (.inr hvB)
  have l5 : W5.heap[l]? = some (.loop (rec .busy none)) := by rw [k5 l hlB]; exact l4
  obtain ⟨W6, hW6⟩ : ∃ W6, W5.putObj l (.loop (rec .ready none)) = W6 := ⟨_, rfl⟩
  have k6 : ∀ k, k ≠ l → W6.heap[k]? = W5.heap[k]? := fun k hk => by rw [← hW6]; exact World.putObj_heap_other hk
  have s4 : Wb.heap.size ≤ W4.heap.size := g4.size
  have l6 : W6.heap[l]? = some (.loop (rec .ready none)) := by rw [← hW6]; exact World.putObj_heap_same (by omega)
  have u6 : Go.Boxed W6 B 35 (.slice (some ⟨g, 0, none⟩) (L.length + 1) cap) := (k6 _ (fun e => hlB e.symm)).trans u5
  have s6 : W6.heap.size = W5.heap.size := by rw [← hW6, World.putObj_size]
  have o6 : W6.ownsRow n0 25 4 (.slice (some ⟨g, 0, none⟩) (L.length + 1) cap) (L.length + 1) (flatL L ++ encV v) := by
    rw [← hW6]; exact ownsRow_putObj o5 _ l5 rfl
  refine ⟨g, cap, W4, hrun, u4, by rw [hW5]; exact l5, ?_⟩
  rw [hW5, hW6]
  have kz : ∀ k o, W.heap[k]? = some o → k ≠ l → k ≠ B → u.ownBlock ≠ some k → W6.heap[k]? = some o := fun k o hk h1 h2 h3 => by
    rw [k6 k h1, k5 k h2, k4 k (some_lt hk) h1 h3]; exact hk
  refine ⟨l6, kz Dd _ h.dfr (fun e => hlD e.symm) hDB huD, ⟨_, u6, ?_⟩, kz r0 _ h.z0 (fun e => hl0 e.symm) hr hu0, kz r1 _ h.z1 (fun e => hl1 e.symm) (fun e => hB1 e.symm) hu1, ?_⟩
  · rw [flatL_app, List.length_append]
    have e : flatL [v] = encV v := by simp [flatL]
    rw [e]
    exact o6
  · have hb : Below n0 W W6 := by
      have hos := hab.os.trans hb3.os
      have htp := hab.tape.trans hb3.tape
      have hou := hab.output.trans hb3.output
      refine ⟨?_, ?_, ?_, by omega, fun k hk => ?_⟩
      · rw [← hW6, ← hW5]; exact (g4.os.trans hos).trans (by rw [← hW2]; rfl)
      · rw [← hW6, ← hW5]; exact (g4.tape.trans htp).trans (by rw [← hW2]; rfl)
      · rw [← hW6, ← hW5]; exact (g4.output.trans hou).trans (by rw [← hW2]; rfl)
      · rw [k6 k (by omega), k5 k (by omega)]
        exact k4 k (by omega) (by omega) (fun e => by have := (ho.lt k e).1; omega)
    exact h.bel.trans hb

/-- A turn that ends the loop. -/
theorem turn_no {l Dd B r0 r1 n0 : Nat} {rec : LoopState → Option Code → Loop} {w0 : World} {L : List Val} {W : World} (h : JP l Dd B r0 r1 n0 rec w0 L W) (hl : n0 ≤ l) (h0 : n0 ≤ r0) (h1 : n0 ≤ r1) (W3 : World) (hb3 : Below (W.putObj l (.loop (rec .busy none))).heap.size (W.putObj l (.loop (rec .busy none))) W3) (o : Obj) :
    (W3.alloc o).cell? ⟨r0, 0, none⟩ = some (.slice none 0 0) ∧ (W3.alloc o).frozen? ⟨r0, 0, none⟩ = false ∧ ((W3.alloc o).setCell ⟨r0, 0, none⟩ (.slice none 0 0)).cell? ⟨r1, 0, none⟩ = some (.int .i64 0) ∧ ((W3.alloc o).setCell ⟨r0, 0, none⟩ (.slice none 0 0)).frozen? ⟨r1, 0, none⟩ = false ∧
      (((W3.alloc o).setCell ⟨r0, 0, none⟩ (.slice none 0 0)).setCell ⟨r1, 0, none⟩ (.int .i64 4)).heap[l]? = some (.loop (rec .busy none)) ∧
      SP l Dd r0 r1 n0 rec w0 ((((W3.alloc o).setCell ⟨r0, 0, none⟩ (.slice none 0 0)).setCell ⟨r1, 0, none⟩ (.int .i64 4)).putObj l (.loop (rec .done (some .ret)))) := by
  have ll := some_lt h.rec'
  have hlD : l ≠ Dd := ne_of_objs h.rec' h.dfr (by simp)
  have hl0 : l ≠ r0 := ne_of_objs h.rec' h.z0 (by simp)
  have hl1 : l ≠ r1 := ne_of_objs h.rec' h.z1 (by simp)
  have hD0 : Dd ≠ r0 := ne_of_objs h.dfr h.z0 (by simp)
  have hD1 : Dd ≠ r1 := ne_of_objs h.dfr h.z1 (by simp)
  have h01 : r0 ≠ r1 := ne_of_objs h.z0 h.z1 (by simp)
  have hn : n0 ≤ W.heap.size := by have := some_lt h.z0; omega
  obtain ⟨W2, hW2⟩ : ∃ W2, W.putObj l (.loop (rec .busy none)) = W2 := ⟨_, rfl⟩
  rw [hW2] at hb3
  have k2 : ∀ k, k ≠ l → W2.heap[k]? = W.heap[k]? := fun k hk => by rw [← hW2]; exact World.putObj_heap_other hk
  have l2 : W2.heap[l]? = some (.loop (rec .busy none)) := by rw [← hW2]; exact World.putObj_heap_same ll
  have s2 : W2.heap.size = W.heap.size := by rw [← hW2, World.putObj_size]
  have hbA := Below.allocs W3 o
  obtain ⟨Wa, hWa⟩ : ∃ Wa, W3.alloc o = Wa := ⟨_, rfl⟩
  rw [hWa] at hbA ⊢
  have hab := below_tr hb3 hbA
  have ka : ∀ k, k < W.heap.size → Wa.heap[k]? = W2.heap[k]? := fun k hk => hab.block k (by omega)
  have sa : W.heap.size ≤ Wa.heap.size := by rw [← s2]; exact hab.size
  have z0a : Go.Boxed Wa r0 35 (.slice none 0 0) := ((ka _ (some_lt h.z0)).trans (k2 _ (fun e => hl0 e.symm))).trans h.z0
  have z1a : Go.Boxed Wa r1 33 (.int .i64 0) := ((ka _ (some_lt h.z1)).trans (k2 _ (fun e => hl1 e.symm))).trans h.z1
  obtain ⟨Wb, hWb⟩ : ∃ Wb, Wa.setCell ⟨r0, 0, none⟩ (.slice none 0 0) = Wb := ⟨_, rfl⟩
  rw [hWb]
  have kb : ∀ k, k ≠ r0 → Wb.heap[k]? = Wa.heap[k]? := fun k hk => by rw [← hWb]; exact Below.heap_setCell _ _ _ k hk
  have z0b : Go.Boxed Wb r0 35 (.slice none 0 0) := by rw [← hWb]; exact z0a.set _
  have z1b : Go.Boxed Wb r1 33 (.int .i64 0) := (kb _ (fun e => h01 e.symm)).trans z1a
  have sb : Wb.heap.size = Wa.heap.size := by rw [← hWb]; simp [World.setCell]
  obtain ⟨Wc, hWc⟩ : ∃ Wc, Wb.setCell ⟨r1, 0, none⟩ (.int .i64 4) = Wc := ⟨_, rfl⟩
  rw [hWc]
  have kc : ∀ k, k ≠ r1 → Wc.heap[k]? = Wb.heap[k]? := fun k hk => by rw [← hWc]; exact Below.heap_setCell _ _ _ k hk
  have z1c : Go.Boxed Wc r1 33 (.int .i64 4) := by rw [← hWc]; exact z1b.set _
  have z0c : Go.Boxed Wc r0 35 (.slice none 0 0) := (kc _ h01).trans z0b
  have sc : Wc.heap.size = Wb.heap.size := by rw [← hWc]; simp [World.setCell]
  have lc : Wc.heap[l]? = some (.loop (rec .busy none)) := by rw [kc l hl1, kb l hl0, ka l ll]; exact l2
  obtain ⟨Wd, hWd⟩ : ∃ Wd, Wc.putObj l (.loop (rec .done (some .ret))) = Wd := ⟨_, rfl⟩
  have kd : ∀ k, k ≠ l → Wd.heap[k]? = Wc.heap[k]? := fun k hk => by rw [← hWd]; exact World.putObj_heap_other hk
  refine ⟨z0a.cell, z0a.frozen, z1b.cell, z1b.frozen, lc, ?_⟩
  rw [hWd]
  refine ⟨by rw [← hWd]; exact World.putObj_heap_same (by omega), ?_, (kd _ (fun e => hl0 e.symm)).trans z0c, (kd _ (fun e => hl1 e.symm)).trans z1c, ?_⟩
  · rw [kd _ (fun e => hlD e.symm), kc _ hD1, kb _ hD0, ka _ (some_lt h.dfr), k2 _ (fun e => hlD e.symm)]
    exact h.dfr
  · have hb : Below n0 W Wd := by
      have sd : Wd.heap.size = Wc.heap.size := by rw [← hWd, World.putObj_size]
      refine ⟨?_, ?_, ?_, by omega, fun k hk => ?_⟩
      · rw [← hWd, ← hWc, ← hWb]; exact hab.os.trans (by rw [← hW2]; rfl)
      · rw [← hWd, ← hWc, ← hWb]; exact hab.tape.trans (by rw [← hW2]; rfl)
      · rw [← hWd, ← hWc, ← hWb]; exact hab.output.trans (by rw [← hW2]; rfl)
      · rw [kd k (by omega), kc k (by omega), kb k (by omega), ka k (by omega), k2 k (by omega)]
    exact h.bel.trans hb

end Go.Proofs.YtoglaibcmfjclaaDoor
