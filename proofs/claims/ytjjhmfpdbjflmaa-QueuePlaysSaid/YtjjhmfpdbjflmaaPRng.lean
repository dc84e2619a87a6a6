/-
  A range over a function: the iterator changes nothing but what walks lean on (maps' iterators of its own), and makes new blocks; the turns change cells alone, and make new blocks (stage 14).
-/
import Derived.Test.YtjjhmfpdbjflmaaMRng
namespace Go.Proofs.Ytjjhmfpdbjflmaa
open Go.RowKit

def Obj.noCells : Obj → Bool
  | .cells .. => false
  | _ => true
theorem walk_noCells {o : Obj} (h : o.isWalk = true) : Obj.noCells o = true := by cases o <;> first | rfl | cases h

/-- What does not mind that others make blocks, and turn blocks from B on that hold no cells. -/
def AbX {α : Type} (B : Nat) (I : List α → World → Prop) : Prop := ∀ ⦃p W W'⦄ row, I p W → W.grownBy W' row → (∀ r, row = some r → B ≤ r ∧ ∃ o : Obj, W.heap[r]? = some o ∧ Obj.noCells o = true) → I p W'

/-- What holds no cells lies as it lay. -/
structure KeepsN (W W' : World) : Prop where
  size : W.heap.size ≤ W'.heap.size
  same : ∀ (k : Nat) (o : Obj), W.heap[k]? = some o → Obj.noCells o = true → W'.heap[k]? = some o

theorem KeepsN.refl (W : World) : KeepsN W W := ⟨Nat.le_refl _, fun _ _ h _ => h⟩
theorem KeepsN.trans {A B C : World} (h : KeepsN A B) (k : KeepsN B C) : KeepsN A C := ⟨Nat.le_trans h.size k.size, fun i o hi ho => k.same i o (h.same i o hi ho) ho⟩
theorem KeepsN.of_touch {F : Nat → Prop} {W W' : World} (h : Touch F W W') (hF : ∀ k, k < W.heap.size → F k → ∃ o, W.heap[k]? = some o ∧ Obj.noCells o = false) : KeepsN W W' :=
  ⟨h.size, fun k o hk ho => by
    have hlt := (Array.getElem?_eq_some_iff.1 hk).1
    refine (h.block k hlt fun hf => ?_).trans hk
    obtain ⟨o', h1, h2⟩ := hF k hlt hf
    rw [hk] at h1
    cases h1
    rw [ho] at h2
    cases h2⟩

section
variable {α : Type} {P : Program}

/-- The party whose turns are asked for. B: the blocks that may be the iterator's own begin there. -/
structure PartyW (P : Program) (enc : α → Array Value) (Ok : List α → Prop) (l B : Nat) (J Jx K : List α → World → Prop) : Prop where
  abides : ∀ ⦃p W W'⦄ row, B ≤ W.heap.size → J p W → W.grownBy W' row → (∀ r, row = some r → B ≤ r ∧ ∃ o : Obj, W.heap[r]? = some o ∧ o.isWalk = true) → J p W'
  know : ∀ ⦃p W⦄, J p W → K p W
  turn : ∀ p x W, B ≤ W.heap.size → J p W → Ok (p ++ [x]) → YieldAt .wide 0 P l (enc x) W fun e W' => W.heap.size ≤ W'.heap.size ∧ (∀ r, B ≤ r → (∃ o : Obj, W.heap[r]? = some o ∧ o.isWalk = true) → W'.heap[r]? = W.heap[r]?) ∧ ((e = .returned (.bool true) ∧ J (p ++ [x]) W') ∨ (e = .returned (.bool false) ∧ Jx (p ++ [x]) W'))

theorem PartyW.old {enc : α → Array Value} {Ok : List α → Prop} {l B : Nat} {J Jx K : List α → World → Prop} (h : PartyW P enc Ok l B J Jx K) {p : List α} {W W' : World} (hJ : J p W) (hB : B ≤ W.heap.size) (hb : Below W.heap.size W W') : J p W' :=
  h.abides none hB hJ ⟨hb.os, hb.tape, hb.output, hb.size, fun k hk _ => hb.block k hk⟩ (fun r e => by cases e)
theorem PartyW.walk {enc : α → Array Value} {Ok : List α → Prop} {l B : Nat} {J Jx K : List α → World → Prop} (h : PartyW P enc Ok l B J Jx K) {p : List α} {W W' : World} (hJ : J p W) (hB : B ≤ W.heap.size) {r : Nat} (hr : B ≤ r) (ho : ∃ o : Obj, W.heap[r]? = some o ∧ o.isWalk = true) (ht : Touch (fun k => k = r) W W') : J p W' :=
  h.abides (some r) hB hJ ⟨ht.os, ht.tape, ht.output, ht.size, fun k hk hn => ht.block k hk (fun e => hn (by rw [e]))⟩ (fun r' e => by cases e; exact ⟨hr, ho⟩)

theorem PartyS.toW {enc : α → Array Value} {Ok : List α → Prop} {l n1 B : Nat} {J Jx K : List α → World → Prop} (h : PartyS P enc Ok l n1 J Jx K) (hB : n1 ≤ B) : PartyW P enc Ok l B J Jx K :=
  ⟨fun p W W' row hBW hJ hg hr => h.old hJ ⟨hg.os, hg.tape, hg.output, hg.size, fun k hk => hg.block k (by omega) (fun e => by have := (hr k e.symm).1; omega)⟩, h.know, fun p x W hs hJ hOk => by
    obtain ⟨fn, tmps, assign, body, hy, hR⟩ := h.turn p x W (Nat.le_trans hB hs) hJ hOk
    exact ⟨fn, tmps, assign, body, hy, hR.mono fun e W' ⟨ht, hh⟩ => ⟨ht.size, fun r hr ho => ht.block r (by obtain ⟨o, h1, _⟩ := ho; exact (Array.getElem?_eq_some_iff.1 h1).1) (fun hk => by have h1 : r < n1 := hk; omega), hh⟩⟩⟩

/-- A loop is a party. -/
theorem JF.partyW {enc : α → Array Value} {Ok : List α → Prop} {n0 : Nat} {I K : List α → World → Prop} (hI : AbX n0 I) (hK : ∀ ⦃p W⦄, I p W → K p W) {l : Nat} (hl : l = n0 + 1)
    {fn : FuncId} {tmps : Array Value} {ps : Array Tmp} {assign body : Code} {rec : LoopState → Option Code → Loop} (hrec : rec = fun st pd => { state := st, pending := pd, fn := fn, tmps := tmps, params := ps, assign := assign, body := body, defers := n0 })
    (hps : ∀ x, (enc x).size = ps.size)
    (hround : ∀ (x : α) (p : List α) (W : World), n0 + 2 ≤ W.heap.size → I p W → Ok (p ++ [x]) → assign.wpIn (Fence.wide.inRound l) 0 P (Exit.then (fun a2 W' => W' = W ∧ ∀ W2, I p W2 → W2.heap.size = W.heap.size → body.wpIn (Fence.wide.inRound l) 0 P (fun e _ W3 => e = .normal ∧ I (p ++ [x]) W3 ∧ KeepsN W2 W3) a2 W2) (fun _ _ _ => False)) { tmps := (ps.zip (enc x)).foldl (fun t (p, v) => t.setIfInBounds p v) tmps, defers := [] } W) :
    PartyW P enc Ok l (n0 + 2) (JF I n0 l (rec .ready none)) (fun _ _ => False) K := by
  have hput : ∀ (p : List α) (W : World) (r : Loop) (r0 : Loop), W.heap[l]? = some (.loop r0) → I p W → I p (W.putObj l (.loop r)) := fun p W r r0 h0 hi => hI (some l) hi ⟨rfl, rfl, rfl, by simp, fun k hk hn => World.putObj_heap_other (fun e => hn (by rw [e]))⟩ (fun r' e => by cases e; exact ⟨by omega, _, h0, rfl⟩)
  refine ⟨fun p W W' row hB hJ hg hr => ?_, fun _ _ h => hK h.inv, fun p x W hs h hp => ?_⟩
  · have hne : ∀ k, k < n0 + 2 → k < W.heap.size → W'.heap[k]? = W.heap[k]? := fun k hk hkW => hg.block k hkW (fun e => by have := (hr k e.symm).1; omega)
    exact ⟨(hne l (by omega) (by omega)).trans hJ.rec', (hne n0 (by omega) (by omega)).trans hJ.dfr, hI row hJ.inv hg (fun r e => by obtain ⟨h1, o, h2, h3⟩ := hr r e; exact ⟨by omega, o, h2, walk_noCells h3⟩)⟩
  have hlW : l < W.heap.size := by omega
  have hy := run_yield (P := P) (args := enc x) h.rec' (by rw [hrec]; exact hps x)
  rw [hrec] at hy
  obtain ⟨W2, hW2⟩ : ∃ W2, W.putObj l (.loop (rec .busy none)) = W2 := ⟨_, rfl⟩
  have s2 : W2.heap.size = W.heap.size := by rw [← hW2, World.putObj_size]
  have k2 : ∀ k, k ≠ l → W2.heap[k]? = W.heap[k]? := fun k hk => by rw [← hW2]; exact World.putObj_heap_other hk
  have r2 : W2.heap[l]? = some (.loop (rec .busy none)) := by rw [← hW2]; exact World.putObj_heap_same hlW
  have i2 : I p W2 := by rw [← hW2]; exact hput p W _ _ h.rec' h.inv
  have hbg := run_beginRound (P := P) h.rec' (by rw [hrec])
  have e1 : ({ rec .ready none with state := .busy } : Loop) = rec .busy none := by rw [hrec]
  rw [e1, hW2] at hbg
  refine ⟨fn, _, assign, body, hy, roundIn_of_wpIn trivial (wpIn_mono (hround x p W hs h.inv hp) fun e a2 W' hto => ?_)⟩
  have hnormal : (W' = W ∧ ∀ W2, I p W2 → W2.heap.size = W.heap.size → body.wpIn (Fence.wide.inRound l) 0 P (fun e _ W3 => e = .normal ∧ I (p ++ [x]) W3 ∧ KeepsN W2 W3) a2 W2) → ∃ w₂, (Instr.beginRound l).run P W' = .ok () w₂ ∧ body.wpIn (Fence.wide.inRound l) 0 P (roundPost P l fun e W' => W.heap.size ≤ W'.heap.size ∧ (∀ r, n0 + 2 ≤ r → (∃ o : Obj, W.heap[r]? = some o ∧ o.isWalk = true) → W'.heap[r]? = W.heap[r]?) ∧ ((e = .returned (.bool true) ∧ JF I n0 l (rec .ready none) (p ++ [x]) W') ∨ (e = .returned (.bool false) ∧ False))) a2 w₂ := fun hto => by
    obtain ⟨rfl, hb⟩ := hto
    refine ⟨W2, hbg, wpIn_mono (hb W2 i2 s2) ?_⟩
    rintro e a3 W3 ⟨rfl, hi, ht⟩
    have hs3 := ht.size
    have r3 : W3.heap[l]? = some (.loop (rec .busy none)) := ht.same l _ r2 rfl
    have hend := run_endRound (P := P) none r3
    have e2 : ({ rec .busy none with state := if (none : Option Code).isNone then .ready else .done, pending := none } : Loop) = rec .ready none := by rw [hrec]; rfl
    rw [e2] at hend
    refine ⟨_, _, hend, by simp; omega, fun r hr ho => ?_, .inl ⟨rfl, World.putObj_heap_same (by omega), ?_, hput _ W3 _ _ r3 hi⟩⟩
    · obtain ⟨o, h1, h2⟩ := ho
      rw [World.putObj_heap_other (by omega), h1]
      exact ht.same r o ((k2 r (by omega)).trans h1) (walk_noCells h2)
    · rw [World.putObj_heap_other (by omega)]
      exact ht.same n0 _ ((k2 n0 (by omega)).trans h.dfr) rfl
  cases e with
  | normal => exact hnormal hto
  | _ => exact hto

/-- THE LAW of a range over such a function, whose turns all go on. -/
theorem wpIn_rangeW {gg : Operand} {ps : Array Tmp} {assign body : Code} {Q : Exit → Act → World → Prop} {a : Act} {w : World} {enc : α → Array Value} (Ok : List α → Prop) (Fin : List α → Prop) {f : FuncId} {lb : Array Value} (I K : List α → World → Prop) (hI : AbX w.heap.size I) (hK : ∀ ⦃p W⦄, I p W → K p W)
    (h0 : I [] w) (hg : a.eval gg = .func (.func f) #[] lb) (eg : ∀ args W, (callFunc f args).run P W = .ok (.enter f args) W)
    (hps : ∀ x, (enc x).size = ps.size)
    (hround : ∀ (l : Nat) (x : α) (p : List α) (W : World), l = w.heap.size + 1 → w.heap.size + 2 ≤ W.heap.size → I p W → Ok (p ++ [x]) → assign.wpIn (Fence.wide.inRound l) 0 P (Exit.then (fun a2 W' => W' = W ∧ ∀ W2, I p W2 → W2.heap.size = W.heap.size → body.wpIn (Fence.wide.inRound l) 0 P (fun e _ W3 => e = .normal ∧ I (p ++ [x]) W3 ∧ KeepsN W2 W3) a2 W2) (fun _ _ _ => False)) { tmps := (ps.zip (enc x)).foldl (fun t (p, v) => t.setIfInBounds p v) a.tmps, defers := [] } W)
    (hcall : ∀ (l : Nat) (J : List α → World → Prop) (W : World), PartyW P enc Ok l (w.heap.size + 2) J (fun _ _ => False) K → J [] W → W.heap.size = w.heap.size + 2 → Below w.heap.size w W → CallsIn .wide 1 P f (#[.func (.yield l) #[] #[]] ++ lb) W fun e W' => (∃ v, e = .returned v) ∧ ∃ S, Fin S ∧ J S W')
    (hdone : ∀ (D : Nat) (S : List α) (W : World), I S W → Fin S → w.heap.size ≤ D → W.heap[D]? = some (.deferred (some [])) → Q .normal { a with defers := { target := .collected D, args := #[] } :: a.defers } W) :
    (Code.rangeFunc gg ps assign body).wpIn .wide 1 P Q a w := by
  refine wpIn_rangeFunc ?_
  intro fn hfn
  obtain ⟨rec, hrec⟩ : ∃ rec : LoopState → Option Code → Loop, rec = fun st pd => { state := st, pending := pd, fn := fn, tmps := a.tmps, params := ps, assign := assign, body := body, defers := w.heap.size } := ⟨_, rfl⟩
  obtain ⟨W1, hW1⟩ : ∃ W1, (w.alloc (.deferred (some []))).alloc (.loop (rec .ready none)) = W1 := ⟨_, rfl⟩
  have hbb : Below w.heap.size w W1 := by rw [← hW1]; exact (Below.allocs _ _).trans ((Below.allocs _ _).mono (by simp))
  have sz : W1.heap.size = w.heap.size + 2 := by rw [← hW1]; simp
  have hl1 : W1.heap[w.heap.size + 1]? = some (.loop (rec .ready none)) := by
    rw [← hW1]; have := World.alloc_heap_new (w.alloc (.deferred (some []))) (.loop (rec .ready none)); rwa [World.size_alloc] at this
  have hd1 : W1.heap[w.heap.size]? = some (.deferred (some [])) := by
    rw [← hW1]; exact (Below.heap_alloc _ _ _ (by simp)).trans (World.alloc_heap_new w _)
  have hparty := JF.partyW (P := P) (Ok := Ok) (K := K) hI hK (l := w.heap.size + 1) rfl hrec hps (fun x p W h1 h2 h3 => hround _ x p W rfl h1 h2 h3)
  have hJ : JF I w.heap.size (w.heap.size + 1) (rec .ready none) [] W1 := ⟨hl1, hd1, hI none h0 ⟨hbb.os, hbb.tape, hbb.output, hbb.size, fun k hk _ => hbb.block k hk⟩ (fun r e => by cases e)⟩
  have hc := hcall (w.heap.size + 1) _ W1 hparty hJ sz hbb
  refine ⟨w.heap.size + 1, [{ target := .collected w.heap.size, args := #[] }], W1, { target := .fn (.func f) lb, args := #[.func (.yield (w.heap.size + 1)) #[] #[]] }, W1, f, #[.func (.yield (w.heap.size + 1)) #[] #[]] ++ lb, W1, ?_, ?_, fun _ _ => trivial, ?_, fun _ => by omega, ?_⟩
  · rw [← hW1, hrec]; exact run_enterLoop_outer _ _ _ _ _
  · simp only [resolve, hg]
    simp [go_sem]
  · simp [invoke, go_sem, eg]
  · refine (callsIn_wide.2 (callsIn_wide.1 hc)).mono ?_
    rintro e W2 ⟨⟨v, rfl⟩, S, hS, hJ2⟩
    refine ⟨none, _, by have := run_endLoop (P := P) hJ2.rec' (by rw [hrec]; simp); rw [hrec] at this; exact this, ?_⟩
    refine hdone w.heap.size S _ (hI (some (w.heap.size + 1)) hJ2.inv ⟨rfl, rfl, rfl, by simp, fun k hk hn => World.putObj_heap_other (fun e => hn (by rw [e]))⟩ (fun r e => by cases e; exact ⟨by omega, _, hJ2.rec', rfl⟩)) hS (Nat.le_refl _) ?_
    rw [World.putObj_heap_other (by omega)]
    exact hJ2.dfr
end

end Go.Proofs.Ytjjhmfpdbjflmaa
