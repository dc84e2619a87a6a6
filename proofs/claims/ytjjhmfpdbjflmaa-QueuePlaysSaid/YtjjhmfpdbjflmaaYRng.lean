/-
  A range over a function whose iterator reads what the turns write: between turns the party's relation I holds (it hangs on blocks that are older than the range alone), and the iterator may lean on what it says (stage 9).
-/
import Derived.Test.YtjjhmfpdbjflmaaRegI
import Derived.Test.YtjjhmfpdbjflmaaYBase
import Derived.RangeFuncRecord
import Derived.RangeFuncSeq
import Derived.RangeFuncLeaves
namespace Go.Proofs.Ytjjhmfpdbjflmaa
open Go.RowKit

section
variable {α : Type} {P : Program}

/-- What hangs on blocks older than n0 alone. -/
def OldP (n0 : Nat) (I : List α → World → Prop) : Prop := ∀ ⦃p W W'⦄, I p W → Below n0 W W' → I p W'

/-- The party whose turns are asked for: what it says between turns (J), what the iterator may lean on (K), and its turns, which leave all blocks from n1 on as they are. -/
structure PartyF (P : Program) (enc : α → Array Value) (Ok : List α → Prop) (l n1 : Nat) (J K : List α → World → Prop) : Prop where
  old : OldP n1 J
  know : ∀ ⦃p W⦄, J p W → K p W
  turn : ∀ p x W, n1 ≤ W.heap.size → J p W → Ok (p ++ [x]) → YieldAt .wide 0 P l (enc x) W fun e W' => e = .returned (.bool true) ∧ J (p ++ [x]) W' ∧ Touch (fun k => k < n1) W W'

/-- A loop's record r at l; its list of what is laid by at D. -/
structure JF (I : List α → World → Prop) (D l : Nat) (r : Loop) (p : List α) (W : World) : Prop where
  rec' : W.heap[l]? = some (.loop r)
  dfr : W.heap[D]? = some (.deferred (some []))
  inv : I p W

theorem JF.old {I : List α → World → Prop} {n0 D l : Nat} {r : Loop} (hI : OldP n0 I) (hD : D < n0 + 2) (hl : l < n0 + 2) : OldP (n0 + 2) (JF I D l r) := by
  intro p W W' h hb
  exact ⟨(hb.block l hl).trans h.rec', (hb.block D hD).trans h.dfr, hI h.inv (hb.mono (by omega))⟩

theorem below_putF (W : World) {l n0 : Nat} (o : Obj) (h : n0 ≤ l) : Below n0 W (W.putObj l o) :=
  ⟨rfl, rfl, rfl, by simp, fun k hk => World.putObj_heap_other (by omega)⟩
theorem touch_putF (W : World) {l : Nat} {F : Nat → Prop} (o : Obj) (h : F l) : Touch F W (W.putObj l o) :=
  ⟨rfl, rfl, rfl, by simp, fun k _ hk => World.putObj_heap_other (fun e => hk (by rw [e]; exact h))⟩

/-- A loop is a party. -/
theorem JF.party {enc : α → Array Value} {Ok : List α → Prop} {n0 : Nat} {I K : List α → World → Prop} (hI : OldP n0 I) (hK : ∀ ⦃p W⦄, I p W → K p W) {l : Nat} (hl : l = n0 + 1)
    {fn : FuncId} {tmps : Array Value} {ps : Array Tmp} {assign body : Code} {rec : LoopState → Option Code → Loop} (hrec : rec = fun st pd => { state := st, pending := pd, fn := fn, tmps := tmps, params := ps, assign := assign, body := body, defers := n0 })
    (hps : ∀ x, (enc x).size = ps.size)
    (hround : ∀ (x : α) (p : List α) (W : World), n0 + 2 ≤ W.heap.size → I p W → Ok (p ++ [x]) → assign.wpIn (Fence.wide.inRound l) 0 P (Exit.then (fun a2 W' => W' = W ∧ ∀ W2, I p W2 → W2.heap.size = W.heap.size → body.wpIn (Fence.wide.inRound l) 0 P (fun e _ W3 => e = .normal ∧ I (p ++ [x]) W3 ∧ Touch (fun k => k < n0) W2 W3) a2 W2) (fun _ _ _ => False)) { tmps := (ps.zip (enc x)).foldl (fun t (p, v) => t.setIfInBounds p v) tmps, defers := [] } W) :
    PartyF P enc Ok l (n0 + 2) (JF I n0 l (rec .ready none)) (fun p W => K p W) := by
  refine ⟨JF.old hI (by omega) (by omega), fun _ _ h => hK h.inv, fun p x W hs h hp => ?_⟩
  have hlW : l < W.heap.size := by omega
  have hy := run_yield (P := P) (args := enc x) h.rec' (by rw [hrec]; exact hps x)
  rw [hrec] at hy
  obtain ⟨W2, hW2⟩ : ∃ W2, W.putObj l (.loop (rec .busy none)) = W2 := ⟨_, rfl⟩
  have s2 : W2.heap.size = W.heap.size := by rw [← hW2, World.putObj_size]
  have k2 : ∀ k, k ≠ l → W2.heap[k]? = W.heap[k]? := fun k hk => by rw [← hW2]; exact World.putObj_heap_other hk
  have r2 : W2.heap[l]? = some (.loop (rec .busy none)) := by rw [← hW2]; exact World.putObj_heap_same hlW
  have i2 : I p W2 := by rw [← hW2]; exact hI h.inv (below_putF W _ (by omega))
  have t2 : Touch (fun k => k < n0 + 2) W W2 := by rw [← hW2]; exact touch_putF W _ (by omega)
  have hbg := run_beginRound (P := P) h.rec' (by rw [hrec])
  have e1 : ({ rec .ready none with state := .busy } : Loop) = rec .busy none := by rw [hrec]
  rw [e1, hW2] at hbg
  refine ⟨fn, _, assign, body, hy, roundIn_of_wpIn trivial (wpIn_mono (hround x p W hs h.inv hp) fun e a2 W' hto => ?_)⟩
  have hnormal : (W' = W ∧ ∀ W2, I p W2 → W2.heap.size = W.heap.size → body.wpIn (Fence.wide.inRound l) 0 P (fun e _ W3 => e = .normal ∧ I (p ++ [x]) W3 ∧ Touch (fun k => k < n0) W2 W3) a2 W2) → ∃ w₂, (Instr.beginRound l).run P W' = .ok () w₂ ∧ body.wpIn (Fence.wide.inRound l) 0 P (roundPost P l fun e W' => e = .returned (.bool true) ∧ JF I n0 l (rec .ready none) (p ++ [x]) W' ∧ Touch (fun k => k < n0 + 2) W W') a2 w₂ := fun hto => by
    obtain ⟨rfl, hb⟩ := hto
    refine ⟨W2, hbg, wpIn_mono (hb W2 i2 s2) ?_⟩
    rintro e a3 W3 ⟨rfl, hi, ht⟩
    have hs3 := ht.size
    have r3 : W3.heap[l]? = some (.loop (rec .busy none)) := by rw [ht.block l (by omega) (by omega)]; exact r2
    have hend := run_endRound (P := P) none r3
    have e2 : ({ rec .busy none with state := if (none : Option Code).isNone then .ready else .done, pending := none } : Loop) = rec .ready none := by rw [hrec]; rfl
    rw [e2] at hend
    refine ⟨_, _, hend, rfl, ⟨World.putObj_heap_same (by omega), ?_, hI hi (below_putF W3 _ (by omega))⟩, ?_⟩
    · rw [World.putObj_heap_other (by omega), ht.block n0 (by omega) (by omega), k2 n0 (by omega)]
      exact h.dfr
    · exact (t2.trans ht (fun k _ hk => by show k < n0 + 2; have : k < n0 := hk; omega)).trans (touch_putF (F := fun k => k < n0 + 2) W3 _ (by omega)) (fun _ _ hk => hk)
  cases e with
  | normal => exact hnormal hto
  | _ => exact hto

/-- THE LAW of a range over a function whose turns all go on. -/
theorem wpIn_rangeF {gg : Operand} {ps : Array Tmp} {assign body : Code} {Q : Exit → Act → World → Prop} {a : Act} {w : World} {enc : α → Array Value} (Ok : List α → Prop) (Fin : List α → Prop) {f : FuncId} {lb : Array Value} (I K : List α → World → Prop) (hI : OldP w.heap.size I) (hK : ∀ ⦃p W⦄, I p W → K p W)
    (h0 : I [] w) (hg : a.eval gg = .func (.func f) #[] lb) (eg : ∀ args W, (callFunc f args).run P W = .ok (.enter f args) W)
    (hps : ∀ x, (enc x).size = ps.size)
    (hround : ∀ (l : Nat) (x : α) (p : List α) (W : World), l = w.heap.size + 1 → w.heap.size + 2 ≤ W.heap.size → I p W → Ok (p ++ [x]) → assign.wpIn (Fence.wide.inRound l) 0 P (Exit.then (fun a2 W' => W' = W ∧ ∀ W2, I p W2 → W2.heap.size = W.heap.size → body.wpIn (Fence.wide.inRound l) 0 P (fun e _ W3 => e = .normal ∧ I (p ++ [x]) W3 ∧ Touch (fun k => k < w.heap.size) W2 W3) a2 W2) (fun _ _ _ => False)) { tmps := (ps.zip (enc x)).foldl (fun t (p, v) => t.setIfInBounds p v) a.tmps, defers := [] } W)
    (hcall : ∀ (l : Nat) (J : List α → World → Prop) (W : World), PartyF P enc Ok l (w.heap.size + 2) J K → J [] W → W.heap.size = w.heap.size + 2 → Below w.heap.size w W → CallsIn .wide 1 P f (#[.func (.yield l) #[] #[]] ++ lb) W fun e W' => (∃ v, e = .returned v) ∧ ∃ S, Fin S ∧ J S W')
    (hdone : ∀ (D : Nat) (S : List α) (W : World), I S W → Fin S → w.heap.size ≤ D → W.heap[D]? = some (.deferred (some [])) → Q .normal { a with defers := { target := .collected D, args := #[] } :: a.defers } W) :
    (Code.rangeFunc gg ps assign body).wpIn .wide 1 P Q a w := by
  refine wpIn_rangeFunc ?_
  intro fn hfn
  obtain ⟨rec, hrec⟩ : ∃ rec : LoopState → Option Code → Loop, rec = fun st pd => { state := st, pending := pd, fn := fn, tmps := a.tmps, params := ps, assign := assign, body := body, defers := w.heap.size } := ⟨_, rfl⟩
  obtain ⟨W1, hW1⟩ : ∃ W1, (w.alloc (.deferred (some []))).alloc (.loop (rec .ready none)) = W1 := ⟨_, rfl⟩
  have hbb : Below w.heap.size w W1 := by rw [← hW1]; exact (Below.allocs _ _).trans ((Below.allocs _ _).mono (by simp))
  have sz : W1.heap.size = w.heap.size + 2 := by rw [← hW1]; simp
  have hl1 : W1.heap[w.heap.size + 1]? = some (.loop (rec .ready none)) := by
    rw [← hW1]; have := World.alloc_heap_new (w.alloc (.deferred (some []))) (.loop (rec .ready none)); rwa [World.size_alloc] at this
  have hd1 : W1.heap[w.heap.size]? = some (.deferred (some [])) := by
    rw [← hW1]; exact (Below.heap_alloc _ _ _ (by simp)).trans (World.alloc_heap_new w _)
  have hparty := JF.party (P := P) (Ok := Ok) (K := K) hI hK (l := w.heap.size + 1) rfl hrec hps (fun x p W h1 h2 h3 => hround _ x p W rfl h1 h2 h3)
  have hJ : JF I w.heap.size (w.heap.size + 1) (rec .ready none) [] W1 := ⟨hl1, hd1, hI h0 hbb⟩
  have hc := hcall (w.heap.size + 1) _ W1 hparty hJ sz hbb
  refine ⟨w.heap.size + 1, [{ target := .collected w.heap.size, args := #[] }], W1, { target := .fn (.func f) lb, args := #[.func (.yield (w.heap.size + 1)) #[] #[]] }, W1, f, #[.func (.yield (w.heap.size + 1)) #[] #[]] ++ lb, W1, ?_, ?_, fun _ _ => trivial, ?_, fun _ => by omega, ?_⟩
  · rw [← hW1, hrec]; exact run_enterLoop_outer _ _ _ _ _
  · simp only [resolve, hg]
    simp [go_sem]
  · simp [invoke, go_sem, eg]
  · refine (callsIn_wide.2 (callsIn_wide.1 hc)).mono ?_
    rintro e W2 ⟨⟨v, rfl⟩, S, hS, hJ2⟩
    refine ⟨none, _, by have := run_endLoop (P := P) hJ2.rec' (by rw [hrec]; simp); rw [hrec] at this; exact this, ?_⟩
    exact hdone w.heap.size S _ (hI hJ2.inv (below_putF W2 _ (by omega))) hS (Nat.le_refl _) (by rw [World.putObj_heap_other (by omega)]; exact hJ2.dfr)
end
end Go.Proofs.Ytjjhmfpdbjflmaa
