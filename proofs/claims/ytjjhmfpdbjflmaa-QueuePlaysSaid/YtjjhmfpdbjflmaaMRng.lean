/-
  A range over a function whose turns may stop it, and touch no block that the iterator made: the iterator leans on what holds between turns (stage 12).
-/
import Derived.Test.YtjjhmfpdbjflmaaYRng
namespace Go.Proofs.Ytjjhmfpdbjflmaa
open Go.RowKit

section
variable {α : Type} {P : Program}

/-- The party whose turns are asked for: what it says between turns (J), and when it has stopped (Jx); what the iterator may lean on (K); its turns leave all blocks from n1 on as they are. -/
structure PartyS (P : Program) (enc : α → Array Value) (Ok : List α → Prop) (l n1 : Nat) (J Jx K : List α → World → Prop) : Prop where
  old : OldP n1 J
  oldx : OldP n1 Jx
  know : ∀ ⦃p W⦄, J p W → K p W
  turn : ∀ p x W, n1 ≤ W.heap.size → J p W → Ok (p ++ [x]) → YieldAt .wide 0 P l (enc x) W fun e W' => Touch (fun k => k < n1) W W' ∧ ((e = .returned (.bool true) ∧ J (p ++ [x]) W') ∨ (e = .returned (.bool false) ∧ Jx (p ++ [x]) W'))

/-- What a turn's variables are laid in, and what its body does. -/
def TurnS (P : Program) (I Ix : List α → World → Prop) (n0 l : Nat) (body : Code) (jx : Exit) (lay : World → World) (x : α) (p : List α) (W : World) (a2 : Act) (W' : World) : Prop :=
  W' = lay W ∧ ∀ W2, I p W2 → (∀ k, k ≠ l → W2.heap[k]? = (lay W).heap[k]?) → W2.heap.size = (lay W).heap.size → body.wpIn (Fence.wide.inRound l) 0 P (fun e _ W3 => Touch (fun k => k < n0) W2 W3 ∧ ((e = .normal ∧ I (p ++ [x]) W3) ∨ (e = jx ∧ Ix (p ++ [x]) W3))) a2 W2

/-- A loop is a party. -/
theorem JF.partyS {enc : α → Array Value} {Ok : List α → Prop} {n0 : Nat} {I Ix K : List α → World → Prop} (hI : OldP n0 I) (hIx : OldP n0 Ix) (hK : ∀ ⦃p W⦄, I p W → K p W) {l : Nat} (hl : l = n0 + 1)
    {fn : FuncId} {tmps : Array Value} {ps : Array Tmp} {assign body : Code} {rec : LoopState → Option Code → Loop} (hrec : rec = fun st pd => { state := st, pending := pd, fn := fn, tmps := tmps, params := ps, assign := assign, body := body, defers := n0 })
    (hps : ∀ x, (enc x).size = ps.size) (lay : α → World → World) (hlay : ∀ x W, Below W.heap.size W (lay x W)) (jx : Exit) (jc : Code) (hj : (jx = .ret ∧ jc = .ret) ∨ ∃ id, jx = .exit id ∧ jc = .exit id)
    (hround : ∀ (x : α) (p : List α) (W : World), n0 + 2 ≤ W.heap.size → I p W → Ok (p ++ [x]) → assign.wpIn (Fence.wide.inRound l) 0 P (Exit.then (TurnS P I Ix n0 l body jx (lay x) x p W) (fun _ _ _ => False)) { tmps := (ps.zip (enc x)).foldl (fun t (p, v) => t.setIfInBounds p v) tmps, defers := [] } W) :
    PartyS P enc Ok l (n0 + 2) (JF I n0 l (rec .ready none)) (JF Ix n0 l (rec .done (some jc))) K := by
  refine ⟨JF.old hI (by omega) (by omega), JF.old hIx (by omega) (by omega), fun _ _ h => hK h.inv, fun p x W hs h hp => ?_⟩
  have hlW : l < W.heap.size := by omega
  have hy := run_yield (P := P) (args := enc x) h.rec' (by rw [hrec]; exact hps x)
  rw [hrec] at hy
  obtain ⟨Wl, hWl⟩ : ∃ Wl, lay x W = Wl := ⟨_, rfl⟩
  have b1 := hlay x W
  rw [hWl] at b1
  have hs1 := b1.size
  have rl : Wl.heap[l]? = some (.loop (rec .ready none)) := (b1.block l hlW).trans h.rec'
  have il : I p Wl := hI h.inv (b1.mono (by omega))
  obtain ⟨W2, hW2⟩ : ∃ W2, Wl.putObj l (.loop (rec .busy none)) = W2 := ⟨_, rfl⟩
  have s2 : W2.heap.size = Wl.heap.size := by rw [← hW2, World.putObj_size]
  have k2 : ∀ k, k ≠ l → W2.heap[k]? = Wl.heap[k]? := fun k hk => by rw [← hW2]; exact World.putObj_heap_other hk
  have r2 : W2.heap[l]? = some (.loop (rec .busy none)) := by rw [← hW2]; exact World.putObj_heap_same (by omega)
  have i2 : I p W2 := by rw [← hW2]; exact hI il (below_putF Wl _ (by omega))
  have t2 : Touch (fun k => k < n0 + 2) W W2 := (Touch.of_below b1).trans (by rw [← hW2]; exact touch_putF Wl _ (by omega)) (fun _ _ h => h)
  have hd2 : W2.heap[n0]? = some (.deferred (some [])) := by rw [k2 n0 (by omega), b1.block n0 (by omega)]; exact h.dfr
  have hbg := run_beginRound (P := P) rl (by rw [hrec])
  have e1 : ({ rec .ready none with state := .busy } : Loop) = rec .busy none := by rw [hrec]
  rw [e1, hW2] at hbg
  refine ⟨fn, _, assign, body, hy, roundIn_of_wpIn trivial (wpIn_mono (hround x p W hs h.inv hp) fun e a2 W' hto => ?_)⟩
  have hnormal : TurnS P I Ix n0 l body jx (lay x) x p W a2 W' → ∃ w₂, (Instr.beginRound l).run P W' = .ok () w₂ ∧ body.wpIn (Fence.wide.inRound l) 0 P (roundPost P l fun e W' => Touch (fun k => k < n0 + 2) W W' ∧ ((e = .returned (.bool true) ∧ JF I n0 l (rec .ready none) (p ++ [x]) W') ∨ (e = .returned (.bool false) ∧ JF Ix n0 l (rec .done (some jc)) (p ++ [x]) W'))) a2 w₂ := fun hto => by
    obtain ⟨hto1, hb⟩ := hto
    obtain rfl : Wl = W' := (hto1.trans hWl).symm
    refine ⟨W2, hbg, wpIn_mono (hb W2 i2 (fun k hk => by rw [hWl]; exact k2 k hk) (by rw [hWl]; exact s2)) ?_⟩
    have fin : ∀ (I' : List α → World → Prop) (hI' : OldP n0 I') (W3 : World) (r : Loop), I' (p ++ [x]) W3 → Touch (fun k => k < n0) W2 W3 → JF I' n0 l r (p ++ [x]) (W3.putObj l (.loop r)) ∧ Touch (fun k => k < n0 + 2) W (W3.putObj l (.loop r)) := fun I' hI' W3 r hi ht => by
      have hs3 := ht.size
      refine ⟨⟨World.putObj_heap_same (by omega), ?_, hI' hi (below_putF W3 _ (by omega))⟩, (t2.trans ht (fun k _ hk => by show k < n0 + 2; have : k < n0 := hk; omega)).trans (touch_putF (F := fun k => k < n0 + 2) W3 _ (by omega)) (fun _ _ hk => hk)⟩
      rw [World.putObj_heap_other (by omega), ht.block n0 (by omega) (by omega)]
      exact hd2
    rintro e a3 W3 ⟨ht, ⟨rfl, hi⟩ | ⟨rfl, hi⟩⟩
    · have hs3 := ht.size
      have r3 : W3.heap[l]? = some (.loop (rec .busy none)) := by rw [ht.block l (by omega) (by omega)]; exact r2
      have hend := run_endRound (P := P) none r3
      have e2 : ({ rec .busy none with state := if (none : Option Code).isNone then .ready else .done, pending := none } : Loop) = rec .ready none := by rw [hrec]; rfl
      rw [e2] at hend
      obtain ⟨f1, f2⟩ := fin I hI W3 (rec .ready none) hi ht
      exact ⟨_, _, hend, f2, .inl ⟨rfl, f1⟩⟩
    · have hs3 := ht.size
      have r3 : W3.heap[l]? = some (.loop (rec .busy none)) := by rw [ht.block l (by omega) (by omega)]; exact r2
      have hend := run_endRound (P := P) (some jc) r3
      have e2 : ({ rec .busy none with state := if (some jc).isNone then .ready else .done, pending := some jc } : Loop) = rec .done (some jc) := by rw [hrec]; rfl
      rw [e2] at hend
      obtain ⟨f1, f2⟩ := fin Ix hIx W3 (rec .done (some jc)) hi ht
      have hq : ∃ v w', (Instr.endRound l (some jc)).run P W3 = .ok v w' ∧ (Touch (fun k => k < n0 + 2) W w' ∧ ((Ending.returned v = .returned (.bool true) ∧ JF I n0 l (rec .ready none) (p ++ [x]) w') ∨ (Ending.returned v = .returned (.bool false) ∧ JF Ix n0 l (rec .done (some jc)) (p ++ [x]) w'))) :=
        ⟨_, _, hend, f2, .inr ⟨rfl, f1⟩⟩
      rcases hj with ⟨rfl, rfl⟩ | ⟨id, rfl, rfl⟩
      · exact hq
      · exact hq
  cases e with
  | normal => exact hnormal hto
  | _ => exact hto

/-- THE LAW of a range over a function whose turns may stop it. -/
theorem wpIn_rangeS {gg : Operand} {ps : Array Tmp} {assign body : Code} {Q : Exit → Act → World → Prop} {a : Act} {w : World} {enc : α → Array Value} (Ok Fin FinX : List α → Prop) {f : FuncId} {lb : Array Value} (I Ix K : List α → World → Prop) (hI : OldP w.heap.size I) (hIx : OldP w.heap.size Ix) (hK : ∀ ⦃p W⦄, I p W → K p W)
    (h0 : I [] w) (hg : a.eval gg = .func (.func f) #[] lb) (eg : ∀ args W, (callFunc f args).run P W = .ok (.enter f args) W)
    (hps : ∀ x, (enc x).size = ps.size) (lay : α → World → World) (hlay : ∀ x W, Below W.heap.size W (lay x W)) (jx : Exit) (jc : Code) (hj : (jx = .ret ∧ jc = .ret) ∨ ∃ id, jx = .exit id ∧ jc = .exit id)
    (hround : ∀ (l : Nat) (x : α) (p : List α) (W : World), l = w.heap.size + 1 → w.heap.size + 2 ≤ W.heap.size → I p W → Ok (p ++ [x]) → assign.wpIn (Fence.wide.inRound l) 0 P (Exit.then (TurnS P I Ix w.heap.size l body jx (lay x) x p W) (fun _ _ _ => False)) { tmps := (ps.zip (enc x)).foldl (fun t (p, v) => t.setIfInBounds p v) a.tmps, defers := [] } W)
    (hcall : ∀ (l : Nat) (J Jx : List α → World → Prop) (W : World), PartyS P enc Ok l (w.heap.size + 2) J Jx K → J [] W → W.heap.size = w.heap.size + 2 → Below w.heap.size w W → CallsIn .wide 1 P f (#[.func (.yield l) #[] #[]] ++ lb) W fun e W' => (∃ v, e = .returned v) ∧ ∃ S, (Fin S ∧ J S W') ∨ (FinX S ∧ Jx S W'))
    (hdone : ∀ (D : Nat) (S : List α) (W : World), I S W → Fin S → w.heap.size ≤ D → W.heap[D]? = some (.deferred (some [])) → Q .normal { a with defers := { target := .collected D, args := #[] } :: a.defers } W)
    (hstop : ∀ (D : Nat) (S : List α) (W : World), Ix S W → FinX S → w.heap.size ≤ D → W.heap[D]? = some (.deferred (some [])) → jc.wpIn .wide 1 P Q { a with defers := { target := .collected D, args := #[] } :: a.defers } W) :
    (Code.rangeFunc gg ps assign body).wpIn .wide 1 P Q a w := by
  refine wpIn_rangeFunc ?_
  intro fn hfn
  obtain ⟨rec, hrec⟩ : ∃ rec : LoopState → Option Code → Loop, rec = fun st pd => { state := st, pending := pd, fn := fn, tmps := a.tmps, params := ps, assign := assign, body := body, defers := w.heap.size } := ⟨_, rfl⟩
  obtain ⟨W1, hW1⟩ : ∃ W1, (w.alloc (.deferred (some []))).alloc (.loop (rec .ready none)) = W1 := ⟨_, rfl⟩
  have hbb : Below w.heap.size w W1 := by rw [← hW1]; exact (Below.allocs _ _).trans ((Below.allocs _ _).mono (by simp))
  have sz : W1.heap.size = w.heap.size + 2 := by rw [← hW1]; simp
  have hl1 : W1.heap[w.heap.size + 1]? = some (.loop (rec .ready none)) := by
    rw [← hW1]; have := World.alloc_heap_new (w.alloc (.deferred (some []))) (.loop (rec .ready none)); rwa [World.size_alloc] at this
  have hd1 : W1.heap[w.heap.size]? = some (.deferred (some [])) := by
    rw [← hW1]; exact (Below.heap_alloc _ _ _ (by simp)).trans (World.alloc_heap_new w _)
  have hparty := JF.partyS (P := P) (Ok := Ok) (K := K) hI hIx hK (l := w.heap.size + 1) rfl hrec hps lay hlay jx jc hj (fun x p W h1 h2 h3 => hround _ x p W rfl h1 h2 h3)
  have hJ : JF I w.heap.size (w.heap.size + 1) (rec .ready none) [] W1 := ⟨hl1, hd1, hI h0 hbb⟩
  have hc := hcall (w.heap.size + 1) _ _ W1 hparty hJ sz hbb
  refine ⟨w.heap.size + 1, [{ target := .collected w.heap.size, args := #[] }], W1, { target := .fn (.func f) lb, args := #[.func (.yield (w.heap.size + 1)) #[] #[]] }, W1, f, #[.func (.yield (w.heap.size + 1)) #[] #[]] ++ lb, W1, ?_, ?_, fun _ _ => trivial, ?_, fun _ => by omega, ?_⟩
  · rw [← hW1, hrec]; exact run_enterLoop_outer _ _ _ _ _
  · simp only [resolve, hg]
    simp [go_sem]
  · simp [invoke, go_sem, eg]
  · refine (callsIn_wide.2 (callsIn_wide.1 hc)).mono ?_
    rintro e W2 ⟨⟨v, rfl⟩, S, ⟨hS, hJ2⟩ | ⟨hS, hJ2⟩⟩
    · refine ⟨none, _, by have := run_endLoop (P := P) hJ2.rec' (by rw [hrec]; simp); rw [hrec] at this; exact this, ?_⟩
      exact hdone w.heap.size S _ (hI hJ2.inv (below_putF W2 _ (by omega))) hS (Nat.le_refl _) (by rw [World.putObj_heap_other (by omega)]; exact hJ2.dfr)
    · refine ⟨some jc, _, by have := run_endLoop (P := P) hJ2.rec' (by rw [hrec]; simp); rw [hrec] at this; exact this, ?_⟩
      exact hstop w.heap.size S _ (hIx hJ2.inv (below_putF W2 _ (by omega))) hS (Nat.le_refl _) (by rw [World.putObj_heap_other (by omega)]; exact hJ2.dfr)
end

theorem round_at {P : Program} {m m' l : Nat} {r r' : Option Nat} {f : FuncId} {tmps : Array Value} {assign body : Code} {w : World} {R : Ending → World → Prop} (h : RoundIn (RX.wideAt r) m P l f tmps assign body w R) : RoundIn (RX.wideAt r') m' P l f tmps assign body w R :=
  ⟨trivial, fun c cs _ => h.2 c cs (fun _ hd => by cases hd)⟩

theorem touch_below {D B : Nat} {W W' : World} (h : Touch (fun k => k = D) W W') (hD : B ≤ D) (hB : B ≤ W.heap.size) : Below B W W' := h.below (fun k hk => by have : k = D := hk; omega) hB
end Go.Proofs.Ytjjhmfpdbjflmaa
