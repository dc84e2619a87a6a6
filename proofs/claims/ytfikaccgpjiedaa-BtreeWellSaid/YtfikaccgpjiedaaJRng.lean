/-
  Ranges over functions, one within another: the party whose turns are asked for, what it lets the iterator touch, what it leaves alone; and a loop as such a party.
-/
import Derived.Test.YtfikaccgpjiedaaJRegI
import Derived.Test.YtfikaccgpjiedaaJBMem
import Derived.RangeFuncRecord
import Derived.RangeFuncSeq
namespace Go.Proofs.Ytfikaccgpjiedaa
open Go.RowKit

section
variable {α : Type} {P : Program}

/-- What holds between two turns (A: the blocks that the iterator leans on): the iterator may touch those of A that are not older than n1, and make new ones, which are then of A. -/
structure OwnP (n1 : Nat) (I : (Nat → Prop) → List α → World → Prop) : Prop where
  lt : ∀ {A p W}, I A p W → ∀ k, A k → k < W.heap.size
  own : ∀ {A A' : Nat → Prop} {p W W'}, I A p W → Touch (fun k => A k ∧ n1 ≤ k) W W' → (∀ k, A' k ↔ A k ∨ (W.heap.size ≤ k ∧ k < W'.heap.size)) → I A' p W'
  grow : ∀ {A : Nat → Prop} {p W W'}, I A p W → Below W.heap.size W W' → I A p W'

theorem OwnP.mono {n0 n1 : Nat} {I : (Nat → Prop) → List α → World → Prop} (h : OwnP n0 I) (hn : n0 ≤ n1) : OwnP n1 I :=
  ⟨h.lt, fun hi ht hA => h.own hi ⟨ht.os, ht.tape, ht.output, ht.size, fun k hk hn' => ht.block k hk (fun hx => hn' ⟨hx.1, Nat.le_trans hn hx.2⟩)⟩ hA, h.grow⟩

/-- What is said of what is handed over. -/
structure Tells (T : (Nat → Prop) → World → α → Prop) : Prop where
  mono : ∀ {A A' : Nat → Prop} {W x}, T A W x → (∀ k, A k → A' k) → T A' W x
  stay : ∀ {A : Nat → Prop} {W W' x}, T A W x → Stay A W W' → T A W' x

/-- The party whose turns are asked for. -/
structure Party (P : Program) (enc : α → Array Value) (T : (Nat → Prop) → World → α → Prop) (Ok : List α → Prop) (l n0 : Nat) (J Jx : (Nat → Prop) → List α → World → Prop) : Prop where
  j : OwnP n0 J
  x : OwnP n0 Jx
  turn : ∀ A p x W, J A p W → T A W x → Ok (p ++ [x]) → YieldAt .wide 0 P l (enc x) W fun e W' => (e = .returned (.bool true) ∧ J A (p ++ [x]) W' ∧ Stay A W W') ∨ (e = .returned (.bool false) ∧ Jx A (p ++ [x]) W' ∧ Stay A W W')

/-- A loop's record r at l, while its iterator, begun at W1 with A1 to lean on, goes on. -/
structure JL (I : (Nat → Prop) → List α → World → Prop) (l : Nat) (r : Loop) (A1 : Nat → Prop) (W1 : World) (A : Nat → Prop) (p : List α) (W : World) : Prop where
  nl : ¬ A l
  rec' : W.heap[l]? = some (.loop r)
  big : ∃ A2 : Nat → Prop, (∀ k, A k → A2 k) ∧ (∀ k, A1 k → A2 k) ∧ A2 l ∧ I A2 p W
  stay : Stay A1 W1 W

theorem touch_put {F : Nat → Prop} (W : World) {l : Nat} (o : Obj) (h : F l) : Touch F W (W.putObj l o) :=
  ⟨rfl, rfl, rfl, by simp, fun k _ hk => World.putObj_heap_other (fun e => hk (by rw [e]; exact h))⟩
theorem stay_put {G : Nat → Prop} (W : World) {l : Nat} (o : Obj) (h : ¬ G l) : Stay G W (W.putObj l o) :=
  ⟨by simp, fun k _ hk => World.putObj_heap_other (fun e => h (by rw [← e]; exact hk))⟩

theorem JL.ownP {I : (Nat → Prop) → List α → World → Prop} {n1 : Nat} (hI : OwnP n1 I) {l : Nat} {r : Loop} {A1 : Nat → Prop} {W1 : World} (hn1 : n1 ≤ W1.heap.size) (hl : l < W1.heap.size) (hA1 : ∀ k, A1 k → k < W1.heap.size) : OwnP W1.heap.size (JL I l r A1 W1) := by
  refine ⟨fun h k hk => ?_, fun {A A' p W W'} h ht hA => ?_, fun {A p W W'} h hb => ?_⟩
  · obtain ⟨A2, h1, _, _, h4⟩ := h.big
    exact hI.lt h4 k (h1 k hk)
  · have hs := h.stay.size
    obtain ⟨A2, h1, h2, h3, h4⟩ := h.big
    refine ⟨fun hx => ?_, ?_, ⟨fun k => A2 k ∨ (W.heap.size ≤ k ∧ k < W'.heap.size), fun k hk => ?_, fun k hk => .inl (h2 k hk), .inl h3, hI.own h4 ?_ (fun _ => Iff.rfl)⟩, h.stay.trans (ht.stay fun k hk hx => ?_)⟩
    · rcases (hA l).1 hx with hx | hx
      · exact h.nl hx
      · omega
    · rw [ht.block l (by omega) (fun hx => h.nl hx.1)]; exact h.rec'
    · exact ((hA k).1 hk).imp (h1 k) id
    · exact ⟨ht.os, ht.tape, ht.output, ht.size, fun k hk hn => ht.block k hk (fun hx => hn ⟨h1 k hx.1, Nat.le_trans hn1 hx.2⟩)⟩
    · have := hA1 k hk; omega
  · have hs := h.stay.size
    obtain ⟨A2, h1, h2, h3, h4⟩ := h.big
    exact ⟨h.nl, (hb.block l (by omega)).trans h.rec', ⟨A2, h1, h2, h3, hI.grow h4 hb⟩, h.stay.trans (Stay.of_below hb)⟩

/-- What a turn's variables are laid in, and what its body does. -/
def TurnOk (P : Program) (T : (Nat → Prop) → World → α → Prop) (Ok : List α → Prop) (I Ix : (Nat → Prop) → List α → World → Prop) (A1 : Nat → Prop) (W1 : World) (l : Nat) (body : Code) (jx : Exit) (lay : World → World) (x : α) (W : World) (a2 : Act) (W' : World) : Prop :=
  W' = lay W ∧ ∀ (A : Nat → Prop) (p : List α) (W2 : World), I A p W2 → I (fun k => A k ∨ (W.heap.size ≤ k ∧ k < W2.heap.size)) p W2 → T A W2 x → Ok (p ++ [x]) → (∀ k, A1 k → A k) → Stay A1 W1 W2 → (∀ k, A k → k < W.heap.size) → (∀ k, k ≠ l → W2.heap[k]? = (lay W).heap[k]?) → W2.heap.size = (lay W).heap.size →
    body.wpIn (Fence.wide.inRound l) 0 P (fun e _ W3 => (e = .normal ∧ I A (p ++ [x]) W3 ∧ Stay A W2 W3) ∨ (e = jx ∧ Ix A (p ++ [x]) W3 ∧ Stay A W2 W3)) a2 W2

/-- A loop is a party. -/
theorem JL.party {enc : α → Array Value} {T : (Nat → Prop) → World → α → Prop} (hT : Tells T) {Ok : List α → Prop} {n1 : Nat} {I Ix : (Nat → Prop) → List α → World → Prop} (hI : OwnP n1 I) (hIx : OwnP n1 Ix) {l : Nat} {A1 : Nat → Prop} {W1 : World} (hn1 : n1 ≤ l) (hl : l < W1.heap.size) (hA1 : ∀ k, A1 k → k < W1.heap.size) (hA1l : ¬ A1 l)
    {fn : FuncId} {tmps : Array Value} {ps : Array Tmp} {assign body : Code} {D : Nat} {rec : LoopState → Option Code → Loop} (hrec : rec = fun st pd => { state := st, pending := pd, fn := fn, tmps := tmps, params := ps, assign := assign, body := body, defers := D })
    (hps : ∀ x, (enc x).size = ps.size) (lay : α → World → World) (hlay : ∀ x W, Below W.heap.size W (lay x W)) (jx : Exit) (jc : Code) (hj : (jx = .ret ∧ jc = .ret) ∨ ∃ id, jx = .exit id ∧ jc = .exit id)
    (hround : ∀ (x : α) (W : World), l < W.heap.size → assign.wpIn (Fence.wide.inRound l) 0 P (Exit.then (TurnOk P T Ok I Ix A1 W1 l body jx (lay x) x W) (fun _ _ _ => False)) { tmps := (ps.zip (enc x)).foldl (fun t (p, v) => t.setIfInBounds p v) tmps, defers := [] } W) :
    Party P enc T Ok l W1.heap.size (JL I l (rec .ready none) A1 W1) (JL Ix l (rec .done (some jc)) A1 W1) := by
  refine ⟨JL.ownP hI (by omega) hl hA1, JL.ownP hIx (by omega) hl hA1, fun A p x W h ht hp => ?_⟩
  have hs := h.stay.size
  have hlW : l < W.heap.size := by omega
  obtain ⟨A2, h1, h2, h3, h4⟩ := h.big
  have hy := run_yield (P := P) (args := enc x) h.rec' (by rw [hrec]; exact hps x)
  rw [hrec] at hy
  -- the variable is laid
  have b1 := hlay x W
  obtain ⟨Wl, hWl⟩ : ∃ Wl, lay x W = Wl := ⟨_, rfl⟩
  rw [hWl] at b1
  have i1 : I A2 p Wl := hI.grow h4 b1
  have r1 : Wl.heap[l]? = some (.loop (rec .ready none)) := (b1.block l hlW).trans h.rec'
  -- the record is busy
  obtain ⟨W2, hW2⟩ : ∃ W2, Wl.putObj l (.loop (rec .busy none)) = W2 := ⟨_, rfl⟩
  have hlWl : l < Wl.heap.size := Nat.lt_of_lt_of_le hlW b1.size
  have s2 : W2.heap.size = Wl.heap.size := by rw [← hW2, World.putObj_size]
  have k2 : ∀ k, k ≠ l → W2.heap[k]? = Wl.heap[k]? := fun k hk => by rw [← hW2]; exact World.putObj_heap_other hk
  have r2 : W2.heap[l]? = some (.loop (rec .busy none)) := by rw [← hW2]; exact World.putObj_heap_same hlWl
  have i2 : I A2 p W2 := by
    have ht2 : Touch (fun k => A2 k ∧ n1 ≤ k) Wl W2 := by rw [← hW2]; exact touch_put Wl _ ⟨h3, hn1⟩
    exact hI.own i1 ht2 (fun k => ⟨.inl, fun hx => hx.elim id (fun hx => by omega)⟩)
  have i3 : I (fun k => A2 k ∨ (W.heap.size ≤ k ∧ k < W2.heap.size)) p W2 := by
    have ht2 : Touch (fun k => (A2 k ∨ (W.heap.size ≤ k ∧ k < Wl.heap.size)) ∧ n1 ≤ k) Wl W2 := by rw [← hW2]; exact touch_put Wl _ ⟨.inl h3, hn1⟩
    rw [s2]
    exact hI.own (hI.own h4 (Touch.of_below b1) (fun _ => Iff.rfl)) ht2 (fun k => ⟨.inl, fun hx => hx.elim id (fun hx => by omega)⟩)
  have st2 : ∀ G : Nat → Prop, ¬ G l → Stay G W W2 := fun G hG => (Stay.of_below b1).trans (by rw [← hW2]; exact stay_put Wl _ hG)
  have hb := fun a2 (hto : TurnOk P T Ok I Ix A1 W1 l body jx (lay x) x W a2 Wl) => hto.2 A2 p W2 i2 i3 (hT.mono (hT.stay ht (st2 A h.nl)) (fun k hk => h1 k hk)) hp (fun k hk => h2 k hk) (h.stay.trans (st2 A1 hA1l)) (fun k hk => hI.lt h4 k hk) (fun k hk => by rw [hWl]; exact k2 k hk) (by rw [hWl]; exact s2)
  have hbg := run_beginRound (P := P) r1 (by rw [hrec])
  have e1 : ({ rec .ready none with state := .busy } : Loop) = rec .busy none := by rw [hrec]
  rw [e1, hW2] at hbg
  refine ⟨fn, _, assign, body, hy, roundIn_of_wpIn trivial (wpIn_mono (hround x W hlW) fun e a2 W' hto => ?_)⟩
  have hnormal : TurnOk P T Ok I Ix A1 W1 l body jx (lay x) x W a2 W' → ∃ w₂, (Instr.beginRound l).run P W' = .ok () w₂ ∧ body.wpIn (Fence.wide.inRound l) 0 P (roundPost P l fun e W' => (e = .returned (.bool true) ∧ JL I l (rec .ready none) A1 W1 A (p ++ [x]) W' ∧ Stay A W W') ∨ (e = .returned (.bool false) ∧ JL Ix l (rec .done (some jc)) A1 W1 A (p ++ [x]) W' ∧ Stay A W W')) a2 w₂ := fun hto => by
    obtain rfl : Wl = W' := (hto.1.trans hWl).symm
    refine ⟨W2, hbg, wpIn_mono (hb a2 hto) ?_⟩
    -- what a turn leaves
    have fin : ∀ (I' : (Nat → Prop) → List α → World → Prop) (hI' : OwnP n1 I') (W3 : World) (r : Loop), I' A2 (p ++ [x]) W3 → Stay A2 W2 W3 →
        JL I' l r A1 W1 A (p ++ [x]) (W3.putObj l (.loop r)) ∧ Stay A W (W3.putObj l (.loop r)) := fun I' hI' W3 r hi hst => by
      have hs3 := hst.size
      have hl3 : l < W3.heap.size := by omega
      refine ⟨⟨h.nl, World.putObj_heap_same hl3, ⟨A2, fun k hk => h1 k hk, fun k hk => h2 k hk, h3, hI'.own hi (touch_put W3 _ ⟨h3, hn1⟩) (fun k => ⟨.inl, fun hx => hx.elim id (fun hx => by rw [World.putObj_size] at hx; omega)⟩)⟩, ?_⟩, ?_⟩
      · exact (h.stay.trans (st2 A1 hA1l)).trans ((hst.mono fun k hk => h2 k hk).trans (stay_put W3 _ hA1l))
      · exact (st2 A h.nl).trans ((hst.mono fun k hk => h1 k hk).trans (stay_put W3 _ h.nl))
    rintro e a3 W3 (⟨rfl, hi, hst⟩ | ⟨rfl, hi, hst⟩)
    · have r3 : W3.heap[l]? = some (.loop (rec .busy none)) := by rw [hst.block l (by omega) h3]; exact r2
      have hend := run_endRound (P := P) none r3
      have e2 : ({ rec .busy none with state := if (none : Option Code).isNone then .ready else .done, pending := none } : Loop) = rec .ready none := by rw [hrec]; rfl
      rw [e2] at hend
      exact ⟨_, _, hend, .inl ⟨rfl, fin I hI W3 _ hi hst⟩⟩
    · have r3 : W3.heap[l]? = some (.loop (rec .busy none)) := by rw [hst.block l (by omega) h3]; exact r2
      have hend := run_endRound (P := P) (some jc) r3
      have e2 : ({ rec .busy none with state := if (some jc).isNone then .ready else .done, pending := some jc } : Loop) = rec .done (some jc) := by rw [hrec]; rfl
      rw [e2] at hend
      have hq : ∃ v w', (Instr.endRound l (some jc)).run P W3 = .ok v w' ∧ ((Ending.returned v = .returned (.bool true) ∧ JL I l (rec .ready none) A1 W1 A (p ++ [x]) w' ∧ Stay A W w') ∨ (Ending.returned v = .returned (.bool false) ∧ JL Ix l (rec .done (some jc)) A1 W1 A (p ++ [x]) w' ∧ Stay A W w')) :=
        ⟨_, _, hend, .inr ⟨rfl, fin Ix hIx W3 _ hi hst⟩⟩
      rcases hj with ⟨rfl, rfl⟩ | ⟨id, rfl, rfl⟩
      · exact hq
      · exact hq
  cases e with
  | normal => exact hnormal hto
  | _ => exact hto

/-- THE LAW of a range over a function. -/
theorem wpIn_range {gg : Operand} {ps : Array Tmp} {assign body : Code} {Q : Exit → Act → World → Prop} {a : Act} {w : World} {enc : α → Array Value} {T : (Nat → Prop) → World → α → Prop} (hT : Tells T) (Ok : List α → Prop) {f : FuncId} {lb : Array Value} (I Ix : (Nat → Prop) → List α → World → Prop) (hI : OwnP w.heap.size I) (hIx : OwnP w.heap.size Ix)
    (A0 : Nat → Prop) (p S : List α) (h0 : I A0 p w) (hg : a.eval gg = .func (.func f) #[] lb) (eg : ∀ args W, (callFunc f args).run P W = .ok (.enter f args) W)
    (hps : ∀ x, (enc x).size = ps.size) (lay : α → World → World) (hlay : ∀ x W, Below W.heap.size W (lay x W)) (jx : Exit) (jc : Code) (hj : (jx = .ret ∧ jc = .ret) ∨ ∃ id, jx = .exit id ∧ jc = .exit id)
    (hround : ∀ (l : Nat) (x : α) (W : World), l < W.heap.size → w.heap.size ≤ l → assign.wpIn (Fence.wide.inRound l) 0 P (Exit.then (TurnOk P T Ok I Ix A0 w l body jx (lay x) x W) (fun _ _ _ => False)) { tmps := (ps.zip (enc x)).foldl (fun t (p, v) => t.setIfInBounds p v) a.tmps, defers := [] } W)
    (hcall : ∀ (l n0 : Nat) (J Jx : (Nat → Prop) → List α → World → Prop) (A : Nat → Prop) (W : World), Party P enc T Ok l n0 J Jx → J A p W → n0 ≤ W.heap.size → (∀ k, A0 k → A k) → Stay A0 w W → CallsIn .wide 1 P f (#[.func (.yield l) #[] #[]] ++ lb) W fun e W' => (∃ v, e = .returned v) ∧ ∃ A' : Nat → Prop, (∀ k, A k → A' k) ∧ (J A' (p ++ S) W' ∨ ∃ q, q <+: S ∧ Jx A' (p ++ q) W'))
    (hdone : ∀ (D : Nat) (A : Nat → Prop) (W : World), I A (p ++ S) W → (∀ k, A0 k → A k) → Stay A0 w W → A D → w.heap.size ≤ D → W.heap[D]? = some (.deferred (some [])) → Q .normal { a with defers := { target := .collected D, args := #[] } :: a.defers } W)
    (hstop : ∀ (D : Nat) (A : Nat → Prop) (W : World) (q : List α), q <+: S → Ix A (p ++ q) W → (∀ k, A0 k → A k) → Stay A0 w W → A D → w.heap.size ≤ D → W.heap[D]? = some (.deferred (some [])) → jc.wpIn .wide 1 P Q { a with defers := { target := .collected D, args := #[] } :: a.defers } W) :
    (Code.rangeFunc gg ps assign body).wpIn .wide 1 P Q a w := by
  refine wpIn_rangeFunc ?_
  intro fn hfn
  obtain ⟨rec, hrec⟩ : ∃ rec : LoopState → Option Code → Loop, rec = fun st pd => { state := st, pending := pd, fn := fn, tmps := a.tmps, params := ps, assign := assign, body := body, defers := w.heap.size } := ⟨_, rfl⟩
  obtain ⟨W1, hW1⟩ : ∃ W1, (w.alloc (.deferred (some []))).alloc (.loop (rec .ready none)) = W1 := ⟨_, rfl⟩
  have hbb : Below w.heap.size w W1 := by rw [← hW1]; exact (Below.allocs _ _).trans ((Below.allocs _ _).mono (by simp))
  have sz : W1.heap.size = w.heap.size + 2 := by rw [← hW1]; simp
  have hl1 : W1.heap[w.heap.size + 1]? = some (.loop (rec .ready none)) := by
    rw [← hW1]; have := World.alloc_heap_new (w.alloc (.deferred (some []))) (.loop (rec .ready none)); rwa [World.size_alloc] at this
  have hd1 : W1.heap[w.heap.size]? = some (.deferred (some [])) := by
    rw [← hW1]; exact (Below.heap_alloc _ _ _ (by simp)).trans (World.alloc_heap_new w _)
  have hA0 := hI.lt h0
  have i1 : I (fun k => A0 k ∨ (w.heap.size ≤ k ∧ k < W1.heap.size)) p W1 := hI.own h0 (Touch.of_below hbb) (fun _ => Iff.rfl)
  have hA1 : ∀ k, (A0 k ∨ k = w.heap.size) → k < W1.heap.size := fun k hk => by
    rcases hk with hk | hk
    · have := hA0 k hk; omega
    · omega
  have hA1l : ¬ (A0 (w.heap.size + 1) ∨ w.heap.size + 1 = w.heap.size) := fun hx => by
    rcases hx with hx | hx
    · have := hA0 _ hx; omega
    · omega
  have st0 : ∀ W, Stay (fun k => A0 k ∨ k = w.heap.size) W1 W → Stay A0 w W := fun W h => (Stay.of_below hbb).trans (h.mono fun k hk => .inl hk)
  have hparty := JL.party (P := P) hT (Ok := Ok) hI hIx (l := w.heap.size + 1) (A1 := fun k => A0 k ∨ k = w.heap.size) (W1 := W1) (by omega) (by omega) hA1 hA1l hrec hps lay hlay jx jc hj (fun x W hlW => wpIn_mono (hround _ x W hlW (by omega)) fun e a2 W' hto => by
    cases e with
    | normal => exact ⟨hto.1, fun A p W2 h1 h0 h2 h3 h4 h5 h6 h7 h8 => hto.2 A p W2 h1 h0 h2 h3 (fun k hk => h4 k (.inl hk)) (st0 W2 h5) h6 h7 h8⟩
    | _ => exact hto)
  have hJ : JL I (w.heap.size + 1) (rec .ready none) (fun k => A0 k ∨ k = w.heap.size) W1 (fun k => A0 k ∨ k = w.heap.size) p W1 :=
    ⟨hA1l, hl1, ⟨_, fun k hk => hk.imp id (fun h => by omega), fun k hk => hk.imp id (fun h => by omega), .inr (by omega), i1⟩, Stay.refl _ _⟩
  have hc := hcall (w.heap.size + 1) W1.heap.size _ _ (fun k => A0 k ∨ k = w.heap.size) W1 hparty hJ (Nat.le_refl _) (fun k hk => .inl hk) (Stay.of_below hbb)
  refine ⟨w.heap.size + 1, [{ target := .collected w.heap.size, args := #[] }], W1, { target := .fn (.func f) lb, args := #[.func (.yield (w.heap.size + 1)) #[] #[]] }, W1, f, #[.func (.yield (w.heap.size + 1)) #[] #[]] ++ lb, W1, ?_, ?_, fun _ _ => trivial, ?_, fun _ => by omega, ?_⟩
  · rw [← hW1, hrec]; exact run_enterLoop_outer _ _ _ _ _
  · simp only [resolve, hg]
    simp [go_sem]
  · simp [invoke, go_sem, eg]
  · refine (callsIn_wide.2 (callsIn_wide.1 hc)).mono ?_
    have fin : ∀ (I' : (Nat → Prop) → List α → World → Prop) (hI' : OwnP w.heap.size I') (A' : Nat → Prop) (q : List α) (W2 : World) (r r' : Loop), JL I' (w.heap.size + 1) r (fun k => A0 k ∨ k = w.heap.size) W1 A' q W2 →
        ∃ A : Nat → Prop, I' A q (W2.putObj (w.heap.size + 1) (.loop r')) ∧ (∀ k, A0 k → A k) ∧ Stay A0 w (W2.putObj (w.heap.size + 1) (.loop r')) ∧ A w.heap.size ∧ (W2.putObj (w.heap.size + 1) (.loop r')).heap[w.heap.size]? = some (.deferred (some [])) := fun I' hI' A' q W2 r r' h => by
      obtain ⟨A2, _, h2, h3, h4⟩ := h.big
      refine ⟨A2, hI'.own h4 (touch_put W2 _ ⟨h3, by omega⟩) (fun k => ⟨.inl, fun hx => hx.elim id (fun hx => by rw [World.putObj_size] at hx; omega)⟩), fun k hk => h2 k (.inl hk), (st0 W2 h.stay).trans (stay_put W2 _ (fun hx => hA1l (.inl hx))), h2 _ (.inr rfl), ?_⟩
      rw [World.putObj_heap_other (by omega), h.stay.block _ (by omega) (.inr rfl)]
      exact hd1
    rintro e W2 ⟨⟨v, rfl⟩, A', _, hJ2 | ⟨q, hq, hJ2⟩⟩
    · refine ⟨none, _, by have := run_endLoop (P := P) hJ2.rec' (by rw [hrec]; simp); rw [hrec] at this; exact this, ?_⟩
      obtain ⟨A, g1, g2, g3, g4, g5⟩ := fin I hI A' _ W2 _ { state := .exhausted, pending := none, fn := fn, tmps := a.tmps, params := ps, assign := assign, body := body, defers := w.heap.size } hJ2
      exact hdone _ A _ g1 g2 g3 g4 (Nat.le_refl _) g5
    · refine ⟨some jc, _, by have := run_endLoop (P := P) hJ2.rec' (by rw [hrec]; simp); rw [hrec] at this; exact this, ?_⟩
      obtain ⟨A, g1, g2, g3, g4, g5⟩ := fin Ix hIx A' _ W2 _ { state := .exhausted, pending := some jc, fn := fn, tmps := a.tmps, params := ps, assign := assign, body := body, defers := w.heap.size } hJ2
      exact hstop _ A _ q hq g1 g2 g3 g4 (Nat.le_refl _) g5
end
end Go.Proofs.Ytfikaccgpjiedaa

