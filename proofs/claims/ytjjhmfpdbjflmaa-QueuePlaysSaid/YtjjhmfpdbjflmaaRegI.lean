/-
  Regions that draw their order, inside a wide fence, be the frame a function's or a round's: heads that only read, and a chain behind them (which may call for a round); and whatever a region's own law says of it elsewhere.
-/
import Derived.Test.YtjjhmfpdbjflmaaRegL
import Derived.StillTail
import Derived.OrdersIn
import Derived.TacticsIn
namespace Go.Proofs.Ytjjhmfpdbjflmaa.RX

section
variable {P : Program} {Q : Exit → Act → World → Prop} {n : Nat}

/-- The wide fence, in a round or not. -/
def wideAt (r : Option Nat) : Fence := { Fence.wide with round := r }

theorem callsIn_at {r : Option Nat} {f : FuncId} {args : Array Value} {w : World} {R : Ending → World → Prop} (h : Calls P f args w R) : CallsIn (wideAt r) n P f args w R := (callsIn_wide (n := n)).2 h
theorem rowsIn_at {r : Option Nat} {row : String} {args : Array Value} {w : World} {R : Value → World → Prop} (h : Rows P row args w R) : RowsIn (wideAt r) n P row args w R := fun c cs _ => let ⟨v, w', h1, h2⟩ := h c cs; ⟨v, w', h1, stepsIn_wide.2 h2⟩

/-- No operation lays a call by. -/
def noDefer (ops : Array Oper) : Bool := ops.all fun o => match o.op with | .defer _ => false | _ => true

theorem noDefer_spec {ops : Array Oper} (h : noDefer ops = true) {i : Nat} {o : Oper} (ho : ops[i]? = some o) : ∀ c, o.op ≠ .defer c := by
  intro c hc
  unfold noDefer at h
  rw [Array.all_eq_true_iff_forall_mem] at h
  have := h o (Array.mem_of_getElem? ho)
  rw [hc] at this
  cases this

theorem op_in {o : Oper} (hd : ∀ c, o.op ≠ .defer c) {r : Option Nat} {a : Act} {w : World} {K K' : Act → World → Prop} (h : ∀ a w, K a w → K' a w) (hh : o.wp P a w K Q) : o.wpIn (wideAt r) n P a w K' Q := by
  refine ⟨fun _ _ => trivial, ?_⟩
  rw [Oper.semAt_eq _ _ _ hd]
  unfold Oper.wp at hh
  generalize (execOp a.eval o).run P w = x at *
  cases x with
  | ok v w' =>
    cases v <;> simp only [Oper.upon, Oper.uponIn] at hh ⊢ <;>
      first
        | exact h _ _ hh
        | exact ⟨fun hx => (by cases hx), callsIn_at (Calls.mono hh (fun e w'' he => by cases e <;> first | exact h _ _ he | exact he))⟩
        | exact ⟨fun hx => (by cases hx), rowsIn_at (Rows.mono hh (fun _ _ he => h _ _ he))⟩
  | halt x w' => cases x <;> simp only [Oper.upon, Oper.uponIn] at hh ⊢ <;> exact hh

theorem any_in {md : Region.Mode} {ops : Array Oper} {r : Option Nat} (hd : noDefer ops = true) (hL : ¬ LetsOut Q) : ∀ (f : Nat) (listed : Array Bool) (a : Act) (w : World), wpAny P md ops Q f listed a w → wpAnyIn (wideAt r) n P md ops Q f listed a w
  | 0, _, _, _, h => h
  | f + 1, listed, a, w, h => by
      refine ⟨h.1, fun i hi => ?_⟩
      have h1 := h.2 i hi
      unfold wpOp at h1
      unfold wpOpIn
      split
      · next ho => rw [ho] at h1; exact any_in hd hL f _ _ _ h1
      · next o ho =>
        rw [ho] at h1
        dsimp only at h1
        split
        · next hw =>
          rw [if_pos hw] at h1
          rcases h1 with h1 | h1
          · exact op_in (noDefer_spec hd ho) (fun a' w' h' => any_in hd hL f _ a' w' h') h1
          · exact absurd h1.2 hL
        · next hw =>
          rw [if_neg hw] at h1
          exact ⟨fun _ _ => trivial, any_in hd hL f _ _ _ h1⟩

/-- A region that ends in a chain, in a round. -/
theorem wpIn_region_lastH {r : Option Nat} (m : Nat) (S : World → Prop) {id : Nat} {l : List Oper} {a : Act} {w : World} (hm : P.follows .mixedOrders = true) (hs : shapeB m l = true) (hd : noDefer l.toArray = true) (hL : ¬ LetsOut Q)
    (h : wpAnyH P .any (l.take m).toArray (lastQ P l.toArray (l.drop m) Q) S m (Array.replicate m false) a w.drew) : (Code.region id l.toArray true).wpIn (wideAt r) n P Q a w :=
  wpIn_region_any hm (any_in hd hL _ _ _ _ (any_shape hs (wpAny_of_held _ _ _ _ h)))

/-! ### Heads that only read -/

theorem opIn_of_still {o : Oper} (hd : ∀ c, o.op ≠ .defer c) {r : Option Nat} {a : Act} {w : World} {K : Act → Prop} {K' : Act → World → Prop} (h : ∀ a, K a → K' a w) (hh : o.still P a w K) : o.wpIn (wideAt r) n P a w K' Q :=
  op_in hd (K := K') (fun _ _ h => h) (Oper.wp_of_still h hh)

theorem anyIn_of_head {md : Region.Mode} {ops : Array Oper} {r : Option Nat} (hd : noDefer ops = true) {w : World} {m g : Nat} {L : Array Bool → Act → Prop} (hL : ∀ listed a, L listed a → wpAnyIn (wideAt r) n P md ops Q g listed a w) :
    ∀ (f : Nat) (listed : Array Bool) (a : Act), wpAnyL P md ops w m L f listed a → wpAnyIn (wideAt r) n P md ops Q (f + g) listed a w
  | 0, listed, a, h => by rw [Nat.zero_add]; exact hL _ _ h
  | f + 1, listed, a, h => by
    rw [show f + 1 + g = (f + g) + 1 by omega]
    refine ⟨fun h0 => absurd h0 h.1, fun i hi => ?_⟩
    have h1 := (h.2 i hi).2
    unfold stOp at h1
    unfold wpOpIn
    split
    · next ho => rw [ho] at h1; exact anyIn_of_head hd hL f _ a h1
    · next o ho =>
      rw [ho] at h1
      dsimp only at h1
      split
      · next hw => rw [if_pos hw] at h1; exact opIn_of_still (noDefer_spec hd ho) (fun a' h' => anyIn_of_head hd hL f _ a' h') h1
      · next hw => rw [if_neg hw] at h1; exact ⟨fun _ _ => trivial, anyIn_of_head hd hL f _ _ h1⟩

theorem anyIn_of_seq {md : Region.Mode} {ops : Array Oper} {F : Fence} : ∀ (l : List Oper) (k : Nat) (listed : Array Bool) (a : Act) (w : World), (∀ j, l[j]? = ops[k + j]?) →
    Region.seqB md ops l.length k listed = true → wpListIn F n P ops Q l a w → wpAnyIn F n P md ops Q l.length listed a w
  | [], _, _, _, _, _, hB, h => ⟨by simpa [Region.seqB] using hB, h⟩
  | o :: l, k, listed, a, w, hl, hB, h => by
    have h0 : ops[k]? = some o := by simpa using (hl 0).symm
    simp only [List.length_cons, Region.seqB, Bool.and_eq_true, decide_eq_true_eq] at hB
    refine ⟨fun h1 => (by rw [hB.1] at h1; cases h1), fun i hi => ?_⟩
    rw [hB.1] at hi
    obtain rfl : i = k := by simpa using hi
    have hw : wpOpIn F n P ops Q i (wpListIn F n P ops Q l) a w := by unfold wpOpIn; simp only [h0]; exact h
    exact wpOpIn_mono (fun a' w' h' => anyIn_of_seq l (i + 1) _ a' w' (fun j => by have := hl (j + 1); simpa [Nat.add_assoc, Nat.add_comm 1 j] using this) hB.2 h') hw

/-- THE LAW. -/
theorem wpIn_region_still_tail {r : Option Nat} {id : Nat} {a : Act} {w : World} {l : List Oper} (m : Nat) (hm : P.follows .mixedOrders = true) (hB : Region.lexTailB .any l.toArray m = true) (hd : noDefer l.toArray = true)
    (h : wpStill P l.toArray w.drew (fun a' => wpListIn (wideAt r) n P l.toArray Q (l.drop m) a' w.drew) (l.take m) a) : (Code.region id l.toArray true).wpIn (wideAt r) n P Q a w := by
  simp only [Region.lexTailB, Bool.and_eq_true, decide_eq_true_eq] at hB
  obtain ⟨⟨⟨⟨hsel, hn⟩, hs⟩, hc⟩, hlex⟩ := hB
  have hn' : m < l.length := by simpa using hn
  have htl : (l.take m).length = m := by simp; omega
  have hdl : (l.drop m).length = l.toArray.size - m := by simp
  have inv0 : HeadInv .any l.toArray m (Array.replicate l.toArray.size false) :=
    ⟨by simp, fun j oj _ hl => (by rw [getD_replicate_false] at hl; cases hl), fun t _ ht => getD_in (by simpa using ht) (getD_replicate_false _ _)⟩
  have H := wpAnyL_lex (md := .any) (g := l.toArray.size - m) hsel hs hc hn (l.take m) 0 _ a (fun j hj => by
    have hj' : j < m := by rw [htl] at hj; exact hj
    simp [hj']) (by simpa using htl) inv0 (by rw [htl]; exact hlex) h
  refine wpIn_region_any hm ?_
  have := anyIn_of_head (n := n) (r := r) (Q := Q) hd (g := l.toArray.size - m) (fun listed a' hL => by
    have := anyIn_of_seq (n := n) (F := wideAt r) (md := .any) (Q := Q) (l.drop m) m listed a' w.drew (fun j => by simp [List.getElem?_drop]) (by rw [hdl]; exact hL.1) hL.2
    rwa [hdl] at this) _ _ _ H
  rw [htl, show m + (l.toArray.size - m) = l.toArray.size by omega] at this
  exact this
end
end Go.Proofs.Ytjjhmfpdbjflmaa.RX
