/-
  A law for regions that draw their order and hold calls: where each operation, in every world that meets S, gives one value and leaves a world that meets S, the region may be walked in the order of the text.
-/
import Derived.OrdersHeld
namespace Go.Proofs.Ytfikaccgpjiedaa

section
variable {P : Program} {ops : Array Oper} {Q : Exit → Act → World → Prop} {md : Region.Mode} {S : World → Prop}

def GivesUpon (P : Program) (S : World → Prop) (v : Value) : Result Next → Prop
  | .ok (.value u) w' => u = v ∧ S w'
  | .ok .skip w' => v = undef ∧ S w'
  | .ok (.enter f args) w' => Calls P f args w' (fun e w'' => e = .returned v ∧ S w'')
  | _ => False

/-- In state a, in every world that meets S, operation o leaves v in its temporary, and a world that meets S. -/
def Gives (P : Program) (ops : Array Oper) (S : World → Prop) (o : Oper) (v : Value) (a : Act) : Prop :=
  (Region.wanted o (yielded ops a.tmps) = true ∧ ∀ w, S w → GivesUpon P S v ((execOp a.eval o).run P w)) ∨
  (Region.wanted o (yielded ops a.tmps) = false ∧ v = undef)

theorem Gives.wpOp {i : Nat} {o : Oper} {v : Value} {a : Act} (hi : ops[i]? = some o) (hy : Gives P ops S o v a)
    {K : Act → World → Prop} {w : World} (hS : S w) (h : ∀ w', S w' → K (a.put o.dst v) w') : wpOp P ops Q i K a w := by
  unfold Go.wpOp
  simp only [hi]
  rcases hy with ⟨hw, hv⟩ | ⟨hw, rfl⟩
  · simp only [hw, if_true, Oper.wp]
    refine Or.inl ?_
    have := hv w hS
    generalize (execOp a.eval o).run P w = r at this
    unfold GivesUpon at this
    split at this
    · obtain ⟨rfl, h2⟩ := this; exact h _ h2
    · obtain ⟨rfl, h2⟩ := this; exact h _ h2
    · exact Calls.mono this fun e w'' he => by obtain ⟨rfl, h2⟩ := he; exact h _ h2
    · exact this.elim
  · simp only [hw, Bool.false_eq_true, if_false]; exact h _ hS

theorem Gives.of_same {o : Oper} {v : Value} {a a' : Act} (hy : Gives P ops S o v a) (he : execOp a'.eval o = execOp a.eval o)
    (hw : Region.wanted o (yielded ops a'.tmps) = Region.wanted o (yielded ops a.tmps)) : Gives P ops S o v a' := by
  unfold Gives at *
  rw [he, hw]
  exact hy

/-- What an operation may leave of a state: its own temporary and the deferred calls. -/
def Leaves (o : Oper) (a a' : Act) : Prop := ∃ ds u, a' = Act.put { a with defers := ds } o.dst u

theorem Gives.leaves {oi oj : Oper} {v : Value} {a a' : Act} (hy : Gives P ops S oi v a) (hs : ∀ cs b, oi.op ≠ .select cs b)
    (hd : ∀ d, oj.dst = some d → d ∉ oi.looksAt ops) (h : Leaves oj a a') : Gives P ops S oi v a' := by
  obtain ⟨ds, u, rfl⟩ := h
  have h0 : Gives P ops S oi v { a with defers := ds } := hy
  exact h0.of_same (execOp_put oi hs _ oj.dst u hd) (wanted_put oi _ oj.dst u hd)

/-- An operation that is asked in a state with one temporary more does there what it does here. -/
theorem upon_later {o : Oper} {a : Act} {d : Option Tmp} {v : Value} (hd : ∀ t, d = some t → o.dst ≠ some t)
    (hQ : ∀ c w, Q (.panic c) (a.put d v) w → Q (.panic c) a w) {K : Act → World → Prop} (r : Result Next)
    (h : o.upon P (a.put d v) K Q r) : o.upon P a (fun a' w' => Leaves o a a' ∧ K (a'.put d v) w') Q r := by
  have swap : ∀ (ds : List Deferred) (u : Value) (w : World), K (Act.put { (a.put d v) with defers := ds } o.dst u) w →
      Leaves o a (Act.put { a with defers := ds } o.dst u) ∧ K ((Act.put { a with defers := ds } o.dst u).put d v) w := fun ds u w hk =>
    ⟨⟨ds, u, rfl⟩, by
      have e : ({ (a.put d v) with defers := ds } : Act) = Act.put { a with defers := ds } d v := by cases d <;> rfl
      rw [e, Act.put_comm _ v u hd] at hk
      exact hk⟩
  have ed : (a.put d v).defers = a.defers := by cases d <;> rfl
  have swap0 : ∀ (u : Value) (w : World), K (Act.put (a.put d v) o.dst u) w → Leaves o a (a.put o.dst u) ∧ K ((a.put o.dst u).put d v) w := fun u w hk =>
    swap a.defers u w (by rw [← ed]; exact hk)
  match r, h with
  | .ok (.value u) w', h => exact swap0 u w' h
  | .ok .skip w', h => exact swap0 undef w' h
  | .ok (.defer x) w', h => exact swap (x :: a.defers) undef w' (by rw [← ed]; exact h)
  | .ok (.row _ _) _, h => exact Rows.mono h fun u w' => swap0 u w'
  | .halt (.panic _) w', h => exact hQ _ w' h
  | .ok (.enter _ _) _, h =>
    refine Calls.mono h fun e w' he => ?_
    match e, he with
    | .returned u, he => exact swap0 u w' he
    | .panicked c, he => exact hQ c w' he
    | .outgrown, he => exact he

theorem wpOp_later {j : Nat} {oi oj : Oper} {v : Value} (hj : ops[j]? = some oj) (hap : oi.apart ops oj = true)
    (hs : ∀ cs b, oi.op ≠ .select cs b) (hsj : ∀ cs b, oj.op ≠ .select cs b) {a : Act}
    (hQ : ∀ c w, Q (.panic c) (a.put oi.dst v) w → Q (.panic c) a w) {K : Act → World → Prop} {w : World}
    (hy : Gives P ops S oi v a) (h : wpOp P ops Q j K (a.put oi.dst v) w) :
    wpOp P ops Q j (fun a' w' => Gives P ops S oi v a' ∧ K (a'.put oi.dst v) w') a w := by
  obtain ⟨h1, h2, h3⟩ := Oper.apart_spec hap
  have ee := execOp_put oj hsj a oi.dst v h1
  refine wpOp_mono (K := fun a' w' => Leaves oj a a' ∧ K (a'.put oi.dst v) w') (fun a' w' hk => ⟨hy.leaves hs h3 hk.1, hk.2⟩) ?_
  unfold wpOp at h ⊢
  rw [hj] at h ⊢
  dsimp only at h ⊢
  rw [wanted_put oj a oi.dst v h1] at h
  by_cases hw : Region.wanted oj (yielded ops a.tmps) = true
  · rw [if_pos hw] at h ⊢
    rcases h with h | ⟨ha, hl⟩
    · left
      unfold Oper.wp at h ⊢
      rw [ee] at h
      exact upon_later h2 hQ _ h
    · right
      refine ⟨?_, hl⟩
      unfold Oper.asks at ha ⊢
      rw [ee] at ha
      exact ha
  · rw [if_neg hw] at h ⊢
    refine ⟨⟨a.defers, undef, rfl⟩, ?_⟩
    rw [Act.put_comm a v undef h2] at h
    exact h

/-- Whatever order is picked from here on, in whatever world that meets S. -/
def wpAnyS (P : Program) (md : Region.Mode) (ops : Array Oper) (Q : Exit → Act → World → Prop) (S : World → Prop) : Nat → Array Bool → Act → Prop
  | 0, listed, a => Region.ready md ops listed = [] ∧ ∀ w, S w → Q .normal a w
  | fuel + 1, listed, a =>
    (Region.ready md ops listed = [] → ∀ w, S w → Q .normal a w) ∧
    ∀ i ∈ Region.ready md ops listed, ∀ w, S w → wpOp P ops Q i (fun a' w' => S w' ∧ wpAnyS P md ops Q S fuel (listed.setIfInBounds i true) a') a w

theorem wpAny_of_S : ∀ (fuel : Nat) (listed : Array Bool) (a : Act) (w : World), S w → wpAnyS P md ops Q S fuel listed a → wpAny P md ops Q fuel listed a w
  | 0, _, _, w, hS, h => ⟨h.1, h.2 w hS⟩
  | fuel + 1, _, _, w, hS, h => ⟨fun hr => h.1 hr w hS, fun i hi => wpOp_mono (fun a' w' h' => wpAny_of_S fuel _ a' w' h'.1 h'.2) (h.2 i hi w hS)⟩

/-- Number i may be taken first. -/
theorem wpAnyS_first {i : Nat} {oi : Oper} {v : Value} (hi : ops[i]? = some oi) (hsel : ∀ (j : Nat) (o : Oper) cs b, ops[j]? = some o → o.op ≠ .select cs b)
    (hQ : ∀ c a w, Q (.panic c) (Act.put a oi.dst v) w → Q (.panic c) a w) : ∀ (fuel : Nat) (listed : Array Bool) (a : Act),
      (∀ j oj, ops[j]? = some oj → j ≠ i → listed.getD j true = false → (∀ e ∈ oj.after, Region.binds md e = true → e.on ≠ i) → oi.apart ops oj = true) →
      i ∈ Region.ready md ops listed → Gives P ops S oi v a →
      wpAnyS P md ops Q S fuel (listed.setIfInBounds i true) (a.put oi.dst v) → wpAnyS P md ops Q S (fuel + 1) listed a := by
  intro fuel
  induction fuel with
  | zero =>
    intro listed a _ hr hy H
    refine ⟨fun h => absurd hr (by simp [h]), fun j hj w hS => ?_⟩
    obtain rfl : j = i := Classical.byContradiction fun hji => by have := ready_mono hj hji; simp [H.1] at this
    exact hy.wpOp hi hS fun _ hS' => ⟨hS', H⟩
  | succ fuel ih =>
    intro listed a hfree hr hy H
    refine ⟨fun h => absurd hr (by simp [h]), fun j hj w hS => ?_⟩
    by_cases hji : j = i
    · subst hji
      exact hy.wpOp hi hS fun _ hS' => ⟨hS', H⟩
    obtain ⟨hj0, oj, hoj, hedge⟩ := mem_ready.1 hj
    have hi0 := (mem_ready.1 hr).1
    have hnot : ∀ e ∈ oj.after, Region.binds md e = true → e.on ≠ i := by
      intro e he hb heq
      subst heq
      have h1 := hedge e he hb
      simp only [Array.getD_eq_getD_getElem?] at hi0 h1
      cases hx : listed[e.on]? with
      | none => simp [hx] at h1
      | some b => simp [hx] at hi0 h1; simp [hi0] at h1
    have step := wpOp_later hoj (hfree j oj hoj hji hj0 hnot) (fun cs b => hsel i oi cs b hi) (fun cs b => hsel j oj cs b hoj) (fun c w => hQ c a w) hy (H.2 j (ready_mono hj hji) w hS)
    refine wpOp_mono (fun a' w' hk => ⟨hk.2.1, ih _ a' (fun k ok hk1 hk2 hk3 => ?_) (ready_mono hr (Ne.symm hji)) hk.1 (by rw [Array.setIfInBounds_comm _ _ hji]; exact hk.2.2)⟩) step
    refine hfree k ok hk1 hk2 ?_
    by_cases hjk : j = k
    · exact hjk ▸ hj0
    · rwa [getD_set_ne true hjk] at hk3

/-- Is the order of the text one that may be drawn, and may each operation of it be taken first? -/
def textOrder (md : Region.Mode) (ops : Array Oper) : Nat → Nat → Array Bool → Bool
  | 0, _, listed => (Region.ready md ops listed).isEmpty
  | fuel + 1, k, listed => (Region.ready md ops listed).contains k && Region.free md ops listed k && textOrder md ops fuel (k + 1) (listed.setIfInBounds k true)

/-- The walk in the order of the text. -/
def seqS (P : Program) (ops : Array Oper) (Q : Exit → Act → World → Prop) (S : World → Prop) : List Oper → Act → Prop
  | [], a => ∀ w, S w → Q .normal a w
  | o :: rest, a => ∃ v, Gives P ops S o v a ∧ seqS P ops Q S rest (a.put o.dst v)

theorem seqS_value {o : Oper} {rest : List Oper} {a : Act} (v : Value) (hw : Region.wanted o (yielded ops a.tmps) = true)
    (hv : ∀ w, S w → (execOp a.eval o).run P w = .ok (.value v) w) (hr : seqS P ops Q S rest (a.put o.dst v)) : seqS P ops Q S (o :: rest) a :=
  ⟨v, Or.inl ⟨hw, fun w hS => by rw [hv w hS]; exact ⟨rfl, hS⟩⟩, hr⟩

theorem seqS_skip {o : Oper} {rest : List Oper} {a : Act} (hw : Region.wanted o (yielded ops a.tmps) = false)
    (hr : seqS P ops Q S rest (a.put o.dst undef)) : seqS P ops Q S (o :: rest) a :=
  ⟨undef, Or.inr ⟨hw, rfl⟩, hr⟩

theorem seqS_call {o : Oper} {rest : List Oper} {a : Act} (f : FuncId) (args : Array Value) (v : Value) (hw : Region.wanted o (yielded ops a.tmps) = true)
    (hv : ∀ w, S w → (execOp a.eval o).run P w = .ok (.enter f args) w) (hc : ∀ w, S w → Calls P f args w fun e w' => e = .returned v ∧ S w')
    (hr : seqS P ops Q S rest (a.put o.dst v)) : seqS P ops Q S (o :: rest) a :=
  ⟨v, Or.inl ⟨hw, fun w hS => by rw [hv w hS]; exact hc w hS⟩, hr⟩

theorem seqS_nil {a : Act} (h : ∀ w, S w → Q .normal a w) : seqS P ops Q S [] a := h

theorem wpAnyS_of_seq (hsel : Region.noSelect ops = true) (hQ : ∀ c d v a w, Q (.panic c) (Act.put a d v) w → Q (.panic c) a w) :
    ∀ (l : List Oper) (k : Nat) (listed : Array Bool) (a : Act), (∀ j, l[j]? = ops[k + j]?) → textOrder md ops l.length k listed = true → seqS P ops Q S l a → wpAnyS P md ops Q S l.length listed a
  | [], k, listed, a, _, ht, h => ⟨by simpa [textOrder] using ht, h⟩
  | o :: rest, k, listed, a, hl, ht, h => by
    simp only [List.length_cons, textOrder, Bool.and_eq_true] at ht
    obtain ⟨⟨t1, t2⟩, t3⟩ := ht
    obtain ⟨v, hg, hr⟩ := h
    have hk : ops[k]? = some o := by have := hl 0; simpa using this.symm
    exact wpAnyS_first hk (Region.noSelect_spec hsel) (fun c a w => hQ c _ v a w) rest.length listed a (Region.free_spec hk t2) (by simpa using t1) hg
      (wpAnyS_of_seq hsel hQ rest (k + 1) _ _ (fun j => by have := hl (j + 1); simp only [List.getElem?_cons_succ] at this; rw [this, show k + (j + 1) = k + 1 + j by omega]) t3 hr)

/-- THE LAW: a region that draws its order, walked in the order of the text. -/
theorem wp_region_text (S : World → Prop) {id : Nat} {l : List Oper} {a : Act} {w : World} (hm : P.follows .mixedOrders = true) (hsel : Region.noSelect l.toArray = true)
    (ht : textOrder .any l.toArray l.length 0 (Array.replicate l.length false) = true)
    (hQ : ∀ c d v a w, Q (.panic c) (Act.put a d v) w → Q (.panic c) a w)
    (hS : S { w with drawn := w.drawn + 1 }) (h : seqS P l.toArray Q S l a) : (Code.region id l.toArray true).wp P Q a w :=
  wp_region_any hm (wpAny_of_S _ _ _ _ hS (by
    have := wpAnyS_of_seq (md := .any) hsel hQ l 0 (Array.replicate l.length false) a (fun j => by simp) ht h
    simpa using this))

end
end Go.Proofs.Ytfikaccgpjiedaa

