/-
  A law for regions that draw their order: each operation leaves one value, or one of which a condition speaks that holds from then on (the condition may name the value of one operation that it waits for); whatever order is drawn, the region may be walked in the order of the text. Here besides: new blocks whose order is drawn, too: they are different ones.
-/
import Derived.OrdersHeld
namespace Go.Proofs.Ytjjhmfpdbjflmaa.RX

/-- What an operation leaves: this value, or one of which V speaks (and goes on to). -/
inductive Plan
  | it (c : Value)
  | of (V : World → Value → Prop)
  | on (j : Nat) (V : Value → World → Value → Prop)
  | new (V : World → Value → Prop)

def Plan.ok : Plan → World → Value → Prop
  | .it c, _, v => v = c
  | .of V, w, v => V w v
  | .on _ _, _, _ => True
  | .new V, w, v => V w v

/-- A new block's number is the number of blocks that there were. -/
def Plan.fresh : Plan → World → Value → Prop
  | .new _, w, v => v = .pointer (some ⟨w.heap.size, 0, none⟩)
  | _, _, _ => True

/-- Which of the operations make a new block. -/
def newIdx : List Plan → Nat → List Nat
  | [], _ => []
  | .new _ :: ps, k => k :: newIdx ps (k + 1)
  | .it _ :: ps, k => newIdx ps (k + 1)
  | .of _ :: ps, k => newIdx ps (k + 1)
  | .on _ _ :: ps, k => newIdx ps (k + 1)

theorem newIdx_mem : ∀ (ps : List Plan) (k i : Nat), i ∈ newIdx ps k → ∃ V, k ≤ i ∧ ps[i - k]? = some (.new V)
  | [], _, _, h => by simp [newIdx] at h
  | p :: ps, k, i, h => by
    have step : i ∈ newIdx ps (k + 1) → ∃ V, k ≤ i ∧ (p :: ps)[i - k]? = some (.new V) := fun h => by
      obtain ⟨V, h1, h2⟩ := newIdx_mem ps (k + 1) i h
      exact ⟨V, by omega, by rw [show i - k = (i - (k + 1)) + 1 by omega, List.getElem?_cons_succ]; exact h2⟩
    cases p with
    | it c => exact step h
    | of V => exact step h
    | on j V => exact step h
    | new V =>
      simp only [newIdx, List.mem_cons] at h
      rcases h with rfl | h
      · exact ⟨V, Nat.le_refl _, by simp⟩
      · exact step h

/-- What is said of a new block's pointer: it is one of the blocks that there are. -/
def Plan.lt : Plan → Prop
  | .new V => ∀ w v, V w v → ∃ h, v = .pointer (some ⟨h, 0, none⟩) ∧ h < w.heap.size
  | _ => True

/-- What an operation leaves, the values of the others being these. -/
def Plan.inst (vals : Nat → Value) : Plan → Plan
  | .on j V => .of (V (vals j))
  | p => p

/-- Whose value a condition names. -/
def Plan.names : Plan → Option Nat
  | .on j _ => some j
  | _ => none

def Plan.may : Plan → Value → Prop
  | .it c, v => v = c
  | .of _, _ => True
  | .on _ _, _ => True
  | .new _, _ => True

def Plan.dummy : Plan → Value
  | .it c => c
  | .of _ => undef
  | .on _ _ => undef
  | .new _ => undef

theorem Plan.may_dummy (p : Plan) : p.may p.dummy := by cases p <;> simp [Plan.may, Plan.dummy]
theorem Plan.may_of_ok {p : Plan} {vals : Nat → Value} {w : World} {v : Value} (h : (p.inst vals).ok w v) : p.may v := by cases p <;> simp_all [Plan.may, Plan.ok, Plan.inst]

theorem Plan.inst_same {p : Plan} {vals vals' : Nat → Value} (h : ∀ j, p.names = some j → vals j = vals' j) : p.inst vals = p.inst vals' := by
  cases p with
  | it c => rfl
  | of V => rfl
  | on j V => simp only [Plan.inst]; rw [h j rfl]
  | new V => rfl

def upd (env : Nat → Value) (k : Nat) (v : Value) : Nat → Value := fun x => if x = k then v else env x

/-- Does an operation wait for number j? -/
def waits (o : Oper) (j : Nat) : Bool := o.after.toList.any fun e => Region.binds .any e && e.on == j

theorem waits_iff {o : Oper} {j : Nat} : waits o j = true ↔ ∃ e ∈ o.after, Region.binds .any e = true ∧ e.on = j := by
  unfold waits
  rw [List.any_eq_true]
  simp

def okPair (ops : Array Oper) (i j : Nat) (oi oj : Oper) : Bool :=
  match oj.dst with
  | none => true
  | some d => oi.dst != some d && ((if j < i then waits oi j else waits oj i) || !(oi.looksAt ops).contains d)

/-- Is the order of the text one that may be drawn, and does no operation touch what another one looks at, unless one waits for the other? -/
def planOk (l : List Oper) : Bool :=
  Region.noSelect l.toArray && (l.zipIdx).all fun x => x.1.after.all (fun e => !Region.binds .any e || decide (e.on < x.2)) &&
    (l.zipIdx).all fun y => y.2 == x.2 || okPair l.toArray x.2 y.2 x.1 y.1

structure PlanOk (l : List Oper) : Prop where
  sel : ∀ (j : Nat) (o : Oper) cs b, l[j]? = some o → o.op ≠ .select cs b
  back : ∀ (i : Nat) (o : Oper), l[i]? = some o → ∀ e ∈ o.after, Region.binds .any e = true → e.on < i
  pair : ∀ (i j : Nat) (oi oj : Oper), l[i]? = some oi → l[j]? = some oj → i ≠ j → okPair l.toArray i j oi oj = true

theorem planOk_spec {l : List Oper} (h : planOk l = true) : PlanOk l := by
  unfold planOk at h
  rw [Bool.and_eq_true] at h
  obtain ⟨h1, h2⟩ := h
  rw [List.all_eq_true] at h2
  have mem : ∀ (i : Nat) (o : Oper), l[i]? = some o → (o, i) ∈ l.zipIdx := fun i o hi => by
    rw [List.mk_mem_zipIdx_iff_getElem?]; exact hi
  refine ⟨fun j o cs b hj => Region.noSelect_spec h1 j o cs b (by simpa using hj), fun i o hi e he hb => ?_, fun i j oi oj hi hj hne => ?_⟩
  · have := h2 _ (mem i o hi)
    rw [Bool.and_eq_true, Array.all_eq_true_iff_forall_mem] at this
    have := this.1 e he
    simpa [hb] using this
  · have := h2 _ (mem i oi hi)
    rw [Bool.and_eq_true, List.all_eq_true] at this
    have := this.2 _ (mem j oj hj)
    simpa [Ne.symm hne] using this

theorem PlanOk.dst {l : List Oper} (h : PlanOk l) {i j : Nat} {oi oj : Oper} (hi : l[i]? = some oi) (hj : l[j]? = some oj) (hne : i ≠ j) : ∀ d, oj.dst = some d → oi.dst ≠ some d := by
  intro d hd
  have := h.pair i j oi oj hi hj hne
  simp only [okPair, hd, Bool.and_eq_true, bne_iff_ne, ne_eq] at this
  exact this.1

/-! ### States: what has been put -/

def stateOf : List Oper → Nat → (Nat → Bool) → (Nat → Value) → Act → Act
  | [], _, _, _, a => a
  | o :: l, k, D, vals, a => stateOf l (k + 1) D vals (if D k = true then a.put o.dst (vals k) else a)

theorem state_put_out : ∀ (l : List Oper) (k : Nat) (D : Nat → Bool) (vals : Nat → Value) (a : Act) (dst : Option Tmp) (v : Value),
    (∀ (j : Nat) (o : Oper), l[j]? = some o → ∀ d, o.dst = some d → dst ≠ some d) → stateOf l k D vals (a.put dst v) = (stateOf l k D vals a).put dst v
  | [], _, _, _, _, _, _, _ => rfl
  | o :: l, k, D, vals, a, dst, v, h => by
    simp only [stateOf]
    rw [← state_put_out l (k + 1) D vals _ dst v (fun j o hj => h (j + 1) o (by simpa using hj))]
    congr 1
    split
    · exact (Act.put_comm a (vals k) v (h 0 o rfl)).symm
    · rfl

theorem state_ext : ∀ (l : List Oper) (k : Nat) (D D' : Nat → Bool) (vals vals' : Nat → Value) (a : Act),
    (∀ j, j < l.length → D (k + j) = D' (k + j) ∧ (D (k + j) = true → vals (k + j) = vals' (k + j))) → stateOf l k D vals a = stateOf l k D' vals' a
  | [], _, _, _, _, _, _, _ => rfl
  | o :: l, k, D, D', vals, vals', a, h => by
    simp only [stateOf]
    have h0 := h 0 (by simp)
    simp only [Nat.add_zero] at h0
    rw [state_ext l (k + 1) D D' vals vals' _ (fun j hj => by have := h (j + 1) (by simpa using hj); rwa [show k + (j + 1) = k + 1 + j by omega] at this)]
    congr 1
    rw [h0.1]
    by_cases hd : D' k = true
    · rw [if_pos hd, if_pos hd, h0.2 (h0.1 ▸ hd)]
    · rw [if_neg hd, if_neg hd]

theorem state_none : ∀ (l : List Oper) (k : Nat) (D : Nat → Bool) (vals : Nat → Value) (a : Act), (∀ j, j < l.length → D (k + j) = false) → stateOf l k D vals a = a
  | [], _, _, _, _, _ => rfl
  | o :: l, k, D, vals, a, h => by
    simp only [stateOf]
    have h0 := h 0 (by simp)
    simp only [Nat.add_zero] at h0
    rw [h0, state_none l (k + 1) D vals _ (fun j hj => by have := h (j + 1) (by simpa using hj); rwa [show k + (j + 1) = k + 1 + j by omega] at this)]
    simp

theorem state_add : ∀ (l : List Oper) (k j0 : Nat) (oi : Oper) (D : Nat → Bool) (vals : Nat → Value) (a : Act), l[j0]? = some oi → D (k + j0) = false →
    (∀ (j : Nat) (o : Oper), l[j]? = some o → j ≠ j0 → ∀ d, o.dst = some d → oi.dst ≠ some d) →
    stateOf l k (fun x => x == k + j0 || D x) vals a = (stateOf l k D vals a).put oi.dst (vals (k + j0))
  | [], _, _, _, _, _, _, h, _, _ => by simp at h
  | o :: l, k, 0, oi, D, vals, a, h, hd, hne => by
    simp only [List.getElem?_cons_zero, Option.some.injEq] at h
    subst h
    simp only [Nat.add_zero] at hd ⊢
    simp only [stateOf, BEq.rfl, Bool.true_or, if_true, hd, Bool.false_eq_true, if_false]
    rw [state_put_out l (k + 1) _ vals a o.dst (vals k) (fun j o' hj => hne (j + 1) o' (by simpa using hj) (by omega))]
    congr 1
    refine state_ext l (k + 1) _ _ vals vals a fun j _ => ⟨?_, fun _ => rfl⟩
    simp only [Bool.or_eq_right_iff_imp, beq_iff_eq]
    intro he
    omega
  | o :: l, k, j0 + 1, oi, D, vals, a, h, hd, hne => by
    simp only [stateOf]
    have hk : (k == k + (j0 + 1)) = false := by simp
    simp only [hk, Bool.false_or]
    have := state_add l (k + 1) j0 oi D vals (if D k = true then a.put o.dst (vals k) else a) (by simpa using h) (by rw [show k + 1 + j0 = k + (j0 + 1) by omega]; exact hd)
      (fun j o' hj hj0 => hne (j + 1) o' (by simpa using hj) (by omega))
    rw [show k + 1 + j0 = k + (j0 + 1) by omega] at this
    exact this

theorem exec_same {l : List Oper} (hok : PlanOk l) (o : Oper) (hs : ∀ cs b, o.op ≠ .select cs b) (vals : Nat → Value) (a : Act) :
    ∀ (js : List Nat) (D : Nat → Bool), (∀ j ∈ js, D j = false → ∃ oj, l[j]? = some oj ∧ ∀ d, oj.dst = some d → d ∉ o.looksAt l.toArray) →
      execOp (stateOf l 0 (fun x => js.contains x || D x) vals a).eval o = execOp (stateOf l 0 D vals a).eval o ∧
      Region.wanted o (yielded l.toArray (stateOf l 0 (fun x => js.contains x || D x) vals a).tmps) = Region.wanted o (yielded l.toArray (stateOf l 0 D vals a).tmps)
  | [], D, _ => by simp
  | j :: js, D, h => by
    have e : (fun x => (j :: js).contains x || D x) = fun x => js.contains x || (x == j || D x) := by
      funext x
      simp only [List.contains_cons, Bool.or_assoc]
      rw [Bool.or_left_comm]
    rw [e]
    have ih := exec_same hok o hs vals a js (fun x => x == j || D x) (fun j' hj' hd => h j' (List.mem_cons_of_mem _ hj') (by simp at hd; exact hd.2))
    rw [ih.1, ih.2]
    cases hd : D j with
    | true =>
      have e2 : (fun x => x == j || D x) = D := by
        funext x
        by_cases hx : x = j
        · subst hx; simp [hd]
        · simp [hx]
      rw [e2]
      exact ⟨rfl, rfl⟩
    | false =>
      obtain ⟨oj, hoj, hl⟩ := h j List.mem_cons_self hd
      have e2 := state_add l 0 j oj D vals a hoj (by rwa [Nat.zero_add]) (fun j' o' hj' hne => hok.dst hoj hj' (Ne.symm hne))
      simp only [Nat.zero_add] at e2
      rw [e2]
      exact ⟨execOp_put o hs _ oj.dst _ hl, wanted_put o _ oj.dst _ hl⟩

section
variable {P : Program} {ops : Array Oper} {Q : Exit → Act → World → Prop} {R : World → World → Prop} {w0 : World}

def GivesP (P : Program) (R : World → World → Prop) (p : Plan) (w : World) : Result Next → Prop
  | .ok (.value u) w' => R w w' ∧ p.ok w' u ∧ p.fresh w u
  | .ok .skip w' => R w w' ∧ p.ok w' undef ∧ p.fresh w undef
  | .ok (.enter f args) w' => Calls P f args w' (fun e w'' => ∃ u, e = .returned u ∧ R w w'' ∧ p.ok w'' u ∧ p.fresh w u)
  | _ => False

def SpecP (P : Program) (ops : Array Oper) (R : World → World → Prop) (o : Oper) (p : Plan) (a : Act) (w : World) : Prop :=
  (Region.wanted o (yielded ops a.tmps) = true ∧ GivesP P R p w ((execOp a.eval o).run P w)) ∨ (Region.wanted o (yielded ops a.tmps) = false ∧ p.ok w undef ∧ p.fresh w undef)

theorem SpecP.wpOp {i : Nat} {o : Oper} {p : Plan} {a : Act} {w : World} (hi : ops[i]? = some o) (hr : ∀ w, R w w) (h : SpecP P ops R o p a w)
    {K : Act → World → Prop} (hk : ∀ u w', R w w' → p.ok w' u → p.fresh w u → K (a.put o.dst u) w') : wpOp P ops Q i K a w := by
  unfold Go.wpOp
  simp only [hi]
  rcases h with ⟨hw, hv⟩ | ⟨hw, hv⟩
  · simp only [hw, if_true, Oper.wp]
    refine Or.inl ?_
    generalize (execOp a.eval o).run P w = r at hv
    unfold GivesP at hv
    split at hv
    · exact hk _ _ hv.1 hv.2.1 hv.2.2
    · exact hk _ _ hv.1 hv.2.1 hv.2.2
    · exact Calls.mono hv fun e w'' he => by obtain ⟨u, rfl, h1, h2, h3⟩ := he; exact hk _ _ h1 h2 h3
    · exact hv.elim
  · simp only [hw, Bool.false_eq_true, if_false]; exact hk _ _ (hr w) hv.1 hv.2

theorem SpecP.of_same {o : Oper} {p : Plan} {a a' : Act} {w : World} (h : SpecP P ops R o p a w) (he : execOp a'.eval o = execOp a.eval o)
    (hw : Region.wanted o (yielded ops a'.tmps) = Region.wanted o (yielded ops a.tmps)) : SpecP P ops R o p a' w := by
  unfold SpecP at *
  rw [he, hw]
  exact h

/-- Of what was left ahead, what an operation may lean on: what it waits for. -/
def CtxP (o : Oper) : List (Nat × (World → Prop)) → World → Prop
  | [], _ => True
  | q :: r, w => (match waits o q.1 with | true => q.2 w | false => True) ∧ CtxP o r w

def AllP : List (Nat × (World → Prop)) → World → Prop
  | [], _ => True
  | q :: r, w => q.2 w ∧ AllP r w

/-- The walk in the order of the text. -/
def seqP (P : Program) (ops : Array Oper) (Q : Exit → Act → World → Prop) (R : World → World → Prop) (w0 : World) : List Oper → List Plan → Nat → Act → List (Nat × (World → Prop)) → (Nat → Value) → List Nat → Prop
  | [], _, _, a, ctx, env, news => ∀ w, R w0 w → AllP ctx w → (∀ i ∈ news, ∀ j ∈ news, i ≠ j → env i ≠ env j) → Q .normal a w
  | _ :: _, [], _, _, _, _, _ => False
  | o :: l, .it c :: ps, k, a, ctx, env, news => (∀ w, R w0 w → CtxP o ctx w → SpecP P ops R o (.it c) a w) ∧ seqP P ops Q R w0 l ps (k + 1) (a.put o.dst c) ctx (upd env k c) news
  | o :: l, .of V :: ps, k, a, ctx, env, news => ((∀ w w' v, R w w' → V w v → V w' v) ∧ ∀ w, R w0 w → CtxP o ctx w → SpecP P ops R o (.of V) a w) ∧
      ∀ v, seqP P ops Q R w0 l ps (k + 1) (a.put o.dst v) ((k, fun w => V w v) :: ctx) (upd env k v) news
  | o :: l, .on j V :: ps, k, a, ctx, env, news => ((waits o j = true ∧ j < k) ∧ (∀ w w' v, R w w' → V (env j) w v → V (env j) w' v) ∧ ∀ w, R w0 w → CtxP o ctx w → SpecP P ops R o (.of (V (env j))) a w) ∧
      ∀ v, seqP P ops Q R w0 l ps (k + 1) (a.put o.dst v) ((k, fun w => V (env j) w v) :: ctx) (upd env k v) news
  | o :: l, .new V :: ps, k, a, ctx, env, news => (((Plan.new V).lt ∧ ∀ w w' v, R w w' → V w v → V w' v) ∧ ∀ w, R w0 w → CtxP o ctx w → SpecP P ops R o (.new V) a w) ∧
      ∀ v, seqP P ops Q R w0 l ps (k + 1) (a.put o.dst v) ((k, fun w => V w v) :: ctx) (upd env k v) (news ++ [k])

/-- What the walk says of each operation and of the end, the values being these. -/
def OutP (P : Program) (ops : Array Oper) (Q : Exit → Act → World → Prop) (R : World → World → Prop) (w0 : World) (l : List Oper) (ps : List Plan) (k : Nat) (a : Act) (ctx : List (Nat × (World → Prop))) (news : List Nat) (vals : Nat → Value) : Prop :=
  (∀ (i : Nat) (o : Oper), l[i]? = some o → ∃ p, ps[i]? = some p ∧ (p.lt ∧ ∀ j, p.names = some j → waits o j = true ∧ j < k + i) ∧ (∀ w w' v, R w w' → (p.inst vals).ok w v → (p.inst vals).ok w' v) ∧ ∀ w, R w0 w → CtxP o ctx w →
        (∀ (j : Nat) (p' : Plan), j < i → ps[j]? = some p' → waits o (k + j) = true → (p'.inst vals).ok w (vals (k + j))) →
        SpecP P ops R o (p.inst vals) (stateOf l k (fun x => decide (x < k + i)) vals a) w) ∧
      (∀ w, R w0 w → AllP ctx w → (∀ (j : Nat) (p' : Plan), j < l.length → ps[j]? = some p' → (p'.inst vals).ok w (vals (k + j))) →
        (∀ i ∈ news ++ newIdx (ps.take l.length) k, ∀ j ∈ news ++ newIdx (ps.take l.length) k, i ≠ j → vals i ≠ vals j) → Q .normal (stateOf l k (fun _ => true) vals a) w)

theorem upd_env {env vals : Nat → Value} {k : Nat} {v : Value} (he : ∀ j, j < k → env j = vals j) (hv : vals k = v) : ∀ j, j < k + 1 → upd env k v j = vals j := by
  intro j hj
  unfold upd
  split
  · rename_i h; rw [h, hv]
  · exact he j (by omega)

theorem outP_it {o : Oper} {l : List Oper} {c : Value} {ps : List Plan} {k : Nat} {a : Act} {ctx : List (Nat × (World → Prop))} {news : List Nat} {vals : Nat → Value} (e0 : vals k = c)
    (h1 : ∀ w, R w0 w → CtxP o ctx w → SpecP P ops R o (.it c) a w) (ih : OutP P ops Q R w0 l ps (k + 1) (a.put o.dst c) ctx news vals) : OutP P ops Q R w0 (o :: l) (.it c :: ps) k a ctx news vals := by
  refine ⟨fun i oi hi => ?_, fun w h1 h2 h3 h4 => ?_⟩
  · cases i with
    | zero =>
      simp only [List.getElem?_cons_zero, Option.some.injEq] at hi
      subst hi
      refine ⟨.it c, rfl, ⟨trivial, fun j hj => by simp [Plan.names] at hj⟩, fun _ _ _ _ h => h, fun w h2 h3 _ => ?_⟩
      rw [state_none _ _ _ _ _ (fun j _ => by simp)]
      exact h1 w h2 h3
    | succ i =>
      obtain ⟨p, hp, hn, hst, hsp⟩ := ih.1 i oi (by simpa using hi)
      refine ⟨p, by simpa using hp, ⟨hn.1, fun j hj => ⟨(hn.2 j hj).1, by have := (hn.2 j hj).2; omega⟩⟩, hst, fun w h1 h2 h3 => ?_⟩
      have := hsp w h1 h2 (fun j p' hj hp' hw => by
        have := h3 (j + 1) p' (by omega) (by simpa using hp') (by rwa [show k + (j + 1) = k + 1 + j by omega])
        rwa [show k + (j + 1) = k + 1 + j by omega] at this)
      simp only [stateOf]
      rw [if_pos (by simp), e0, show k + (i + 1) = k + 1 + i by omega]
      exact this
  · simp only [stateOf, if_true, e0]
    refine ih.2 w h1 h2 (fun j p' hj hp' => ?_) (by simpa [newIdx] using h4)
    have := h3 (j + 1) p' (by simpa using hj) (by simpa using hp')
    rwa [show k + (j + 1) = k + 1 + j by omega] at this

theorem outP_of {o : Oper} {l : List Oper} {p0 p1 : Plan} {V : World → Value → Prop} {ps : List Plan} {k : Nat} {a : Act} {ctx : List (Nat × (World → Prop))} {news news' : List Nat} {vals : Nat → Value} (hp0 : p0.inst vals = p1) (hok1 : p1.ok = V) (hlt : p0.lt)
    (hnews : ∀ L, news ++ newIdx (p0 :: L) k = news' ++ newIdx L (k + 1))
    (hn0 : ∀ j, p0.names = some j → waits o j = true ∧ j < k) (hst0 : ∀ w w' v, R w w' → V w v → V w' v)
    (h1 : ∀ w, R w0 w → CtxP o ctx w → SpecP P ops R o p1 a w) (ih : OutP P ops Q R w0 l ps (k + 1) (a.put o.dst (vals k)) ((k, fun w => V w (vals k)) :: ctx) news' vals) : OutP P ops Q R w0 (o :: l) (p0 :: ps) k a ctx news vals := by
  refine ⟨fun i oi hi => ?_, fun w h1 h2 h3 h4 => ?_⟩
  · cases i with
    | zero =>
      simp only [List.getElem?_cons_zero, Option.some.injEq] at hi
      subst hi
      refine ⟨p0, rfl, ⟨hlt, hn0⟩, by rw [hp0, hok1]; exact hst0, fun w h2 h3 _ => ?_⟩
      rw [state_none _ _ _ _ _ (fun j _ => by simp), hp0]
      exact h1 w h2 h3
    | succ i =>
      obtain ⟨p, hp, hn, hst, hsp⟩ := ih.1 i oi (by simpa using hi)
      refine ⟨p, by simpa using hp, ⟨hn.1, fun j hj => ⟨(hn.2 j hj).1, by have := (hn.2 j hj).2; omega⟩⟩, hst, fun w h1 h2 h3 => ?_⟩
      have := hsp w h1 ⟨by
          show match waits oi k with | true => V w (vals k) | false => True
          cases hw : waits oi k with
          | true => have := h3 0 p0 (by omega) rfl hw; rw [hp0, hok1] at this; exact this
          | false => trivial, h2⟩ (fun j p' hj hp' hw => by
        have := h3 (j + 1) p' (by omega) (by simpa using hp') (by rwa [show k + (j + 1) = k + 1 + j by omega])
        rwa [show k + (j + 1) = k + 1 + j by omega] at this)
      simp only [stateOf]
      rw [if_pos (by simp), show k + (i + 1) = k + 1 + i by omega]
      exact this
  · simp only [stateOf, if_true]
    refine ih.2 w h1 ⟨by have := h3 0 p0 (by simp) rfl; rw [hp0, hok1] at this; exact this, h2⟩ (fun j p' hj hp' => ?_) (by rw [List.length_cons, List.take_succ_cons, hnews] at h4; exact h4)
    have := h3 (j + 1) p' (by simpa using hj) (by simpa using hp')
    rwa [show k + (j + 1) = k + 1 + j by omega] at this

theorem seqP_out : ∀ (l : List Oper) (ps : List Plan) (k : Nat) (a : Act) (ctx : List (Nat × (World → Prop))) (env : Nat → Value) (news : List Nat), seqP P ops Q R w0 l ps k a ctx env news →
    ∀ vals : Nat → Value, (∀ (j : Nat) (p : Plan), ps[j]? = some p → p.may (vals (k + j))) → (∀ j, j < k → env j = vals j) → (∀ i ∈ news, i < k) → OutP P ops Q R w0 l ps k a ctx news vals
  | [], _, _, _, _, _, news, h, vals, _, he, hn => ⟨fun i o hi => by simp at hi, fun w h1 h2 _ h4 => h w h1 h2 fun i hi j hj hne => by
      rw [he i (hn i hi), he j (hn j hj)]
      exact h4 i (by simp [hi]) j (by simp [hj]) hne⟩
  | _ :: _, [], _, _, _, _, _, h, _, _, _, _ => h.elim
  | o :: l, .it c :: ps, k, a, ctx, env, news, h, vals, hv, he, hn => by
    have e0 : vals k = c := hv 0 _ rfl
    exact outP_it e0 h.1 (seqP_out l ps (k + 1) (a.put o.dst c) ctx _ news h.2 vals (fun j p hp => by have := hv (j + 1) p (by simpa using hp); rwa [show k + (j + 1) = k + 1 + j by omega] at this) (upd_env he e0) (fun i hi => by have := hn i hi; omega))
  | o :: l, .of V :: ps, k, a, ctx, env, news, h, vals, hv, he, hn => by
    refine outP_of (V := V) (p1 := .of V) (news' := news) rfl rfl trivial (fun _ => rfl) (fun j hj => by simp [Plan.names] at hj) h.1.1 h.1.2 ?_
    exact seqP_out l ps (k + 1) (a.put o.dst (vals k)) ((k, fun w => V w (vals k)) :: ctx) _ news (h.2 (vals k)) vals (fun j p hp => by have := hv (j + 1) p (by simpa using hp); rwa [show k + (j + 1) = k + 1 + j by omega] at this) (upd_env he rfl) (fun i hi => by have := hn i hi; omega)
  | o :: l, .on j V :: ps, k, a, ctx, env, news, h, vals, hv, he, hn => by
    have ej : env j = vals j := he j h.1.1.2
    refine outP_of (V := V (env j)) (p1 := .of (V (env j))) (news' := news) (by simp only [Plan.inst]; rw [ej]) rfl trivial (fun _ => rfl) (fun i hi => by simp only [Plan.names, Option.some.injEq] at hi; subst hi; exact h.1.1) h.1.2.1 h.1.2.2 ?_
    exact seqP_out l ps (k + 1) (a.put o.dst (vals k)) ((k, fun w => V (env j) w (vals k)) :: ctx) _ news (h.2 (vals k)) vals (fun j p hp => by have := hv (j + 1) p (by simpa using hp); rwa [show k + (j + 1) = k + 1 + j by omega] at this) (upd_env he rfl) (fun i hi => by have := hn i hi; omega)
  | o :: l, .new V :: ps, k, a, ctx, env, news, h, vals, hv, he, hn => by
    refine outP_of (V := V) (p1 := .new V) (news' := news ++ [k]) rfl rfl h.1.1.1 (fun L => by simp [newIdx]) (fun j hj => by simp [Plan.names] at hj) h.1.1.2 h.1.2 ?_
    exact seqP_out l ps (k + 1) (a.put o.dst (vals k)) ((k, fun w => V w (vals k)) :: ctx) _ (news ++ [k]) (h.2 (vals k)) vals (fun j p hp => by have := hv (j + 1) p (by simpa using hp); rwa [show k + (j + 1) = k + 1 + j by omega] at this) (upd_env he rfl) (fun i hi => by
      simp only [List.mem_append, List.mem_singleton] at hi
      rcases hi with hi | rfl
      · have := hn i hi; omega
      · omega)

theorem newIdx_lt {ps : List Plan} {m i : Nat} (h : i ∈ newIdx (ps.take m) 0) : i < m := by
  obtain ⟨V, _, h2⟩ := newIdx_mem _ _ _ h
  rw [List.getElem?_take] at h2
  split at h2
  · omega
  · cases h2

theorem newIdx_get {ps : List Plan} {m i : Nat} (h : i ∈ newIdx (ps.take m) 0) : ∃ V, ps[i]? = some (.new V) := by
  obtain ⟨V, _, h2⟩ := newIdx_mem _ _ _ h
  rw [List.getElem?_take] at h2
  split at h2
  · exact ⟨V, h2⟩
  · cases h2

theorem run_any {l : List Oper} {ps : List Plan} {a : Act} (hok : PlanOk l) (hrefl : ∀ w, R w w) (htr : ∀ w1 w2 w3, R w1 w2 → R w2 w3 → R w1 w3)
    (h : seqP P l.toArray Q R w0 l ps 0 a [] (fun _ => undef) []) : ∀ (fuel : Nat) (listed : Array Bool) (vals : Nat → Value) (w : World), listed.size = l.length →
      (∀ (j : Nat) (o : Oper), l[j]? = some o → listed.getD j false = true → ∀ e ∈ o.after, Region.binds .any e = true → listed.getD e.on false = true) →
      (∀ (j : Nat) (p : Plan), ps[j]? = some p → p.may (vals j) ∧ (listed.getD j false = true → (p.inst vals).ok w (vals j))) → R w0 w → (∀ i ∈ newIdx (ps.take l.length) 0, ∀ j ∈ newIdx (ps.take l.length) 0, i ≠ j → listed.getD i false = true → listed.getD j false = true → vals i ≠ vals j) →
      listed.toList.count false ≤ fuel → wpAny P .any l.toArray Q fuel listed (stateOf l 0 (fun x => listed.getD x false) vals a) w := by
  have fin : ∀ (listed : Array Bool) (vals : Nat → Value) (w : World), listed.size = l.length →
      (∀ (j : Nat) (p : Plan), ps[j]? = some p → p.may (vals j) ∧ (listed.getD j false = true → (p.inst vals).ok w (vals j))) → R w0 w → (∀ i ∈ newIdx (ps.take l.length) 0, ∀ j ∈ newIdx (ps.take l.length) 0, i ≠ j → listed.getD i false = true → listed.getD j false = true → vals i ≠ vals j) →
      (∀ j, j < l.length → listed.getD j false = true) → Q .normal (stateOf l 0 (fun x => listed.getD x false) vals a) w := by
    intro listed vals w _ hv hR hD hall
    rw [state_ext l 0 _ (fun _ => true) vals vals a (fun j hj => ⟨by simpa using hall j hj, fun _ => rfl⟩)]
    refine (seqP_out l ps 0 a [] _ [] h vals (fun j p hp => by rw [Nat.zero_add]; exact (hv j p hp).1) (fun j hj => absurd hj (Nat.not_lt_zero _)) (fun i hi => by simp at hi)).2 w hR trivial (fun j p hj hp => ?_) (fun i hi j hj hne => ?_)
    · rw [Nat.zero_add]
      exact (hv j p hp).2 (hall j hj)
    · rw [List.nil_append] at hi hj
      exact hD i hi j hj hne (hall i (newIdx_lt hi)) (hall j (newIdx_lt hj))
  intro fuel
  induction fuel with
  | zero =>
    intro listed vals w hsz hcl hv hR hD hc
    have hc0 : listed.toList.count false = 0 := by omega
    have hall : ∀ j, j < l.length → listed.getD j false = true := by
      intro j hj
      have hmem : listed[j]'(by omega) ∈ listed.toList := by simp
      rw [List.count_eq_zero] at hc0
      cases hb : listed[j]'(by omega) with
      | true => simp [Array.getD, hsz, hj, hb]
      | false => rw [hb] at hmem; exact absurd hmem hc0
    refine ⟨?_, fin listed vals w hsz hv hR hD hall⟩
    rw [List.eq_nil_iff_forall_not_mem]
    intro i hi
    obtain ⟨h0, o, ho, _⟩ := mem_ready.1 hi
    have hlt : i < l.length := by have := (Array.getElem?_eq_some_iff.1 ho).1; simpa using this
    have h1 := hall i hlt
    simp [Array.getD, hsz, hlt] at h0 h1
    rw [h0] at h1
    cases h1
  | succ fuel ih =>
    intro listed vals w hsz hcl hv hR hD hc
    refine ⟨fun hnil => fin listed vals w hsz hv hR hD ?_, fun i hi => ?_⟩
    · intro j hj
      induction j using Nat.strongRecOn with
      | _ j ihj =>
        cases hb : listed.getD j false with
        | true => rfl
        | false =>
          have hmem : j ∈ Region.ready .any l.toArray listed := mem_ready.2 ⟨by simp [Array.getD, hsz, hj] at hb ⊢; exact hb, l[j], by simp [hj], fun e he hbd => by
            have hlt := hok.back j l[j] (by simp [hj]) e he hbd
            exact ihj e.on hlt (by omega)⟩
          rw [hnil] at hmem
          cases hmem
    · obtain ⟨h0, o, ho, hafter⟩ := mem_ready.1 hi
      have ho' : l[i]? = some o := by simpa using ho
      have hlt : i < l.length := (List.getElem?_eq_some_iff.1 ho').1
      have hi0 : listed.getD i false = false := by simp [Array.getD, hsz, hlt] at h0 ⊢; exact h0
      obtain ⟨p, hp, ⟨_, hnm⟩, hst, hsp⟩ := (seqP_out l ps 0 a [] _ [] h vals (fun j p hp => by rw [Nat.zero_add]; exact (hv j p hp).1) (fun j hj => absurd hj (Nat.not_lt_zero _)) (fun i hi => by simp at hi)).1 i o ho'
      have hs := hok.sel i o
      have spec : SpecP P l.toArray R o (p.inst vals) (stateOf l 0 (fun x => listed.getD x false) vals a) w := by
        have ht := hsp w hR trivial fun j p' hj hp' hw => by
          rw [Nat.zero_add] at hw ⊢
          obtain ⟨e, he, hb, rfl⟩ := waits_iff.1 hw
          exact (hv _ p' hp').2 (hafter e he hb)
        rw [Nat.zero_add] at ht
        have A := exec_same hok o (fun cs b => hs cs b ho') vals a (List.range i) (fun x => listed.getD x false) (fun j hj hd => by
          have hji : j < i := List.mem_range.1 hj
          refine ⟨l[j], by simp [show j < l.length by omega], fun d hd' => ?_⟩
          have := hok.pair i j o l[j] ho' (by simp [show j < l.length by omega]) (by omega)
          simp only [okPair, hd', if_pos hji, Bool.and_eq_true, Bool.or_eq_true] at this
          rcases this.2 with hw | hn
          · obtain ⟨e, he, hb, rfl⟩ := waits_iff.1 hw
            rw [hafter e he hb] at hd
            cases hd
          · simpa using hn)
        have B := exec_same hok o (fun cs b => hs cs b ho') vals a ((List.range l.length).filter fun x => listed.getD x false) (fun x => decide (x < i)) (fun j hj hd => by
          simp only [List.mem_filter, List.mem_range] at hj
          simp only [decide_eq_false_iff_not] at hd
          have hne : i ≠ j := fun e => by subst e; rw [hi0] at hj; cases hj.2
          refine ⟨l[j]'hj.1, by simp [hj.1], fun d hd' => ?_⟩
          have := hok.pair i j o (l[j]'hj.1) ho' (by simp [hj.1]) hne
          simp only [okPair, hd', if_neg hd, Bool.and_eq_true, Bool.or_eq_true] at this
          rcases this.2 with hw | hn
          · obtain ⟨e, he, hb, rfl⟩ := waits_iff.1 hw
            have := hcl j (l[j]'hj.1) (by simp [hj.1]) hj.2 e he hb
            rw [hi0] at this
            cases this
          · simpa using hn)
        have C : stateOf l 0 (fun x => (List.range i).contains x || listed.getD x false) vals a = stateOf l 0 (fun x => ((List.range l.length).filter fun x => listed.getD x false).contains x || decide (x < i)) vals a := by
          refine state_ext l 0 _ _ vals vals a fun j hj => ⟨?_, fun _ => rfl⟩
          rw [Nat.zero_add, Bool.eq_iff_iff]
          simp only [Bool.or_eq_true, List.contains_iff_mem, List.mem_range, List.mem_filter, decide_eq_true_eq, hj, true_and]
          exact Or.comm
        refine ht.of_same ?_ ?_
        · rw [← A.1, C, B.1]
        · rw [← A.2, C, B.2]
      refine spec.wpOp ho hrefl fun u w' hR' hu hfr => ?_
      let vals' : Nat → Value := fun x => if x = i then u else vals x
      have hget : ∀ j, (listed.setIfInBounds i true).getD j false = (j == i || listed.getD j false) := by
        intro j
        by_cases hji : j = i
        · subst hji; simp [Array.getD, hsz, hlt]
        · rw [getD_set_ne false (Ne.symm hji)]; simp [hji]
      have est : (stateOf l 0 (fun x => listed.getD x false) vals a).put o.dst u = stateOf l 0 (fun x => (listed.setIfInBounds i true).getD x false) vals' a := by
        have e1 := state_add l 0 i o (fun x => listed.getD x false) vals' a ho' (by rw [Nat.zero_add]; exact hi0) (fun j o' hj hne => hok.dst ho' hj (Ne.symm hne))
        rw [Nat.zero_add] at e1
        have e3 : stateOf l 0 (fun x => listed.getD x false) vals a = stateOf l 0 (fun x => listed.getD x false) vals' a := state_ext l 0 _ _ vals vals' a (fun j _ => ⟨rfl, fun hd => by
          rw [Nat.zero_add] at hd ⊢
          have hne : j ≠ i := fun e => by subst e; rw [hi0] at hd; cases hd
          simp [vals', hne]⟩)
        rw [e3]
        have e2 : vals' i = u := by simp [vals']
        rw [e2] at e1
        rw [← e1]
        congr 1
        funext x
        exact (hget x).symm
      rw [est]
      refine ih _ vals' w' (by simpa using hsz) ?_ ?_ (htr _ _ _ hR hR') ?_ ?_
      · intro j oj hj hd e he hb
        rw [hget] at hd ⊢
        by_cases hji : j = i
        · subst hji
          rw [ho'] at hj
          cases hj
          rw [hafter e he hb]
          simp
        · rw [hcl j oj hj (by simpa [hji] using hd) e he hb]
          simp
      · intro j p' hp'
        by_cases hji : j = i
        · subst hji
          rw [hp] at hp'
          cases hp'
          have hsame : p.inst vals' = p.inst vals := Plan.inst_same fun j'' hj'' => by
            have := (hnm j'' hj'').2
            simp [vals', show j'' ≠ j by omega]
          have hvj : vals' j = u := by simp [vals']
          rw [hvj, hsame]
          exact ⟨Plan.may_of_ok hu, fun _ => hu⟩
        · rw [show vals' j = vals j by simp [vals', hji]]
          refine ⟨(hv j p' hp').1, fun hd => ?_⟩
          rw [hget] at hd
          have hd' : listed.getD j false = true := by simpa [hji] using hd
          have hjl : j < l.length := by
            rcases Nat.lt_or_ge j l.length with h' | h'
            · exact h'
            · simp [Array.getD, hsz, Nat.not_lt.2 h'] at hd'
          obtain ⟨q, hq, ⟨_, hnq⟩, hstq, _⟩ := (seqP_out l ps 0 a [] _ [] h vals (fun j p hp => by rw [Nat.zero_add]; exact (hv j p hp).1) (fun j hj => absurd hj (Nat.not_lt_zero _)) (fun i hi => by simp at hi)).1 j l[j] (by simp [hjl])
          rw [hp'] at hq
          cases hq
          have hsame : p'.inst vals' = p'.inst vals := Plan.inst_same fun j'' hj'' => by
            have hw := (hnq j'' hj'').1
            obtain ⟨e, he, hb, rfl⟩ := waits_iff.1 hw
            have hd'' := hcl j l[j] (by simp [hjl]) hd' e he hb
            have hne : e.on ≠ i := fun h => by rw [h, hi0] at hd''; cases hd''
            simp [vals', hne]
          rw [hsame]
          exact hstq _ _ _ hR' ((hv j p' hp').2 hd')
      · have old : ∀ j ∈ newIdx (ps.take l.length) 0, j ≠ i → (listed.setIfInBounds i true).getD j false = true → ∃ g, vals' j = .pointer (some ⟨g, 0, none⟩) ∧ g < w.heap.size := by
          intro j hj hji hd
          rw [hget] at hd
          have hd' : listed.getD j false = true := by simpa [hji] using hd
          have hjl := newIdx_lt hj
          obtain ⟨V, hV⟩ := newIdx_get hj
          obtain ⟨q, hq, ⟨hlt', _⟩, _, _⟩ := (seqP_out l ps 0 a [] _ [] h vals (fun j p hp => by rw [Nat.zero_add]; exact (hv j p hp).1) (fun j hj => absurd hj (Nat.not_lt_zero _)) (fun i hi => by simp at hi)).1 j l[j] (by simp [hjl])
          rw [hV] at hq
          cases hq
          rw [show vals' j = vals j by simp [vals', hji]]
          exact hlt' w _ ((hv j _ hV).2 hd')
        have mine : i ∈ newIdx (ps.take l.length) 0 → vals' i = .pointer (some ⟨w.heap.size, 0, none⟩) := by
          intro hi'
          obtain ⟨V, hV⟩ := newIdx_get hi'
          rw [hV] at hp
          cases hp
          rw [show vals' i = u by simp [vals']]
          exact hfr
        intro i1 h1 j1 h2 hne hl1 hl2 heq
        by_cases e1 : i1 = i
        · rw [e1] at h1 hne heq
          obtain ⟨g, hg, hlt'⟩ := old j1 h2 (Ne.symm hne) hl2
          rw [mine h1, hg] at heq
          injection heq with heq
          injection heq with heq
          injection heq with heq
          omega
        · by_cases e2 : j1 = i
          · rw [e2] at h2 hne heq
            obtain ⟨g, hg, hlt'⟩ := old i1 h1 hne hl1
            rw [mine h2, hg] at heq
            injection heq with heq
            injection heq with heq
            injection heq with heq
            omega
          · rw [hget] at hl1 hl2
            rw [show vals' i1 = vals i1 by simp [vals', e1], show vals' j1 = vals j1 by simp [vals', e2]] at heq
            exact hD i1 h1 j1 h2 hne (by simpa [e1] using hl1) (by simpa [e2] using hl2) heq
      · have hcount : (listed.setIfInBounds i true).toList.count false + 1 = listed.toList.count false := by
          have hi1 : listed.toList[i]'(by simpa [hsz] using hlt) = false := by
            simp [Array.getD, hsz, hlt] at hi0
            simpa using hi0
          rw [Array.toList_setIfInBounds, List.count_set (h := by simpa [hsz] using hlt), hi1]
          have hpos : 0 < listed.toList.count false := List.count_pos_iff.2 (hi1 ▸ List.getElem_mem _)
          simp only [BEq.rfl, if_true, show (true == false) = false from rfl, Bool.false_eq_true, if_false]
          omega
        omega

/-- THE LAW: a region that draws its order, walked in the order of the text. -/
theorem wp_region_plan (R : World → World → Prop) (ps : List Plan) {id : Nat} {l : List Oper} {a : Act} {w : World} (hm : P.follows .mixedOrders = true) (hok : planOk l = true)
    (hrefl : ∀ w, R w w) (htr : ∀ w1 w2 w3, R w1 w2 → R w2 w3 → R w1 w3)
    (h : seqP P l.toArray Q R { w with drawn := w.drawn + 1 } l ps 0 a [] (fun _ => undef) []) : (Code.region id l.toArray true).wp P Q a w := by
  refine wp_region_any hm ?_
  have := run_any (planOk_spec hok) hrefl htr h l.length (Array.replicate l.length false) (fun j => (ps[j]?.map Plan.dummy).getD undef) { w with drawn := w.drawn + 1 } (by simp)
    (fun j o hj hd => by simp [Array.getD] at hd) (fun j p hp => ⟨by simp [hp, Plan.may_dummy], fun hd => by simp [Array.getD] at hd⟩) (hrefl _) (fun i _ j _ _ hd => by simp [Array.getD] at hd) (by simp)
  rw [state_none l 0 _ _ a (fun j _ => by simp [Array.getD])] at this
  simpa using this

/-! ### The steps -/

theorem seqP_value {o : Oper} {l : List Oper} {ps : List Plan} {k : Nat} {a : Act} {ctx : List (Nat × (World → Prop))} {env : Nat → Value} {news : List Nat} (hrefl : ∀ w, R w w) (c : Value)
    (hw : Region.wanted o (yielded ops a.tmps) = true) (hv : ∀ w, R w0 w → CtxP o ctx w → (execOp a.eval o).run P w = .ok (.value c) w)
    (hr : seqP P ops Q R w0 l ps (k + 1) (a.put o.dst c) ctx (upd env k c) news) : seqP P ops Q R w0 (o :: l) (.it c :: ps) k a ctx env news :=
  ⟨fun w h1 h2 => Or.inl ⟨hw, by rw [hv w h1 h2]; exact ⟨hrefl w, rfl, trivial⟩⟩, hr⟩

theorem seqP_skip {o : Oper} {l : List Oper} {ps : List Plan} {k : Nat} {a : Act} {ctx : List (Nat × (World → Prop))} {env : Nat → Value} {news : List Nat}
    (hw : Region.wanted o (yielded ops a.tmps) = false) (hr : seqP P ops Q R w0 l ps (k + 1) (a.put o.dst undef) ctx (upd env k undef) news) : seqP P ops Q R w0 (o :: l) (.it undef :: ps) k a ctx env news :=
  ⟨fun _ _ _ => Or.inr ⟨hw, rfl, trivial⟩, hr⟩

theorem seqP_call {o : Oper} {l : List Oper} {ps : List Plan} {k : Nat} {a : Act} {ctx : List (Nat × (World → Prop))} {env : Nat → Value} {news : List Nat} (f : FuncId) (args : Array Value) (c : Value)
    (hw : Region.wanted o (yielded ops a.tmps) = true) (hv : ∀ w, R w0 w → CtxP o ctx w → (execOp a.eval o).run P w = .ok (.enter f args) w)
    (hc : ∀ w, R w0 w → CtxP o ctx w → Calls P f args w fun e w' => e = .returned c ∧ R w w')
    (hr : seqP P ops Q R w0 l ps (k + 1) (a.put o.dst c) ctx (upd env k c) news) : seqP P ops Q R w0 (o :: l) (.it c :: ps) k a ctx env news :=
  ⟨fun w h1 h2 => Or.inl ⟨hw, by rw [hv w h1 h2]; exact (hc w h1 h2).mono fun e w' he => ⟨c, he.1, he.2, rfl, trivial⟩⟩, hr⟩

theorem seqP_make {o : Oper} {l : List Oper} {ps : List Plan} {k : Nat} {a : Act} {ctx : List (Nat × (World → Prop))} {env : Nat → Value} {news : List Nat} (V : World → Value → Prop) (hst : ∀ w w' v, R w w' → V w v → V w' v)
    (hw : Region.wanted o (yielded ops a.tmps) = true) (hv : ∀ w, R w0 w → CtxP o ctx w → ∃ v w', (execOp a.eval o).run P w = .ok (.value v) w' ∧ R w w' ∧ V w' v)
    (hr : ∀ v, seqP P ops Q R w0 l ps (k + 1) (a.put o.dst v) ((k, fun w => V w v) :: ctx) (upd env k v) news) : seqP P ops Q R w0 (o :: l) (.of V :: ps) k a ctx env news :=
  ⟨⟨hst, fun w h1 h2 => Or.inl ⟨hw, by obtain ⟨v, w', e, h3, h4⟩ := hv w h1 h2; rw [e]; exact ⟨h3, h4, trivial⟩⟩⟩, hr⟩

theorem seqP_new {o : Oper} {l : List Oper} {ps : List Plan} {k : Nat} {a : Act} {ctx : List (Nat × (World → Prop))} {env : Nat → Value} {news : List Nat} (V : World → Value → Prop) (hlt : (Plan.new V).lt) (hst : ∀ w w' v, R w w' → V w v → V w' v)
    (hw : Region.wanted o (yielded ops a.tmps) = true) (hv : ∀ w, R w0 w → CtxP o ctx w → ∃ w', (execOp a.eval o).run P w = .ok (.value (.pointer (some ⟨w.heap.size, 0, none⟩))) w' ∧ R w w' ∧ V w' (.pointer (some ⟨w.heap.size, 0, none⟩)))
    (hr : ∀ v, seqP P ops Q R w0 l ps (k + 1) (a.put o.dst v) ((k, fun w => V w v) :: ctx) (upd env k v) (news ++ [k])) : seqP P ops Q R w0 (o :: l) (.new V :: ps) k a ctx env news :=
  ⟨⟨⟨hlt, hst⟩, fun w h1 h2 => Or.inl ⟨hw, by obtain ⟨w', e, h3, h4⟩ := hv w h1 h2; rw [e]; exact ⟨h3, h4, rfl⟩⟩⟩, hr⟩

/-- A store, or whatever writes and leaves no value: of the world behind it a condition speaks, which may name the value of number j. -/
theorem seqP_write {o : Oper} {l : List Oper} {ps : List Plan} {k : Nat} {a : Act} {ctx : List (Nat × (World → Prop))} {env : Nat → Value} {news : List Nat} (j : Nat) (V : Value → World → Value → Prop) (hj : waits o j = true ∧ j < k) (hst : ∀ w w' v, R w w' → V (env j) w v → V (env j) w' v)
    (hw : Region.wanted o (yielded ops a.tmps) = true) (hv : ∀ w, R w0 w → CtxP o ctx w → ∃ w', (execOp a.eval o).run P w = .ok .skip w' ∧ R w w' ∧ V (env j) w' undef)
    (hr : ∀ v, seqP P ops Q R w0 l ps (k + 1) (a.put o.dst v) ((k, fun w => V (env j) w v) :: ctx) (upd env k v) news) : seqP P ops Q R w0 (o :: l) (.on j V :: ps) k a ctx env news :=
  ⟨⟨hj, hst, fun w h1 h2 => Or.inl ⟨hw, by obtain ⟨w', e, h3, h4⟩ := hv w h1 h2; rw [e]; exact ⟨h3, h4, trivial⟩⟩⟩, hr⟩

theorem seqP_writeOf {o : Oper} {l : List Oper} {ps : List Plan} {k : Nat} {a : Act} {ctx : List (Nat × (World → Prop))} {env : Nat → Value} {news : List Nat} (V : World → Value → Prop) (hst : ∀ w w' v, R w w' → V w v → V w' v)
    (hw : Region.wanted o (yielded ops a.tmps) = true) (hv : ∀ w, R w0 w → CtxP o ctx w → ∃ w', (execOp a.eval o).run P w = .ok .skip w' ∧ R w w' ∧ V w' undef)
    (hr : ∀ v, seqP P ops Q R w0 l ps (k + 1) (a.put o.dst v) ((k, fun w => V w v) :: ctx) (upd env k v) news) : seqP P ops Q R w0 (o :: l) (.of V :: ps) k a ctx env news :=
  ⟨⟨hst, fun w h1 h2 => Or.inl ⟨hw, by obtain ⟨w', e, h3, h4⟩ := hv w h1 h2; rw [e]; exact ⟨h3, h4, trivial⟩⟩⟩, hr⟩

theorem seqP_nil {k : Nat} {ps : List Plan} {a : Act} {ctx : List (Nat × (World → Prop))} {env : Nat → Value} {news : List Nat} (h : ∀ w, R w0 w → AllP ctx w → (∀ i ∈ news, ∀ j ∈ news, i ≠ j → env i ≠ env j) → Q .normal a w) : seqP P ops Q R w0 [] ps k a ctx env news := h

end
end Go.Proofs.Ytjjhmfpdbjflmaa.RX
