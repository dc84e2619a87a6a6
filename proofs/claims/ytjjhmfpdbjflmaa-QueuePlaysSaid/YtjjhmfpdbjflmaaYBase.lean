/-
  Rows of records in memory, of the call's own; what stays when only some blocks may have changed (stage 9).
-/
import Derived.Test.YtjjhmfpdbjflmaaKBase
import Derived.WalkKit
import Derived.WalkSpells
import Derived.WalkLawsBesides
import Derived.WalkSmall
import Derived.Lib.Hide
import Derived.Lib.SmallJoins
import Derived.Maps.AppendAt
import Derived.Laws.OwnMore
import Derived.Deep.LoopGhost
import Derived.Deep.RegionHeld3
import Derived.Deep.DrawnRows
import Derived.OrdersHeld
import Derived.BigQuiet
import Derived.Deep.QuietTactic
import Derived.StillTailTactics
import Derived.RangeFuncSeq
import Derived.OwnWalkIn
namespace Go.Proofs.Ytjjhmfpdbjflmaa
open Go.RowKit
/-! ### What stays -/

/-- Blocks of which G holds are as they were, and none is gone. -/
structure Stay (G : Nat → Prop) (W W' : World) : Prop where
  size : W.heap.size ≤ W'.heap.size
  block : ∀ k, k < W.heap.size → G k → W'.heap[k]? = W.heap[k]?

theorem Stay.refl (G : Nat → Prop) (W : World) : Stay G W W := ⟨Nat.le_refl _, fun _ _ _ => rfl⟩
theorem Stay.trans {G : Nat → Prop} {W W1 W2 : World} (h : Stay G W W1) (h2 : Stay G W1 W2) : Stay G W W2 :=
  ⟨Nat.le_trans h.size h2.size, fun k hk hG => (h2.block k (Nat.lt_of_lt_of_le hk h.size) hG).trans (h.block k hk hG)⟩
theorem Stay.mono {G G' : Nat → Prop} {W W' : World} (h : Stay G W W') (hG : ∀ k, G' k → G k) : Stay G' W W' := ⟨h.size, fun k hk g => h.block k hk (hG k g)⟩
theorem Stay.of_below {G : Nat → Prop} {W W' : World} (h : Below W.heap.size W W') : Stay G W W' := ⟨h.size, fun k hk _ => h.block k hk⟩
theorem Stay.cell {G : Nat → Prop} {W W' : World} {b o : Nat} (h : Stay G W W') (hb : b < W.heap.size) (hG : G b) : W'.cell? ⟨b, o, none⟩ = W.cell? ⟨b, o, none⟩ := World.cell?_of_block (h.block b hb hG)
theorem Stay.frozen {G : Nat → Prop} {W W' : World} {b o : Nat} (h : Stay G W W') (hb : b < W.heap.size) (hG : G b) : W'.frozen? ⟨b, o, none⟩ = W.frozen? ⟨b, o, none⟩ := by
  unfold World.frozen?
  rw [h.block b hb hG]

/-- Only blocks of which F holds, and new ones, may have changed. -/
structure Touch (F : Nat → Prop) (W W' : World) : Prop where
  os : W'.os = W.os
  tape : W'.tape = W.tape
  output : W'.output = W.output
  size : W.heap.size ≤ W'.heap.size
  block : ∀ k, k < W.heap.size → ¬ F k → W'.heap[k]? = W.heap[k]?

theorem Touch.refl (F : Nat → Prop) (W : World) : Touch F W W := ⟨rfl, rfl, rfl, Nat.le_refl _, fun _ _ _ => rfl⟩
theorem Touch.of_below {F : Nat → Prop} {W W' : World} (h : Below W.heap.size W W') : Touch F W W' := ⟨h.os, h.tape, h.output, h.size, fun k hk _ => h.block k hk⟩
theorem Touch.trans {F F' : Nat → Prop} {W W1 W2 : World} (h : Touch F W W1) (h2 : Touch F' W1 W2) (hF : ∀ k, k < W.heap.size → F' k → F k) : Touch F W W2 :=
  ⟨h2.os.trans h.os, h2.tape.trans h.tape, h2.output.trans h.output, Nat.le_trans h.size h2.size, fun k hk hn => (h2.block k (Nat.lt_of_lt_of_le hk h.size) (fun h' => hn (hF k hk h'))).trans (h.block k hk hn)⟩
theorem Touch.below {F : Nat → Prop} {B : Nat} {W W' : World} (h : Touch F W W') (hF : ∀ k, F k → B ≤ k) (hB : B ≤ W.heap.size) : Below B W W' :=
  ⟨h.os, h.tape, h.output, h.size, fun k hk => h.block k (by omega) (fun hf => by have := hF k hf; omega)⟩
theorem Touch.stay {F G : Nat → Prop} {W W' : World} (h : Touch F W W') (hG : ∀ k, G k → ¬ F k) : Stay G W W' := ⟨h.size, fun k hk g => h.block k hk (hG k g)⟩
theorem Touch.mono {F F' : Nat → Prop} {W W' : World} (h : Touch F W W') (hF : ∀ k, F k → F' k) : Touch F' W W' := ⟨h.os, h.tape, h.output, h.size, fun k hk hn => h.block k hk (fun hf => hn (hF k hf))⟩
theorem Touch.setCell (W : World) {F : Nat → Prop} {g : Nat} (hg : F g) (o : Nat) (v : Value) : Touch F W (W.setCell ⟨g, o, none⟩ v) :=
  ⟨rfl, rfl, rfl, by simp [World.setCell], fun k _ hk => heap_setCell_other W ⟨g, o, none⟩ k v (fun e => hk (by rw [e]; exact hg))⟩
theorem Touch.grown {F : Nat → Prop} {W W' : World} {row : Option Nat} (hg : W.grownBy W' row) (hF : ∀ k, row = some k → F k) : Touch F W W' :=
  ⟨hg.os, hg.tape, hg.output, hg.size, fun k hk hn => hg.block k hk (fun e => hn (hF k e.symm))⟩

/-! ### A block of which we know all cells, and that may be written -/

/-- Block g holds just these cells. -/
def Lit (W : World) (g : Nat) (e : TypeId) (cs : List Value) : Prop := W.heap[g]? = some (.cells cs.toArray e (0, 0))

theorem Lit.lt {W : World} {g : Nat} {e : TypeId} {cs : List Value} (h : Lit W g e cs) : g < W.heap.size := some_lt h
theorem Lit.new (W : World) (e : TypeId) (cs : List Value) : Lit (W.alloc (.cells cs.toArray e)) W.heap.size e cs := heap_alloc_new W _
theorem Lit.stay {G : Nat → Prop} {W W' : World} {g : Nat} {e : TypeId} {cs : List Value} (h : Lit W g e cs) (hs : Stay G W W') (hG : G g) : Lit W' g e cs := (hs.block g h.lt hG).trans h
theorem Lit.below {W W' : World} {g : Nat} {e : TypeId} {cs : List Value} (h : Lit W g e cs) (hb : Below W.heap.size W W') : Lit W' g e cs := (hb.block g h.lt).trans h
theorem Lit.cell {W : World} {g : Nat} {e : TypeId} {cs : List Value} (h : Lit W g e cs) {o : Nat} {v : Value} (hv : cs[o]? = some v) : W.cell? ⟨g, o, none⟩ = some v := by
  rw [cell_of_row W g o cs.toArray e (0, 0) h]
  simpa using hv
theorem Lit.fz {W : World} {g : Nat} {e : TypeId} {cs : List Value} (h : Lit W g e cs) (o : Nat) : W.frozen? ⟨g, o, none⟩ = false := frozen_of_row W g o cs.toArray e h
theorem Lit.set {W : World} {g : Nat} {e : TypeId} {cs : List Value} (h : Lit W g e cs) (o : Nat) (v : Value) : Lit (W.setCell ⟨g, o, none⟩ v) g e (cs.set o v) := by
  have := heap_setCell_same W g o cs.toArray e v h
  unfold Lit
  rw [this]
  simp

/-! ### Rows of records -/

/-- A row of n records of m cells each, in a block of its own: the j-th is f j. -/
structure RowF (e : TypeId) (m : Nat) (W : World) (s : Value) (n : Nat) (f : Nat → List Value) : Prop where
  ex : ∃ xs, W.ownsRow 0 e m s n xs ∧ ∀ j, j < n → ∀ c v, (f j)[c]? = some v → xs[j * m + c]? = some v
  len : ∀ j, j < n → (f j).length = m

section
variable {e : TypeId} {m : Nat} {W W' : World} {s : Value} {n : Nat} {f g : Nat → List Value}

theorem RowF.congr (h : RowF e m W s n f) (hfg : ∀ j, j < n → g j = f j) : RowF e m W s n g := by
  obtain ⟨⟨xs, h1, h2⟩, h3⟩ := h
  exact ⟨⟨xs, h1, fun j hj c v hv => h2 j hj c v (by rw [← hfg j hj]; exact hv)⟩, fun j hj => by rw [hfg j hj]; exact h3 j hj⟩

theorem RowF.lt (h : RowF e m W s n f) : ∀ k, s.ownBlock = some k → k < W.heap.size := by
  obtain ⟨⟨xs, h1, h2⟩, h3⟩ := h
  exact fun k hk => (h1.lt k hk).2

theorem RowF.stay {G : Nat → Prop} (h : RowF e m W s n f) (hs : Stay G W W') (hG : ∀ k, s.ownBlock = some k → G k) : RowF e m W' s n f := by
  obtain ⟨⟨xs, h1, h2⟩, h3⟩ := h
  refine ⟨⟨xs, ⟨h1.1, ?_⟩, h2⟩, h3⟩
  rcases h1.2 with h0 | ⟨b, cap, cur, rfl, hb, hg, rest⟩
  · exact .inl h0
  · exact .inr ⟨b, cap, cur, rfl, hb, (hs.block b (some_lt hg) (hG b rfl)).trans hg, rest⟩

theorem RowF.below (h : RowF e m W s n f) (hb : Below W.heap.size W W') : RowF e m W' s n f := h.stay (G := fun _ => True) (Stay.of_below hb) (fun _ _ => trivial)

theorem RowF.nil (e : TypeId) (m : Nat) (W : World) (f : Nat → List Value) : RowF e m W (.slice none 0 0) 0 f :=
  ⟨⟨[], World.ownsRow_nil W 0 e m, fun j hj => absurd hj (Nat.not_lt_zero j)⟩, fun j hj => absurd hj (Nat.not_lt_zero j)⟩

/-- What a row's value is. -/
theorem RowF.form (h : RowF e m W s n f) : ∃ a c, s = .slice a n c ∧ n ≤ c ∧ c ≤ maxLen := by
  obtain ⟨⟨xs, h1, h2⟩, h3⟩ := h
  rcases h1.2 with ⟨rfl, rfl⟩ | ⟨b, cap, cur, rfl, hb, hg, hnc, hcm, _⟩
  · exact ⟨none, 0, rfl, Nat.le_refl _, Nat.zero_le _⟩
  · exact ⟨_, cap, rfl, hnc, hcm⟩

/-- A record of it in memory. -/
theorem RowF.at (h : RowF e m W s n f) {j : Nat} (hj : j < n) : ∃ b c, s = .slice (some ⟨b, 0, none⟩) n c ∧ n ≤ c ∧ c ≤ maxLen ∧ b < W.heap.size ∧ (∀ i, i < n → ∀ o v, (f i)[o]? = some v → W.cell? ⟨b, i * m + o, none⟩ = some v) ∧ ∀ o, W.frozen? ⟨b, o, none⟩ = false := by
  obtain ⟨⟨xs, h1, h2⟩, h3⟩ := h
  rcases h1.2 with ⟨rfl, rfl⟩ | ⟨b, cap, cur, rfl, hb, hg, hnc, hcm, hcs, hx⟩
  · omega
  · refine ⟨b, cap, rfl, hnc, hcm, some_lt hg, fun i hi o v hv => ?_, fun o => h1.frozenAt o⟩
    have ho : o < m := by have := (List.getElem?_eq_some_iff.1 hv).1; rwa [h3 i hi] at this
    rw [h1.cellAt (i * m + o) ?_]
    · exact h2 i hi o v hv
    · calc i * m + o < i * m + m := by omega
        _ = (i + 1) * m := by rw [Nat.add_mul, Nat.one_mul]
        _ ≤ n * m := Nat.mul_le_mul_right _ hi

/-- f, but for the j-th. -/
def updR (f : Nat → List Value) (j : Nat) (cs : List Value) : Nat → List Value := fun i => if i = j then cs else f i

theorem spot_eq {j j' m c c' : Nat} (h1 : c < m) (h2 : c' < m) (h : j * m + c = j' * m + c') : j = j' ∧ c = c' := by
  have hm : 0 < m := by omega
  have e1 : (j * m + c) / m = j := by rw [Nat.mul_comm, Nat.mul_add_div hm, Nat.div_eq_of_lt h1, Nat.add_zero]
  have e2 : (j' * m + c') / m = j' := by rw [Nat.mul_comm, Nat.mul_add_div hm, Nat.div_eq_of_lt h2, Nat.add_zero]
  have e3 : j = j' := by rw [← e1, h, e2]
  subst e3
  exact ⟨rfl, by omega⟩

/-- One cell is written. -/
theorem RowF.set (h : RowF e m W s n f) {j c o b : Nat} (hb : s.ownBlock = some b) (hj : j < n) (hc : c < m) (ho : o = j * m + c) (v : Value) : RowF e m (W.setCell ⟨b, o, none⟩ v) s n (updR f j ((f j).set c v)) := by
  obtain ⟨⟨xs, h1, h2⟩, h3⟩ := h
  have hs : ∃ cap, s = .slice (some ⟨b, 0, none⟩) n cap := by
    rcases h1.2 with ⟨rfl, rfl⟩ | ⟨b', cap, cur, rfl, _⟩
    · simp [Value.ownBlock] at hb
    · simp [Value.ownBlock] at hb
      subst hb
      exact ⟨cap, rfl⟩
  obtain ⟨cap, rfl⟩ := hs
  subst ho
  have hjm : ∀ i, i < n → ∀ d, d < m → i * m + d < n * m := fun i hi d hd => by
    calc i * m + d < i * m + m := by omega
      _ = (i + 1) * m := by rw [Nat.add_mul, Nat.one_mul]
      _ ≤ n * m := Nat.mul_le_mul_right _ hi
  refine ⟨⟨_, (h1.stored (j * m + c) v).1, fun i hi d u hu => ?_⟩, fun i hi => ?_⟩
  · by_cases hij : i = j
    · subst hij
      simp only [updR, if_pos] at hu
      by_cases hdc : d = c
      · subst hdc
        have hl : d < (f i).length := by rw [h3 i hi]; exact hc
        rw [List.getElem?_set_self hl] at hu
        rw [List.getElem?_set_self (by rw [h1.1]; exact hjm i hi d hc)]
        exact hu
      · rw [List.getElem?_set_ne (Ne.symm hdc)] at hu
        rw [List.getElem?_set_ne (by omega)]
        exact h2 i hi d u hu
    · simp only [updR, if_neg hij] at hu
      have hd : d < m := by have := (List.getElem?_eq_some_iff.1 hu).1; rwa [h3 i hi] at this
      rw [List.getElem?_set_ne (fun e => hij (spot_eq hd hc e.symm).1)]
      exact h2 i hi d u hu
  · by_cases hij : i = j
    · subst hij; simp only [updR, if_pos, List.length_set]; exact h3 i hi
    · simp only [updR, if_neg hij]; exact h3 i hi

/-- One record more, by append: the records of a literal, or of another row. -/
theorem RowF.append {P : Program} (h : RowF e m W s n f) (t ty : TypeId) (i : TypeInfo) (z : Value) (bytes : Nat) (ht : P.underlying t = some (.slice e)) (hi : P.info? e = some i) (hz : i.zero = some z) (hsize : i.size = m) (hby : i.bytes = bytes) (hzs : z.cells.size = m) (hm : 0 < m) (hby2 : bytes ≤ 1000)
    {b k c : Nat} {q : Nat → List Value} (hq : ∀ j, j < k → ∀ o v, (q j)[o]? = some v → W.cell? ⟨b, j * m + o, none⟩ = some v) (hql : ∀ j, j < k → (q j).length = m) (hq1 : ∀ j, j < k → ∀ v ∈ q j, v.oneCell' = true) (hn : n + k ≤ 1000000) :
    ∃ s' W', (Builtin.append_ #[t, t] ty #[s, .slice (some ⟨b, 0, none⟩) k c]).run P W = .ok s' W' ∧ RowF e m W' s' (n + k) (fun j => if j < n then f j else q (j - n)) ∧ W.grownBy W' s.ownBlock ∧ (s'.ownBlock = s.ownBlock ∨ s'.ownBlock = some W.heap.size) := by
  obtain ⟨⟨xs, h1, h2⟩, h3⟩ := h
  -- the cells that are appended
  obtain ⟨news, hl, hg⟩ : ∃ news : List Value, news.length = k * m ∧ ∀ j, j < k → ∀ o, o < m → news[j * m + o]? = (q j)[o]? := by
    clear hq hq1 hn
    induction k with
    | zero => exact ⟨[], by simp, fun j hj => absurd hj (Nat.not_lt_zero j)⟩
    | succ k ih =>
      obtain ⟨l, hl, hg⟩ := ih (fun j hj => hql j (by omega))
      refine ⟨l ++ q k, by rw [List.length_append, hl, hql k (Nat.lt_succ_self k), Nat.add_mul, Nat.one_mul], fun j hj o ho => ?_⟩
      by_cases hjk : j = k
      · subst hjk
        rw [List.getElem?_append_right (by omega), hl]
        congr 1
        omega
      · have hjk' : j < k := by omega
        rw [List.getElem?_append_left]
        · exact hg j hjk' o ho
        · rw [hl]
          calc j * m + o < j * m + m := by omega
            _ = (j + 1) * m := by rw [Nat.add_mul, Nat.one_mul]
            _ ≤ k * m := Nat.mul_le_mul_right _ hjk'
  have hsplit : ∀ j, j < k * m → j / m < k ∧ j % m < m ∧ j / m * m + j % m = j := fun j hj => by
    refine ⟨Nat.div_lt_of_lt_mul (by rw [Nat.mul_comm]; exact hj), Nat.mod_lt _ hm, ?_⟩
    rw [Nat.mul_comm]; exact Nat.div_add_mod j m
  obtain ⟨v', W', hr, ho, hgr, _, hw⟩ := run_append_own_at (P := P) W 0 t ty e i z m bytes ht hi hz hsize hby hzs hm s n xs h1 ⟨b, 0, none⟩ k c news hl (fun j u hj => by
      have hjl : j < k * m := by have := (List.getElem?_eq_some_iff.1 hj).1; rwa [hl] at this
      obtain ⟨d1, d2, d3⟩ := hsplit j hjl
      have h5 := hg (j / m) d1 (j % m) d2
      rw [d3, hj] at h5
      rw [Addr.add_lit, Nat.zero_add, ← d3]
      exact hq _ d1 _ _ h5.symm) (fun u hu => by
      obtain ⟨j, hjl, rfl⟩ := List.mem_iff_getElem.1 hu
      rw [hl] at hjl
      obtain ⟨d1, d2, d3⟩ := hsplit j hjl
      have h5 := hg (j / m) d1 (j % m) d2
      rw [d3, List.getElem?_eq_getElem (by rw [hl]; exact hjl)] at h5
      exact hq1 _ d1 _ (List.mem_of_getElem? h5.symm)) (by unfold maxLen; omega) (by
      have := Nat.mul_le_mul hn hby2
      omega) (Nat.zero_le _)
  refine ⟨v', W', hr, ⟨⟨_, ho, fun j hj o u hu => ?_⟩, fun j hj => ?_⟩, hgr, hw⟩
  · by_cases hjn : j < n
    · simp only [if_pos hjn] at hu
      have := h2 j hjn o u hu
      rw [List.getElem?_append_left (List.getElem?_eq_some_iff.1 this).1]
      exact this
    · simp only [if_neg hjn] at hu
      have ho' : o < m := by have := (List.getElem?_eq_some_iff.1 hu).1; rwa [hql (j - n) (by omega)] at this
      have h5 := hg (j - n) (by omega) o ho'
      rw [hu] at h5
      have hge : n * m ≤ j * m := Nat.mul_le_mul_right _ (by omega)
      rw [List.getElem?_append_right (by rw [h1.1]; omega), h1.1, show j * m + o - n * m = (j - n) * m + o by rw [Nat.sub_mul]; omega]
      exact h5
  · by_cases hjn : j < n
    · simp only [if_pos hjn]; exact h3 j hjn
    · simp only [if_neg hjn]; exact hql (j - n) (by omega)
end

theorem append_dst {ops : Array Oper} {rest : List Oper} {o : Oper} {a : Act} {w : World} {Q : Exit → Act → World → Prop} (k : Tmp) (_ : o.dst = some k) (h : wpList Try.prog ops Q (o :: rest) a w) : wpList Try.prog ops Q (o :: rest) a w := h

theorem append_step {F : Fence} {n : Nat} (w : World) {ops : Array Oper} {rest : List Oper} {o : Oper} {a : Act} {Q : Exit → Act → World → Prop} (hg : o.guard = none) (s x : Operand) (t : TypeId)
    (hop : o.op = Op.call { callee := Callee.builtin Builtin.append, args := #[s, x], argTypes := #[t, t] }) (v xv v' : Value) (w' : World) (hs : a.eval s = v) (hx : a.eval x = xv)
    (hrun : (Builtin.append_ #[t, t] o.type #[v, xv]).run Try.prog w = .ok v' w') (hK : wpListIn F n Try.prog ops Q rest (a.put o.dst v') w') : wpListIn F n Try.prog ops Q (o :: rest) a w := by
  refine wpListIn_plain hg fun K hK' => ?_
  unfold Oper.wpIn
  refine ⟨?_, ?_⟩
  · simp [Oper.about, hop, resolve, Target.leads, Sem.run_pure]
  · rw [Oper.semAt_plain F _ _ (by rw [hop]; intro c hc'; cases hc')]
    simp [execOp, hop, resolve, invoke, builtin, hs, hx, hrun, Result.andThen]
    exact hK' _ _ hK

end Go.Proofs.Ytjjhmfpdbjflmaa
