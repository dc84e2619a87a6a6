/-
  A heap of versions in memory (stage 11).
-/
import Derived.Test.YtkedkeelbbfmkaaHMap
namespace Go.Proofs.Ytkedkeelbbfmkaa
open Go.RowKit
set_option linter.unusedVariables false

/-- A version. -/
structure Tup where
  no : Int
  id : Int
  mn : Int
  cm : Int
  mx : Int
  cx : Int
  row : List Val
deriving DecidableEq

structure Tup.wf (t : Tup) : Prop where
  no : I64 t.no
  id : I64 t.id
  mn : I64 t.mn
  cm : I64 t.cm
  mx : I64 t.mx
  cx : I64 t.cx
  row : ∀ x ∈ t.row, x.wf
  len : t.row.length ≤ 1000000

def tupC (t : Tup) (s : Value) : List Value := [.int .i64 t.no, .int .i64 t.id, .int .i64 t.mn, .int .i64 t.cm, .int .i64 t.mx, .int .i64 t.cx, s]
def tupV (t : Tup) (s : Value) : Value := .agg #[.int .i64 t.no, .int .i64 t.id, .int .i64 t.mn, .int .i64 t.cm, .int .i64 t.mx, .int .i64 t.cx, s]

/-- What is kept of a table. -/
structure Tbl where
  last : Int
  ix : Int → List Nat

/-- A heap, as it lies. -/
structure Hp where
  n : Nat
  tup : Nat → Option Tup
  fn : Nat
  fr : Nat → Nat
  tb : Int → Option Tbl

/-- What a block is for. -/
inductive Lab
  | no | hp | sl | fr | tm | rw
  | tu (i : Nat)
  | tb (x : Int)
  | ix (x : Int)
  | ls (x y : Int)
deriving DecidableEq

/-- Of the slots; of the tables. -/
def Lab.slotB : Lab → Bool
  | .sl => true | .rw => true | .tu _ => true | _ => false
def Lab.tabB : Lab → Bool
  | .tm => true | .tb _ => true | .ix _ => true | .ls _ _ => true | _ => false
def Lab.ofB (x : Int) : Lab → Bool
  | .tb y => decide (y = x) | .ix y => decide (y = x) | .ls y _ => decide (y = x) | _ => false

theorem ofB_tab {x : Int} {l : Lab} (h : l.ofB x = true) : l.tabB = true := by cases l <;> simp [Lab.ofB, Lab.tabB] at h ⊢
theorem slot_no {l : Lab} (h : l.slotB = true) : l ≠ .no := by rintro rfl; cases h
theorem tab_no {l : Lab} (h : l.tabB = true) : l ≠ .no := by rintro rfl; cases h

/-- L' names what L names, and besides blocks from N on alone. -/
structure Ext (N : Nat) (L L' : Nat → Lab) : Prop where
  old : ∀ k, L k ≠ .no → L' k = L k
  new : ∀ k, L' k ≠ .no → L k ≠ .no ∨ N ≤ k

theorem Ext.refl (N : Nat) (L : Nat → Lab) : Ext N L L := ⟨fun _ _ => rfl, fun _ h => .inl h⟩
theorem Ext.trans {N : Nat} {L L1 L2 : Nat → Lab} (h : Ext N L L1) (h2 : Ext N L1 L2) : Ext N L L2 :=
  ⟨fun k hk => by rw [h2.old k (by rw [h.old k hk]; exact hk), h.old k hk], fun k hk => (h2.new k hk).elim (h.new k) .inr⟩
theorem Ext.mono {N N' : Nat} {L L' : Nat → Lab} (h : Ext N L L') (hN : N' ≤ N) : Ext N' L L' := ⟨h.old, fun k hk => (h.new k hk).imp id (fun h => by omega)⟩
theorem Ext.keep {N : Nat} {L L' : Nat → Lab} (h : Ext N L L') {k : Nat} {l : Lab} (hk : L k = l) (hl : l ≠ .no) : L' k = l := by rw [h.old k (by rw [hk]; exact hl), hk]

/-- L, but at g. -/
def setL (L : Nat → Lab) (g : Nat) (l : Lab) : Nat → Lab := fun k => if k = g then l else L k
theorem setL_same (L : Nat → Lab) (g : Nat) (l : Lab) : setL L g l g = l := by unfold setL; rw [if_pos rfl]
theorem setL_ne (L : Nat → Lab) {g k : Nat} (l : Lab) (h : k ≠ g) : setL L g l k = L k := by unfold setL; rw [if_neg h]
theorem Ext.set {N : Nat} {L : Nat → Lab} {g : Nat} (l : Lab) (hg : L g = .no ∨ L g = l) (hN : N ≤ g) : Ext N L (setL L g l) :=
  ⟨fun k hk => by
    by_cases e : k = g
    · subst e
      rw [setL_same]
      rcases hg with hg | hg
      · exact absurd hg hk
      · exact hg.symm
    · rw [setL_ne L l e], fun k hk => by
    by_cases e : k = g
    · exact .inr (by omega)
    · rw [setL_ne L l e] at hk; exact .inl hk⟩

/-- The blocks that are named. -/
def Fof (L : Nat → Lab) (k : Nat) : Prop := L k ≠ .no

/-! ### The parts -/

/-- A version in block g, in slot i. -/
def TupAt (W : World) (L : Nat → Lab) (g i : Nat) (t : Tup) : Prop :=
  L g = .tu i ∧ ∃ s, Lit W g 28 (tupC t s) ∧ RowV W s t.row ∧ ∀ k, s.ownBlock = some k → L k = .rw

def ptrO : Option Tup → Nat → Value
  | none, _ => .pointer none
  | some _, g => ptrV g

structure SlP (W : World) (L : Nat → Lab) (s : Value) (n : Nat) (tup : Nat → Option Tup) (tp : Nat → Nat) : Prop where
  row : RowF 68 1 W s n (fun i => [ptrO (tup i) (tp i)])
  own : ∀ k, s.ownBlock = some k → L k = .sl
  at' : ∀ i t, i < n → tup i = some t → TupAt W L (tp i) i t

structure FrP (W : World) (L : Nat → Lab) (s : Value) (n : Nat) (fr : Nat → Nat) : Prop where
  row : RowF 3 1 W s n (numR fun j => (fr j : Int))
  own : ∀ k, s.ownBlock = some k → L k = .fr

def ixF (T : Tbl) (lp : Int → Value) (y : Int) : Option Value := if T.ix y = [] then none else some (lp y)
def natI (l : List Nat) : List Int := l.map fun (k : Nat) => (k : Int)

/-- A table of number x in block g. -/
def TbAt (W : World) (L : Nat → Lab) (z g : Nat) (x : Int) (T : Tbl) : Prop :=
  L g = .tb x ∧ ∃ b n lp, Lit W g 89 [.int .i64 T.last, .map (some b)] ∧ L b = .ix x ∧ n ≤ z ∧ MapF W b n (ixF T lp) ∧
    ∀ y, T.ix y ≠ [] → I64 y ∧ (T.ix y).length ≤ z ∧ RowI W (lp y) (natI (T.ix y)) ∧ ∀ k, (lp y).ownBlock = some k → L k = .ls x y

def tbF (tb : Int → Option Tbl) (tp : Int → Nat) (x : Int) : Option Value := (tb x).map fun _ => ptrV (tp x)

def TsP (W : World) (L : Nat → Lab) (z : Nat) (m : Value) (tb : Int → Option Tbl) : Prop :=
  (m = .map none ∧ ∀ x, tb x = none) ∨ ∃ b n tp, m = .map (some b) ∧ L b = .tm ∧ n ≤ z ∧ MapF W b n (tbF tb tp) ∧ ∀ x T, tb x = some T → I64 x ∧ TbAt W L z (tp x) x T

/-- At block h lies the heap M, by at most z steps; L says what its blocks are for. -/
structure HpM (W : World) (h : Nat) (M : Hp) (z : Nat) (L : Nat → Lab) : Prop where
  lt : ∀ k, L k ≠ .no → k < W.heap.size
  hp : L h = .hp
  nz : M.n ≤ z
  fz : M.fn ≤ z
  ex : ∃ s f m tp, Lit W h 79 [s, f, m] ∧ SlP W L s M.n M.tup tp ∧ FrP W L f M.fn M.fr ∧ TsP W L z m M.tb

section
variable {W W' : World} {L L' : Nat → Lab} {G : Nat → Prop} {N : Nat}

theorem TupAt.stay {g i : Nat} {t : Tup} (h : TupAt W L g i t) (hs : Stay G W W') (hg : G g) (hG : ∀ k, L k = .rw → G k) : TupAt W' L g i t := by
  obtain ⟨h1, s, h2, h3, h4⟩ := h
  exact ⟨h1, s, h2.stay hs hg, h3.stay hs (fun k hk => hG k (h4 k hk)), h4⟩
theorem TupAt.ext {g i : Nat} {t : Tup} (h : TupAt W L g i t) (he : Ext N L L') : TupAt W L' g i t := by
  obtain ⟨h1, s, h2, h3, h4⟩ := h
  exact ⟨he.keep h1 (by simp), s, h2, h3, fun k hk => he.keep (h4 k hk) (by simp)⟩

theorem SlP.stay {s : Value} {n : Nat} {tup : Nat → Option Tup} {tp : Nat → Nat} (h : SlP W L s n tup tp) (hs : Stay G W W') (hG : ∀ k, (L k).slotB = true → G k) : SlP W' L s n tup tp :=
  ⟨h.row.stay hs (fun k hk => hG k (by rw [h.own k hk]; rfl)), h.own, fun i t hi ht => (h.at' i t hi ht).stay hs (hG _ (by rw [(h.at' i t hi ht).1]; rfl)) (fun k hk => hG k (by rw [hk]; rfl))⟩
theorem SlP.ext {s : Value} {n : Nat} {tup : Nat → Option Tup} {tp : Nat → Nat} (h : SlP W L s n tup tp) (he : Ext N L L') : SlP W L' s n tup tp :=
  ⟨h.row, fun k hk => he.keep (h.own k hk) (by simp), fun i t hi ht => (h.at' i t hi ht).ext he⟩

theorem FrP.stay {s : Value} {n : Nat} {fr : Nat → Nat} (h : FrP W L s n fr) (hs : Stay G W W') (hG : ∀ k, L k = .fr → G k) : FrP W' L s n fr := ⟨h.row.stay hs (fun k hk => hG k (h.own k hk)), h.own⟩
theorem FrP.ext {s : Value} {n : Nat} {fr : Nat → Nat} (h : FrP W L s n fr) (he : Ext N L L') : FrP W L' s n fr := ⟨h.row, fun k hk => he.keep (h.own k hk) (by simp)⟩

theorem TbAt.stay {z g : Nat} {x : Int} {T : Tbl} (h : TbAt W L z g x T) (hs : Stay G W W') (hG : ∀ k, (L k).ofB x = true → G k) : TbAt W' L z g x T := by
  obtain ⟨h1, b, n, lp, h2, h3, h4, h5, h6⟩ := h
  refine ⟨h1, b, n, lp, h2.stay hs (hG _ (by rw [h1]; simp [Lab.ofB])), h3, h4, h5.stay hs (hG _ (by rw [h3]; simp [Lab.ofB])), fun y hy => ?_⟩
  obtain ⟨q1, q2, q3, q4⟩ := h6 y hy
  exact ⟨q1, q2, q3.stay hs (fun k hk => hG k (by rw [q4 k hk]; simp [Lab.ofB])), q4⟩
theorem TbAt.ext {z g : Nat} {x : Int} {T : Tbl} (h : TbAt W L z g x T) (he : Ext N L L') : TbAt W L' z g x T := by
  obtain ⟨h1, b, n, lp, h2, h3, h4, h5, h6⟩ := h
  refine ⟨he.keep h1 (by simp), b, n, lp, h2, he.keep h3 (by simp), h4, h5, fun y hy => ?_⟩
  obtain ⟨q1, q2, q3, q4⟩ := h6 y hy
  exact ⟨q1, q2, q3, fun k hk => he.keep (q4 k hk) (by simp)⟩
theorem TbAt.more {z z' g : Nat} {x : Int} {T : Tbl} (h : TbAt W L z g x T) (hz : z ≤ z') : TbAt W L z' g x T := by
  obtain ⟨h1, b, n, lp, h2, h3, h4, h5, h6⟩ := h
  refine ⟨h1, b, n, lp, h2, h3, Nat.le_trans h4 hz, h5, fun y hy => ?_⟩
  obtain ⟨q1, q2, q3, q4⟩ := h6 y hy
  exact ⟨q1, Nat.le_trans q2 hz, q3, q4⟩

theorem TsP.stay {z : Nat} {m : Value} {tb : Int → Option Tbl} (h : TsP W L z m tb) (hs : Stay G W W') (hG : ∀ k, (L k).tabB = true → G k) : TsP W' L z m tb := by
  rcases h with h | ⟨b, n, tp, h1, h2, h3, h4, h5⟩
  · exact .inl h
  · exact .inr ⟨b, n, tp, h1, h2, h3, h4.stay hs (hG _ (by rw [h2]; rfl)), fun x T hx => ⟨(h5 x T hx).1, (h5 x T hx).2.stay hs (fun k hk => hG k (ofB_tab hk))⟩⟩
theorem TsP.ext {z : Nat} {m : Value} {tb : Int → Option Tbl} (h : TsP W L z m tb) (he : Ext N L L') : TsP W L' z m tb := by
  rcases h with h | ⟨b, n, tp, h1, h2, h3, h4, h5⟩
  · exact .inl h
  · exact .inr ⟨b, n, tp, h1, he.keep h2 (by simp), h3, h4, fun x T hx => ⟨(h5 x T hx).1, (h5 x T hx).2.ext he⟩⟩
theorem TsP.more {z z' : Nat} {m : Value} {tb : Int → Option Tbl} (h : TsP W L z m tb) (hz : z ≤ z') : TsP W L z' m tb := by
  rcases h with h | ⟨b, n, tp, h1, h2, h3, h4, h5⟩
  · exact .inl h
  · exact .inr ⟨b, n, tp, h1, h2, Nat.le_trans h3 hz, h4, fun x T hx => ⟨(h5 x T hx).1, (h5 x T hx).2.more hz⟩⟩

theorem HpM.stay {h : Nat} {M : Hp} {z : Nat} (H : HpM W h M z L) (hs : Stay (Fof L) W W') : HpM W' h M z L := by
  obtain ⟨s, f, m, tp, h1, h2, h3, h4⟩ := H.ex
  exact ⟨fun k hk => Nat.lt_of_lt_of_le (H.lt k hk) hs.size, H.hp, H.nz, H.fz, s, f, m, tp, h1.stay hs (by unfold Fof; rw [H.hp]; simp), h2.stay hs (fun k hk => slot_no hk), h3.stay hs (fun k hk => by unfold Fof; rw [hk]; simp), h4.stay hs (fun k hk => tab_no hk)⟩
theorem HpM.below {h : Nat} {M : Hp} {z : Nat} (H : HpM W h M z L) (hb : Below W.heap.size W W') : HpM W' h M z L := H.stay (Stay.of_below hb)
theorem HpM.more {h : Nat} {M : Hp} {z z' : Nat} (H : HpM W h M z L) (hz : z ≤ z') : HpM W h M z' L := by
  obtain ⟨s, f, m, tp, h1, h2, h3, h4⟩ := H.ex
  exact ⟨H.lt, H.hp, Nat.le_trans H.nz hz, Nat.le_trans H.fz hz, s, f, m, tp, h1, h2, h3, h4.more hz⟩
end

/-! ### Rows -/

section
variable {W W' : World}

theorem RowI.at {s : Value} {l : List Int} (h : RowI W s l) {j : Nat} (hj : j < l.length) : ∃ b c, s = .slice (some ⟨b, 0, none⟩) l.length c ∧ l.length ≤ c ∧ c ≤ maxLen ∧ b < W.heap.size ∧ (∀ i, i < l.length → W.cell? ⟨b, i, none⟩ = some (.int .i64 (l.getD i 0))) ∧ ∀ o, W.frozen? ⟨b, o, none⟩ = false := by
  obtain ⟨b, c, h1, h2, h3, h4, h5, h6⟩ := RowF.at h hj
  exact ⟨b, c, h1, h2, h3, h4, fun i hi => by have := h5 i hi 0 _ rfl; rwa [Nat.mul_one, Nat.add_zero] at this, h6⟩

theorem RowI.own {s : Value} {l : List Int} (h : RowI W s l) : W.ownsRow 0 3 1 s l.length (l.map (Value.int .i64)) := by
  obtain ⟨⟨xs, h1, h2⟩, h3⟩ := h
  have : xs = l.map (Value.int .i64) := by
    apply List.ext_getElem?
    intro i
    by_cases hi : i < l.length
    · have := h2 i hi 0 _ rfl
      rw [Nat.mul_one, Nat.add_zero] at this
      rw [this, List.getElem?_map, List.getElem?_eq_getElem hi]
      simp [hi]
    · rw [List.getElem?_eq_none (by rw [h1.1]; omega), List.getElem?_eq_none (by simp; omega)]
  rw [← this]
  exact h1

theorem RowI.of_own {s : Value} {base : Nat} {l : List Int} (h : W.ownsRow base 3 1 s l.length (l.map (Value.int .i64))) : RowI W s l := by
  refine ⟨⟨_, ⟨h.1, ?_⟩, fun j hj c v hv => ?_⟩, fun _ _ => rfl⟩
  · rcases h.2 with h0 | ⟨b, cap, cur, rfl, _, rest⟩
    · exact .inl h0
    · exact .inr ⟨b, cap, cur, rfl, Nat.zero_le _, rest⟩
  · have hc : c = 0 := by have := (List.getElem?_eq_some_iff.1 hv).1; simp [numR] at this; omega
    subst hc
    simp only [numR, List.getElem?_cons_zero, Option.some.injEq] at hv
    rw [Nat.mul_one, Nat.add_zero, List.getElem?_map, List.getElem?_eq_getElem hj, ← hv]
    simp [hj]

theorem own_ge {s : Value} {base n m : Nat} {e : TypeId} {xs : List Value} (h : W.ownsRow base e m s n xs) : ∀ k, s.ownBlock = some k → base ≤ k := by
  intro k hk
  rcases h.2 with ⟨rfl, _⟩ | ⟨b, cap, cur, rfl, hb, _⟩
  · cases hk
  · have : b = k := Option.some.inj hk
    omega

theorem RowV.own {s : Value} {l : List Val} (h : RowV W s l) : W.ownsRow 0 43 4 s l.length (flatL l) := by
  obtain ⟨⟨xs, h1, h2⟩, h3⟩ := h
  have : xs = flatL l := by
    apply List.ext_getElem?
    intro i
    by_cases hi : i < l.length * 4
    · have e : i = i / 4 * 4 + i % 4 := by omega
      have hj : i / 4 < l.length := by omega
      have hg : l[i / 4]? = some (l.getD (i / 4) Val.zero) := by rw [List.getElem?_eq_getElem hj]; simp [hj]
      rw [e, flatL_get l _ _ _ hg (by omega)]
      obtain ⟨v, hv⟩ : ∃ v, (encV (l.getD (i / 4) Val.zero))[i % 4]? = some v := ⟨(encV (l.getD (i / 4) Val.zero))[i % 4]'(by simp [encV]; omega), List.getElem?_eq_getElem (by simp [encV]; omega)⟩
      rw [hv]
      exact h2 _ hj _ v hv
    · rw [List.getElem?_eq_none (by rw [h1.1]; omega), List.getElem?_eq_none (by rw [flatL_len]; omega)]
  rw [← this]
  exact h1

theorem RowV.of_own {s : Value} {base : Nat} {l : List Val} (h : W.ownsRow base 43 4 s l.length (flatL l)) : RowV W s l := by
  refine ⟨⟨_, ⟨h.1, ?_⟩, fun j hj c v hv => ?_⟩, fun _ _ => rfl⟩
  · rcases h.2 with h0 | ⟨b, cap, cur, rfl, _, rest⟩
    · exact .inl h0
    · exact .inr ⟨b, cap, cur, rfl, Nat.zero_le _, rest⟩
  · have hc : c < 4 := by have := (List.getElem?_eq_some_iff.1 hv).1; simpa [encV] using this
    rw [flatL_get l j c (l.getD j Val.zero) (by rw [List.getElem?_eq_getElem hj]; simp [hj]) hc]
    exact hv

theorem RowV.sl {s : Value} {l : List Val} (h : RowV W s l) (hw : ∀ x ∈ l, x.wf) : ∃ a c, s = .slice a l.length c ∧ SlL W a c l := own_sl hw h.own
theorem RowV.form {s : Value} {l : List Val} (h : RowV W s l) : ∃ a c, s = .slice a l.length c ∧ l.length ≤ c ∧ c ≤ maxLen := RowF.form h
theorem RowI.form {s : Value} {l : List Int} (h : RowI W s l) : ∃ a c, s = .slice a l.length c ∧ l.length ≤ c ∧ c ≤ maxLen := RowF.form h
end

end Go.Proofs.Ytkedkeelbbfmkaa
