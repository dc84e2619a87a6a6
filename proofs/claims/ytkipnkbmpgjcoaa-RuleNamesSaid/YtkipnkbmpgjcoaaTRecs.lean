/-
  Records in memory: a block of n records of m cells each; written cell by cell, or record by record (stage 8; made for laws that lay out tables of examples).
-/
import Derived.Test.YtkipnkbmpgjcoaaTApp
import Derived.Laws.IdiomCopy
import Derived.Deep.MidRow
namespace Go.Proofs.Ytkipnkbmpgjcoaa
open Go.RowKit
set_option linter.unusedVariables false

/-- Block g holds n records of m cells: the j-th is f j; it may be written. -/
structure Recs (W : World) (g n m : Nat) (f : Nat → List Value) : Prop where
  lt : g < W.heap.size
  at' : ∀ j c v, j < n → (f j)[c]? = some v → W.cell? ⟨g, j * m + c, none⟩ = some v
  len : ∀ j, j < n → (f j).length = m
  fz : ∀ t, W.frozen? ⟨g, t, none⟩ = false

theorem Recs.below {W W' : World} {g n m : Nat} {f : Nat → List Value} (h : Recs W g n m f) (hb : Below W.heap.size W W') : Recs W' g n m f :=
  ⟨Nat.lt_of_lt_of_le h.lt hb.size, fun j c v hj hv => by rw [hb.cell h.lt]; exact h.at' j c v hj hv, h.len, fun t => by rw [hb.frozen (p := ⟨g, t, none⟩) h.lt]; exact h.fz t⟩

/-- What another block's writing leaves. -/
theorem Recs.keep {W W' : World} {g n m : Nat} {f : Nat → List Value} (h : Recs W g n m f) (hs : W.heap.size ≤ W'.heap.size) (hb : W'.heap[g]? = W.heap[g]?) : Recs W' g n m f :=
  ⟨Nat.lt_of_lt_of_le h.lt hs, fun j c v hj hv => by rw [World.cell?_of_block (a := ⟨g, _, none⟩) hb]; exact h.at' j c v hj hv, h.len, fun t => by rw [World.frozen?_of_block (a := ⟨g, t, none⟩) hb]; exact h.fz t⟩

theorem Recs.other {W : World} {g n m : Nat} {f : Nat → List Value} (h : Recs W g n m f) {q o : Nat} (hq : q ≠ g) (v : Value) : Recs (W.setCell ⟨q, o, none⟩ v) g n m f :=
  h.keep (by simp [World.setCell]) (by simp [World.setCell, Array.getElem?_modify, hq])

/-- f, but for the j-th. -/
def updR (f : Nat → List Value) (j : Nat) (cs : List Value) : Nat → List Value := fun i => if i = j then cs else f i
theorem updR_same (f : Nat → List Value) (j : Nat) (cs : List Value) : updR f j cs j = cs := by unfold updR; rw [if_pos rfl]
theorem updR_other (f : Nat → List Value) (j : Nat) (cs : List Value) {i : Nat} (h : i ≠ j) : updR f j cs i = f i := by unfold updR; rw [if_neg h]

theorem spot_eq {j j' m c c' : Nat} (h1 : c < m) (h2 : c' < m) (h : j * m + c = j' * m + c') : j = j' ∧ c = c' := by
  have hm : 0 < m := by omega
  have e1 : (j * m + c) / m = j := by rw [Nat.mul_comm, Nat.mul_add_div hm, Nat.div_eq_of_lt h1, Nat.add_zero]
  have e2 : (j' * m + c') / m = j' := by rw [Nat.mul_comm, Nat.mul_add_div hm, Nat.div_eq_of_lt h2, Nat.add_zero]
  have e3 : j = j' := by rw [← e1, h, e2]
  subst e3
  exact ⟨rfl, by omega⟩

/-- One cell is written. -/
theorem Recs.set {W : World} {g n m : Nat} {f : Nat → List Value} (h : Recs W g n m f) {j c o : Nat} (hj : j < n) (hc : c < m) (ho : o = j * m + c) (v : Value) : Recs (W.setCell ⟨g, o, none⟩ v) g n m (updR f j ((f j).set c v)) := by
  subst ho
  have hl := h.len j hj
  refine ⟨by simpa [World.setCell] using h.lt, fun i d u hi hu => ?_, fun i hi => ?_, fun t => by simp only [World.frozen?_setCell]; exact h.fz t⟩
  · by_cases hij : i = j
    · subst hij
      rw [updR_same] at hu
      by_cases hdc : d = c
      · subst hdc
        rw [List.getElem?_set_self (by omega)] at hu
        injection hu with hu
        subst hu
        have h0 := h.at' i d (f i)[d] hi (List.getElem?_eq_getElem (by omega))
        go_simp
      · rw [List.getElem?_set_ne (Ne.symm hdc)] at hu
        rw [World.cell?_setCell_other _ _ _ _ (fun e => hdc (by injection e with _ e _; omega))]
        exact h.at' i d u hi hu
    · rw [updR_other _ _ _ hij] at hu
      have hd : d < m := by have := (List.getElem?_eq_some_iff.1 hu).1; rwa [h.len i hi] at this
      rw [World.cell?_setCell_other _ _ _ _ (fun e => hij (by injection e with _ e _; exact (spot_eq hd hc e.symm).1 |> fun x => x))]
      exact h.at' i d u hi hu
  · by_cases hij : i = j
    · subst hij; rw [updR_same, List.length_set]; exact hl
    · rw [updR_other _ _ _ hij]; exact h.len i hi

/-- A whole record is written. -/
theorem Recs.store {P : Program} {W : World} {g n m : Nat} {f : Nat → List Value} (h : Recs W g n m f) (ty : TypeId) {j o : Nat} (hj : j < n) (ho : o = j * m) (cs : List Value) (hl : cs.length = m) (h1 : cs.all (·.oneCell') = true) (hi : (P.info? ty).map (·.size) = some m) :
    (storeVar ty ⟨g, o, none⟩ (.agg cs.toArray)).run P W = .ok () (W.setCells g o cs) ∧ Recs (W.setCells g o cs) g n m (updR f j cs) := by
  subst ho
  have hsome : ∀ i, i < cs.length → (W.cell? ⟨g, j * m + i, none⟩).isSome = true := fun i hi' => by
    rw [h.at' j i _ hj (List.getElem?_eq_getElem (by rw [h.len j hj, ← hl]; exact hi'))]; rfl
  have hone : ∀ v ∈ cs, v.oneCell' = true := fun v hv => List.all_eq_true.1 h1 v hv
  have hst := run_storeCells_cells (P := P) g (j * m) cs 0 W (by simpa using hsome) (fun i hi' => h.fz _) hone
  refine ⟨?_, ?_, fun i d u hi' hu => ?_, fun i hi' => ?_, fun t => by rw [World.frozen?_setCells]; exact h.fz t⟩
  · cases hq : P.info? ty with
    | none => simp [hq] at hi
    | some i =>
      have hs : i.size = cs.length := by rw [hl]; simpa [hq] using hi
      simp only [Nat.add_zero] at hst
      simp [storeVar, sizeOf, typeInfo, hq, Value.cells, hs, hst]
  · have : ∀ (vs : List Value) (o : Nat) (w : World), (w.setCells g o vs).heap.size = w.heap.size := by
      intro vs
      induction vs with
      | nil => intro o w; rfl
      | cons v vs ih => intro o w; show ((w.setCell ⟨g, o, none⟩ v).setCells g (o + 1) vs).heap.size = _; rw [ih]; simp [World.setCell]
    rw [this]; exact h.lt
  · have hd : ∀ k, k < n → d < (f k).length → d < m := fun k hk hd => by rwa [h.len k hk] at hd
    by_cases hij : i = j
    · subst hij
      rw [updR_same] at hu
      obtain ⟨hlt, rfl⟩ := List.getElem?_eq_some_iff.1 hu
      exact World.cell?_setCells_in g cs (i * m) W hsome d hlt
    · rw [updR_other _ _ _ hij] at hu
      have hdm : d < m := hd i hi' (List.getElem?_eq_some_iff.1 hu).1
      rw [World.cell?_setCells_out g cs (j * m) W ⟨g, i * m + d, none⟩ (fun _ _ => by
        show i * m + d < j * m ∨ j * m + cs.length ≤ i * m + d
        rw [hl]
        rcases Nat.lt_or_gt_of_ne hij with hlt | hgt
        · left
          calc i * m + d < i * m + m := by omega
            _ = (i + 1) * m := by rw [Nat.add_mul, Nat.one_mul]
            _ ≤ j * m := Nat.mul_le_mul_right _ hlt
        · right
          calc j * m + m = (j + 1) * m := by rw [Nat.add_mul, Nat.one_mul]
            _ ≤ i * m := Nat.mul_le_mul_right _ hgt
            _ ≤ i * m + d := Nat.le_add_right _ _)]
      exact h.at' i d u hi' hu
  · by_cases hij : i = j
    · subst hij; rw [updR_same]; exact hl
    · rw [updR_other _ _ _ hij]; exact h.len i hi'

theorem setCells_block (g : Nat) : ∀ (vs : List Value) (o : Nat) (w : World) (k : Nat), k ≠ g → (w.setCells g o vs).heap[k]? = w.heap[k]? := by
  intro vs
  induction vs with
  | nil => intro o w k _; rfl
  | cons v vs ih => intro o w k hk; show ((w.setCell ⟨g, o, none⟩ v).setCells g (o + 1) vs).heap[k]? = _; rw [ih _ _ _ hk]; simp [World.setCell, Array.getElem?_modify, Ne.symm hk]

theorem below_setCells {B : Nat} {w W : World} (h : Below B w W) {g : Nat} (hg : B ≤ g) : ∀ (vs : List Value) (o : Nat), Below B w (W.setCells g o vs) := by
  intro vs
  induction vs generalizing W with
  | nil => intro o; exact h
  | cons v vs ih => intro o; exact ih (h.setCell (p := ⟨g, o, none⟩) hg v) (o + 1)

/-- Records made by make, of zero values. -/
theorem Recs.made (w : World) (t e : TypeId) (i : TypeInfo) (z : Value) (m : Nat) (ht : Try.prog.underlying t = some (.slice e)) (hi : Try.prog.info? e = some i) (hz : i.zero = some z) (hm : i.size = m) (hm0 : 0 < m) (hzs : z.cells.size = m) (n : Nat) (hn : i.bytes * n ≤ 281474976710656) (hn' : n ≤ 1000000) :
    ∃ W, (Instr.makeSlice t (.int .i64 (n : Int)) (.int .i64 (n : Int))).run Try.prog w = .ok (.slice (some ⟨w.heap.size, 0, none⟩) n n) W ∧ Recs W w.heap.size n m (fun _ => z.cells.toList) ∧ Below w.heap.size w W ∧ w.heap.size < W.heap.size := by
  obtain ⟨W, hr, ho, hg⟩ := run_make_full (P := Try.prog) w w.heap.size t e i z m ht hi hz hm .i64 .i64 n hn (by unfold maxLen; omega) (Nat.le_refl _)
  have hb : Below w.heap.size w W := (Below.refl _ _).grown hg (Nat.le_refl _) (fun k e => by cases e)
  have hlt := (ho.lt _ rfl).2
  refine ⟨W, hr, ⟨hlt, fun j c v hj hv => ?_, fun j hj => by simpa using hzs, fun t => ?_⟩, hb, hlt⟩
  · have hc : c < m := by have := (List.getElem?_eq_some_iff.1 hv).1; simpa [hzs] using this
    have hjm : j * m + c < n * m := by
      calc j * m + c < j * m + m := by omega
        _ = (j + 1) * m := by rw [Nat.add_mul, Nat.one_mul]
        _ ≤ n * m := Nat.mul_le_mul_right _ hj
    have := ho.cells (g := w.heap.size) rfl (j * m + c) v (by
      have hmod : (j * m + c) % m = c := by rw [Nat.mul_comm, Nat.mul_add_mod, Nat.mod_eq_of_lt hc]
      have hv' : z.cells[c]? = some v := by simpa using hv
      simp [madeCells, hjm, hzs, hmod]
      rw [getElem!_def, hv'])
    rw [Addr.add_lit] at this
    simpa using this
  · exact ho.frozenAt t
end Go.Proofs.Ytkipnkbmpgjcoaa
