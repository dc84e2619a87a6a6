/-
  The library's functions at rows of numbers and of values (stage 11).
-/
import Derived.Test.YtbgnbaogclnpgaaHPush
import Derived.Test.YtbgnbaogclnpgaaShelf
namespace Go.Proofs.Ytbgnbaogclnpgaa
open Go.RowKit
set_option linter.unusedVariables false

theorem sclone_is (s : ByteArray) (hs : s.size ≤ 140737488351232) (w : World) : Calls Try.prog 50 #[.string s] w fun e w' => e = .returned (.string s) ∧ Below w.heap.size w w' := by
  have hcon := fun w => Try.stringslite_Clone s w (by omega)
  go_enter Try.func50, Try.ntmps50
  go_wp2_with fail
  refine (hcon _).mono ?_
  rintro e w1 ⟨rfl, hb⟩
  go_wp2_with fail
  go_ret
  exact ⟨rfl, hb⟩

theorem own_base {W : World} {s : Value} {base n m : Nat} {e : TypeId} {xs : List Value} (h : W.ownsRow base e m s n xs) : W.ownsRow 0 e m s n xs := by
  refine ⟨h.1, ?_⟩
  rcases h.2 with h0 | ⟨b, cap, cur, h1, h2, h3⟩
  · exact .inl h0
  · exact .inr ⟨b, cap, cur, h1, Nat.zero_le _, h3⟩

/-- A copy of a row of values. -/
theorem cloneV_is (s : Value) (l : List Val) (hs : l.length ≤ 1000000) (w : World) (h : RowV w s l) :
    Calls Try.prog 49 #[s] w fun e w' => ∃ v, e = .returned v ∧ RowV w' v l ∧ (∀ k, v.ownBlock = some k → w.heap.size ≤ k) ∧ Below w.heap.size w w' := by
  obtain ⟨i0, hi, hz0, hz1, hz2⟩ := info_parts info_v
  have ho := h.own
  rcases ho.2 with ⟨rfl, hl⟩ | ⟨b, c, cur, rfl, hb, hg, hnc, hcm, hcs, hx⟩
  · have hl' : l = [] := List.length_eq_zero_iff.1 hl
    subst hl'
    refine (show Calls Try.prog 49 _ _ _ from AnyE.slices_Clone_nil Try.cloneV 0 0 w).mono ?_
    rintro e w' ⟨rfl, rfl⟩
    exact ⟨_, rfl, RowF.nil _ _ _ _, fun k hk => (by cases hk), Below.refl _ _⟩
  · refine (show Calls Try.prog 49 _ _ _ from AnyE.slices_Clone Try.cloneV i0 _ 4 40 hi hz0 hz1 hz2 rfl (by decide) (fun w => by kernel_rfl) b 0 l.length c (flatL l) w (flatL_len l) (by unfold maxLen; omega) (by omega) (fun j u hj => by
      have hjl : j < l.length * 4 := by have := (List.getElem?_eq_some_iff.1 hj).1; rwa [flatL_len] at this
      rw [Nat.zero_add, ho.cellAt j hjl]
      exact hj) (flatL_one l)).mono ?_
    rintro e w' ⟨v', rfl, h1, h2, h3⟩
    exact ⟨v', rfl, RowV.of_own h1, own_ge h1, h3⟩

/-- Numbers as a list. -/
def lstI (n : Nat) (f : Nat → Int) : List Int := (List.range n).map f
theorem lstI_len (n : Nat) (f : Nat → Int) : (lstI n f).length = n := by simp [lstI]
theorem lstI_get {n : Nat} {f : Nat → Int} {j : Nat} (hj : j < n) : (lstI n f).getD j 0 = f j := by simp [lstI, hj]
theorem rowI_of {W : World} {s : Value} {n : Nat} {f : Nat → Int} (h : RowF 3 1 W s n (numR f)) : RowI W s (lstI n f) := by
  unfold RowI
  rw [lstI_len]
  exact h.congr fun j hj => by unfold numR; simp only [lstI_get hj]
theorem rowI_to {W : World} {s : Value} {n : Nat} {f : Nat → Int} (h : RowI W s (lstI n f)) : RowF 3 1 W s n (numR f) := by
  unfold RowI at h
  rw [lstI_len] at h
  exact h.congr fun j hj => by unfold numR; simp only [lstI_get hj]

section
variable (fn : FuncId) {ρ : Go.Shelf.Ren}
/-- A copy of a row of numbers. -/
theorem cloneN_is (L : SlLaysE0.n41 Try.prog ρ) (h41 : ρ.f 41 = fn) (h23 : ρ.t 23 = 3) (s : Value) (l : List Int) (hs : l.length ≤ 1000000) (w : World) (h : RowI w s l) :
    Calls Try.prog fn #[s] w fun e w' => ∃ v, e = .returned v ∧ RowI w' v l ∧ (∀ k, v.ownBlock = some k → w.heap.size ≤ k) ∧ Below w.heap.size w w' := by
  subst h41
  obtain ⟨i0, hi, hz0, hz1, hz2⟩ := info_parts info_i
  rw [← h23] at hi
  have ho := h.own
  rcases ho.2 with ⟨rfl, hl⟩ | ⟨b, c, cur, rfl, hb, hg, hnc, hcm, hcs, hx⟩
  · have hl' : l = [] := List.length_eq_zero_iff.1 hl
    subst hl'
    refine (AnyE.slices_Clone_nil L 0 0 w).mono ?_
    rintro e w' ⟨rfl, rfl⟩
    exact ⟨_, rfl, RowF.nil _ _ _ _, fun k hk => (by cases hk), Below.refl _ _⟩
  · refine (AnyE.slices_Clone L i0 _ 1 8 hi hz0 hz1 hz2 rfl (by decide) (fun w => by rw [h23]; kernel_rfl) b 0 l.length c (l.map (Value.int .i64)) w (by simp) (by unfold maxLen; omega) (by omega) (fun j u hj => by
      have hjl : j < l.length := by have := (List.getElem?_eq_some_iff.1 hj).1; simpa using this
      rw [Nat.zero_add, ho.cellAt j (by omega)]
      exact hj) (fun u hu => by obtain ⟨x, _, rfl⟩ := List.mem_map.1 hu; rfl)).mono ?_
    rintro e w' ⟨v', rfl, h1, h2, h3⟩
    rw [h23] at h1
    exact ⟨v', rfl, RowI.of_own h1, own_ge h1, h3⟩
end

/-- Numbers that rise. -/
def Rise (l : List Int) : Prop := l.Pairwise (· < ·)
def sortI (l : List Int) : List Int := l.mergeSort fun x y => decide (x ≤ y)

theorem sortI_perm (l : List Int) : (sortI l).Perm l := List.mergeSort_perm l _
theorem sortI_rise {l : List Int} (h : l.Nodup) : Rise (sortI l) := by
  have h1 : (sortI l).Pairwise fun x y => decide (x ≤ y) = true := List.pairwise_mergeSort (le := fun x y : Int => decide (x ≤ y)) (fun a b c h1 h2 => by simp at h1 h2 ⊢; omega) (fun a b => by simp; omega) l
  have h2 : (sortI l).Nodup := (sortI_perm l).nodup_iff.2 h
  unfold Rise
  exact (h1.and h2).imp fun {a b} ⟨h3, h4⟩ => by simp at h3; have : a ≠ b := h4; omega

/-- Lists that rise, of the same numbers, are one. -/
theorem rise_eq : ∀ {l m : List Int}, Rise l → Rise m → (∀ x, x ∈ l ↔ x ∈ m) → l = m
  | [], [], _, _, _ => rfl
  | [], y :: m, _, _, h => absurd ((h y).2 (List.mem_cons_self ..)) (by simp)
  | x :: l, [], _, _, h => absurd ((h x).1 (List.mem_cons_self ..)) (by simp)
  | x :: l, y :: m, h1, h2, h => by
    have a1 := List.pairwise_cons.1 h1
    have a2 := List.pairwise_cons.1 h2
    have e : x = y := by
      rcases List.mem_cons.1 ((h x).1 (List.mem_cons_self ..)) with e | e
      · exact e
      · rcases List.mem_cons.1 ((h y).2 (List.mem_cons_self ..)) with e' | e'
        · exact e'.symm
        · have := a1.1 y e'; have := a2.1 x e; omega
    subst e
    congr 1
    refine rise_eq a1.2 a2.2 fun z => ⟨fun hz => ?_, fun hz => ?_⟩
    · rcases List.mem_cons.1 ((h z).1 (List.mem_cons_of_mem _ hz)) with e | e
      · subst e; exact absurd (a1.1 z hz) (by omega)
      · exact e
    · rcases List.mem_cons.1 ((h z).2 (List.mem_cons_of_mem _ hz)) with e | e
      · subst e; exact absurd (a2.1 z hz) (by omega)
      · exact e

theorem putRow_touch (W : World) (b : Nat) (D : Array Int) : Touch (fun k => k = b) W (Sort.putRow (Value.int .i64) W b 0 D) :=
  ⟨rfl, rfl, rfl, by simp [Sort.putRow, Sort.mapBlock], fun i hi hn => by
    simp only [Sort.putRow, Sort.mapBlock]
    rw [Array.getElem?_modify, if_neg (fun e => hn e.symm)]⟩

/-- Numbers are written over a row of as many, or more: as many as are written are told. -/
theorem rowI_putRow {W : World} {b c n : Nat} {l m : List Int} (h : RowI W (.slice (some ⟨b, 0, none⟩) n c) l) (hn : l.length = n) (hl : m.length = n) : RowI (Sort.putRow (Value.int .i64) W b 0 m.toArray) (.slice (some ⟨b, 0, none⟩) n c) m := by
  subst hn
  have ho := h.own
  rcases ho.2 with ⟨h0, _⟩ | ⟨b', c', cur, h0, hb, hg, hnc, hcm, hcs, hx⟩
  · cases h0
  cases h0
  have hp : (Sort.putRow (Value.int .i64) W b 0 m.toArray).heap[b]? = some (.cells (Sort.putCells (Value.int .i64) 0 m.toArray cur) 3 (0, 0)) := by
    simp only [Sort.putRow, Sort.mapBlock]
    rw [Array.getElem?_modify, if_pos rfl, hg]
    rfl
  refine RowI.of_own (base := 0) ⟨by simp, .inr ⟨b, c, Sort.putCells (Value.int .i64) 0 m.toArray cur, by rw [hl], Nat.zero_le _, hp, by omega, hcm, by unfold Sort.putCells; simp [hcs], ?_⟩⟩
  apply List.ext_getElem?
  intro i
  rw [List.getElem?_take]
  by_cases hi : i < m.length
  · rw [if_pos (by omega)]
    unfold Sort.putCells
    have hi' : i < cur.size := by rw [hcs]; omega
    simp [hi, hi']
  · rw [if_neg (by omega), List.getElem?_eq_none (by simp; omega)]

end Go.Proofs.Ytbgnbaogclnpgaa
