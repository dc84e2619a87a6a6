/-
  Rows that are appended to rows; how many there are at most (stage 14).
-/
import Derived.Test.YtjjhmfpdbjflmaaPRowG
namespace Go.Proofs.Ytjjhmfpdbjflmaa
open Go.RowKit
set_option linter.unusedVariables false

section
variable {e : TypeId} {m : Nat} {W W' : World} {s : Value} {n : Nat} {f g : Nat → List Value}
/-- Records are appended that lie anywhere in a block. -/
theorem RowF.appendO {P : Program} (h : RowF e m W s n f) (t ty : TypeId) (i : TypeInfo) (z : Value) (bytes : Nat) (ht : P.underlying t = some (.slice e)) (hi : P.info? e = some i) (hz : i.zero = some z) (hsize : i.size = m) (hby : i.bytes = bytes) (hzs : z.cells.size = m) (hm : 0 < m) (hby2 : bytes ≤ 1000)
    {b off k c : Nat} {q : Nat → List Value} (hq : ∀ j, j < k → ∀ o v, (q j)[o]? = some v → W.cell? ⟨b, off + (j * m + o), none⟩ = some v) (hql : ∀ j, j < k → (q j).length = m) (hq1 : ∀ j, j < k → ∀ v ∈ q j, v.oneCell' = true) (hn : n + k ≤ 1000000) :
    ∃ s' W', (Builtin.append_ #[t, t] ty #[s, .slice (some ⟨b, off, none⟩) k c]).run P W = .ok s' W' ∧ RowF e m W' s' (n + k) (fun j => if j < n then f j else q (j - n)) ∧ W.grownBy W' s.ownBlock ∧ (s'.ownBlock = s.ownBlock ∨ s'.ownBlock = some W.heap.size) := by
  obtain ⟨⟨xs, h1, h2⟩, h3⟩ := h
  -- the cells that are appended
  obtain ⟨news, hl, hg⟩ : ∃ news : List Value, news.length = k * m ∧ ∀ j, j < k → ∀ o, o < m → news[j * m + o]? = (q j)[o]? := by
    clear hq hq1 hn
    induction k with
    | zero => exact ⟨[], by simp, fun j hj => absurd hj (Nat.not_lt_zero j)⟩
    | succ k ih =>
      obtain ⟨l, hl, hg⟩ := ih (fun j hj => hql j (by omega))
      refine ⟨l ++ q k, by rw [List.length_append, hl, hql k (Nat.lt_succ_self k), Nat.add_mul, Nat.one_mul], fun j hj o ho => ?_⟩
      by_cases hjk : j = k
      · subst hjk
        rw [List.getElem?_append_right (by omega), hl]
        congr 1
        omega
      · have hjk' : j < k := by omega
        rw [List.getElem?_append_left]
        · exact hg j hjk' o ho
        · rw [hl]
          calc j * m + o < j * m + m := by omega
            _ = (j + 1) * m := by rw [Nat.add_mul, Nat.one_mul]
            _ ≤ k * m := Nat.mul_le_mul_right _ hjk'
  have hsplit : ∀ j, j < k * m → j / m < k ∧ j % m < m ∧ j / m * m + j % m = j := fun j hj => by
    refine ⟨Nat.div_lt_of_lt_mul (by rw [Nat.mul_comm]; exact hj), Nat.mod_lt _ hm, ?_⟩
    rw [Nat.mul_comm]; exact Nat.div_add_mod j m
  obtain ⟨v', W', hr, ho, hgr, _, hw⟩ := run_append_own_at (P := P) W 0 t ty e i z m bytes ht hi hz hsize hby hzs hm s n xs h1 ⟨b, off, none⟩ k c news hl (fun j u hj => by
      have hjl : j < k * m := by have := (List.getElem?_eq_some_iff.1 hj).1; rwa [hl] at this
      obtain ⟨d1, d2, d3⟩ := hsplit j hjl
      have h5 := hg (j / m) d1 (j % m) d2
      rw [d3, hj] at h5
      rw [Addr.add_lit, ← d3]
      exact hq _ d1 _ _ h5.symm) (fun u hu => by
      obtain ⟨j, hjl, rfl⟩ := List.mem_iff_getElem.1 hu
      rw [hl] at hjl
      obtain ⟨d1, d2, d3⟩ := hsplit j hjl
      have h5 := hg (j / m) d1 (j % m) d2
      rw [d3, List.getElem?_eq_getElem (by rw [hl]; exact hjl)] at h5
      exact hq1 _ d1 _ (List.mem_of_getElem? h5.symm)) (by unfold maxLen; omega) (by
      have := Nat.mul_le_mul hn hby2
      omega) (Nat.zero_le _)
  refine ⟨v', W', hr, ⟨⟨_, ho, fun j hj o u hu => ?_⟩, fun j hj => ?_⟩, hgr, hw⟩
  · by_cases hjn : j < n
    · simp only [if_pos hjn] at hu
      have := h2 j hjn o u hu
      rw [List.getElem?_append_left (List.getElem?_eq_some_iff.1 this).1]
      exact this
    · simp only [if_neg hjn] at hu
      have ho' : o < m := by have := (List.getElem?_eq_some_iff.1 hu).1; rwa [hql (j - n) (by omega)] at this
      have h5 := hg (j - n) (by omega) o ho'
      rw [hu] at h5
      have hge : n * m ≤ j * m := Nat.mul_le_mul_right _ (by omega)
      rw [List.getElem?_append_right (by rw [h1.1]; omega), h1.1, show j * m + o - n * m = (j - n) * m + o by rw [Nat.sub_mul]; omega]
      exact h5
  · by_cases hjn : j < n
    · simp only [if_pos hjn]; exact h3 j hjn
    · simp only [if_neg hjn]; exact hql (j - n) (by omega)
end

/-- Nothing is appended. -/
theorem RowF.append0 {e : TypeId} {m : Nat} {W : World} {s : Value} {n : Nat} {f : Nat → List Value} (h : RowF e m W s n f) (t ty : TypeId) (i : TypeInfo) (ht : Try.prog.underlying t = some (.slice e)) (hi : Try.prog.info? e = some i) :
    (Builtin.append_ #[t, t] ty #[s, .slice none 0 0]).run Try.prog W = .ok s W := by
  obtain ⟨a, c, rfl, hnc, hcm⟩ := h.form
  cases a with
  | none => simp [Builtin.append_, run_underlying ht, sizeOf, typeInfo, hi, Builtin.lenOf, Builtin.firstCells, hnc]
  | some a => simp [Builtin.append_, run_underlying ht, sizeOf, typeInfo, hi, Builtin.lenOf, Builtin.firstCells, loadCells, storeCells, hnc]

theorem row_app {W : World} {s : Value} {l m : List Int} (h : RowI W s l) {a : Option Addr} {k c : Nat} (hm : RowI W (.slice a k c) m) (hn : l.length + k ≤ 1000000) :
    ∃ a' c' W6, (∀ ty, (Builtin.append_ #[35, 35] ty #[s, .slice a k c]).run Try.prog W = .ok (.slice a' (l.length + k) c') W6) ∧ RowI W6 (.slice a' (l.length + k) c') (l ++ m) ∧ Touch (fun j => s.ownBlock = some j) W W6 ∧ ∀ j, Value.ownBlock (.slice a' (l.length + k) c') = some j → s.ownBlock = some j ∨ W.heap.size ≤ j := by
  obtain ⟨i0, hi, hz0, hz1, hz2⟩ := info_parts info_i
  obtain ⟨-, -, hkm⟩ := hm.cap
  cases hkc : k with
  | zero =>
    subst hkc
    have hm0 : m = [] := List.eq_nil_of_length_eq_zero hkm.symm
    subst hm0
    rcases hm.own.2 with ⟨e, -⟩ | ⟨g, c9, cur, e, -⟩
    · simp only [Value.slice.injEq] at e
      obtain ⟨rfl, -, rfl⟩ := e
      obtain ⟨sa, sc, rfl, -, -⟩ := h.form
      refine ⟨sa, sc, W, fun ty => RowF.append0 h 35 ty i0 Try.underlying35 hi, by rw [List.append_nil]; exact h, Touch.refl _ _, fun j hj => .inl hj⟩
    · simp only [Value.slice.injEq] at e
      obtain ⟨rfl, -, -⟩ := e
      obtain ⟨s', W', hrun, hrow, hg, hown⟩ := RowF.append (P := Try.prog) h 35 35 i0 _ 8 Try.underlying35 hi hz0 hz1 hz2 rfl (by decide) (by decide) (b := g) (k := 0) (c := c) (q := fun _ => []) (fun j hj => absurd hj (Nat.not_lt_zero j)) (fun j hj => absurd hj (Nat.not_lt_zero j)) (fun j hj => absurd hj (Nat.not_lt_zero j)) (by omega)
      obtain ⟨a', c', e, _, _⟩ := hrow.form
      subst e
      refine ⟨a', c', W', fun _ => hrun, ?_, Touch.grown hg (fun k hk => hk), fun j hj => ?_⟩
      · rw [List.append_nil]
        exact hrow.congr fun j hj => by simp [show j < l.length from hj]
      · rcases hown with e | e
        · left; rw [← e]; exact hj
        · rw [e] at hj; right; have := Option.some.inj hj; omega
  | succ k' =>
    obtain ⟨b, c2, e, -, -, -, hcell, -⟩ := RowI.at hm (j := 0) (by rw [← hkm, hkc]; omega)
    simp only [Value.slice.injEq] at e
    obtain ⟨rfl, -, -⟩ := e
    rw [← hkc]
    obtain ⟨s', W', hrun, hrow, hg, hown⟩ := RowF.append (P := Try.prog) h 35 35 i0 _ 8 Try.underlying35 hi hz0 hz1 hz2 rfl (by decide) (by decide) (b := b) (k := k) (c := c) (q := fun j => [.int .i64 (m.getD j 0)]) (fun j hj o v hv => by
      cases o with
      | zero =>
        simp only [List.getElem?_cons_zero, Option.some.injEq] at hv
        subst hv
        rw [Nat.mul_one, Nat.add_zero]
        exact hcell j (by omega)
      | succ o => simp at hv) (fun _ _ => rfl) (fun _ _ v hv => by
      rw [List.mem_singleton] at hv
      subst hv; rfl) (by omega)
    obtain ⟨a', c', e, _, _⟩ := hrow.form
    subst e
    refine ⟨a', c', W', fun _ => hrun, ?_, Touch.grown hg (fun k hk => hk), fun j hj => ?_⟩
    · unfold RowI
      rw [List.length_append, ← hkm]
      refine hrow.congr fun j hj => ?_
      unfold numR
      by_cases hjn : j < l.length
      · simp only [if_pos hjn]
        simp [List.getElem?_append_left hjn]
      · simp only [if_neg hjn]
        simp [List.getElem?_append_right (show l.length ≤ j by omega)]
    · rcases hown with e | e
      · left; rw [← e]; exact hj
      · rw [e] at hj; right; have := Option.some.inj hj; omega

theorem RowI.cut {W : World} {b n c k : Nat} {l : List Int} (h : RowI W (.slice (some ⟨b, 0, none⟩) n c) l) (hk : k ≤ n) : RowI W (.slice (some ⟨b, 0, none⟩) k c) (l.take k) := by
  have hn := h.cap.2.2
  subst hn
  have hcut := row_cut (k := k) (show RowF 3 1 W (.slice (some ⟨b, 0, none⟩) l.length c) l.length (numR fun j => l.getD j 0) from h) hk
  have e : (l.take k).length = k := by rw [List.length_take]; omega
  unfold RowI
  rw [e]
  exact RowF.congr hcut fun j hj => by unfold numR; simp [hj]

theorem do_len (A : Lk) (s : Stp) : (A.do s).hd.length + (A.do s).wt.length ≤ A.hd.length + A.wt.length + 1 := by
  unfold Lk.do
  split
  · have := drop_len A s.who; omega
  · exact ask_len A s.who s.mode
theorem play_len (A : Lk) (l : List Stp) : (A.play l).hd.length + (A.play l).wt.length ≤ A.hd.length + A.wt.length + l.length := by
  unfold Lk.play
  induction l generalizing A with
  | nil => exact Nat.le_refl _
  | cons s l ih =>
    rw [List.foldl_cons]
    have h1 := ih (A.do s)
    have h2 := do_len A s
    simp only [List.length_cons]
    omega

end Go.Proofs.Ytjjhmfpdbjflmaa
