/-
  Rows appended to rows, at any place; put (stage 14).
-/
import Derived.Test.YtjjhmfpdbjflmaaPRk
namespace Go.Proofs.Ytjjhmfpdbjflmaa
open Go.RowKit
set_option linter.unusedVariables false

theorem row_appI {W : World} {s : Value} {l : List Int} (h : RowI W s l) {b off k c : Nat} (m : List Int) (hk : m.length = k) (hq : ∀ (j : Nat) x, m[j]? = some x → W.cell? ⟨b, off + j, none⟩ = some (.int .i64 x)) (hn : l.length + k ≤ 1000000) :
    ∃ a' c' W6, (∀ ty, (Builtin.append_ #[35, 35] ty #[s, .slice (some ⟨b, off, none⟩) k c]).run Try.prog W = .ok (.slice a' (l.length + k) c') W6) ∧ RowI W6 (.slice a' (l.length + k) c') (l ++ m) ∧ Touch (fun j => s.ownBlock = some j) W W6 ∧ ∀ j, Value.ownBlock (.slice a' (l.length + k) c') = some j → s.ownBlock = some j ∨ W.heap.size ≤ j := by
  obtain ⟨i0, hi, hz0, hz1, hz2⟩ := info_parts info_i
  obtain ⟨s', W', hrun, hrow, hg, hown⟩ := RowF.appendO (P := Try.prog) h 35 35 i0 _ 8 Try.underlying35 hi hz0 hz1 hz2 rfl (by decide) (by decide) (b := b) (off := off) (k := k) (c := c) (q := fun j => [.int .i64 (m.getD j 0)]) (fun j hj o v hv => by
    cases o with
    | zero =>
      simp only [List.getElem?_cons_zero, Option.some.injEq] at hv
      subst hv
      rw [Nat.mul_one, Nat.add_zero]
      refine hq j _ ?_
      simp [show j < m.length by omega]
    | succ o => simp at hv) (fun _ _ => rfl) (fun _ _ v hv => by
    rw [List.mem_singleton] at hv
    subst hv; rfl) (by omega)
  obtain ⟨a', c', e, _, _⟩ := hrow.form
  subst e
  refine ⟨a', c', W', fun _ => hrun, ?_, Touch.grown hg (fun k hk => hk), fun j hj => ?_⟩
  · unfold RowI
    rw [List.length_append, hk]
    refine hrow.congr fun j hj => ?_
    unfold numR
    by_cases hjn : j < l.length
    · simp only [if_pos hjn]
      simp [List.getElem?_append_left hjn]
    · simp only [if_neg hjn]
      simp [List.getElem?_append_right (show l.length ≤ j by omega)]
  · rcases hown with e | e
    · left; rw [← e]; exact hj
    · rw [e] at hj; right; have := Option.some.inj hj; omega

theorem info_o : (Try.prog.info? 71).map (fun i => (i.zero, i.size, i.bytes)) = some (some (.agg #[.int .i64 0, .int .u16 0, .int .u8 0]), 3, 16) := by kernel_rfl

theorem row_appO {kk : Bool} {W : World} {s : Value} {l : PL} (h : RowO kk W s l) {b off k c : Nat} (m : PL) (hk : m.length = k) (hq : ∀ (j : Nat) p, m[j]? = some p → ∀ o v, (eO kk p)[o]? = some v → W.cell? ⟨b, off + (j * 3 + o), none⟩ = some v) (hn : l.length + k ≤ 1000000) :
    ∃ a' c' W6, (∀ ty, (Builtin.append_ #[59, 59] ty #[s, .slice (some ⟨b, off, none⟩) k c]).run Try.prog W = .ok (.slice a' (l.length + k) c') W6) ∧ RowO kk W6 (.slice a' (l.length + k) c') (l ++ m) ∧ Touch (fun j => s.ownBlock = some j) W W6 ∧ ∀ j, Value.ownBlock (.slice a' (l.length + k) c') = some j → s.ownBlock = some j ∨ W.heap.size ≤ j := by
  obtain ⟨i0, hi, hz0, hz1, hz2⟩ := info_parts info_o
  obtain ⟨s', W', hrun, hrow, hg, hown⟩ := RowF.appendO (P := Try.prog) h 59 59 i0 _ 16 Try.underlying59 hi hz0 hz1 hz2 rfl (by decide) (by decide) (b := b) (off := off) (k := k) (c := c) (q := fun j => eO kk (m.getD j (0, 0))) (fun j hj o v hv => by
    refine hq j (m.getD j (0, 0)) ?_ o v hv
    simp [show j < m.length by omega]) (fun _ _ => rfl) (fun _ _ v hv => by
    simp only [eO, List.mem_cons, List.not_mem_nil, or_false] at hv
    rcases hv with rfl | rfl | rfl <;> rfl) (by omega)
  obtain ⟨a', c', e, _, _⟩ := hrow.form
  subst e
  refine ⟨a', c', W', fun _ => hrun, ?_, Touch.grown hg (fun k hk => hk), fun j hj => ?_⟩
  · unfold RowO
    rw [List.length_append, hk]
    refine hrow.congr fun j hj => ?_
    by_cases hjn : j < l.length
    · simp only [if_pos hjn]
      simp [List.getElem?_append_left hjn]
    · simp only [if_neg hjn]
      simp [List.getElem?_append_right (show l.length ≤ j by omega)]
  · rcases hown with e | e
    · left; rw [← e]; exact hj
    · rw [e] at hj; right; have := Option.some.inj hj; omega
theorem row_app0 {kk : Bool} {W : World} {s : Value} {l : PL} (h : RowO kk W s l) (ty : TypeId) : (Builtin.append_ #[59, 59] ty #[s, .slice none 0 0]).run Try.prog W = .ok s W := by
  obtain ⟨i0, hi, hz0, hz1, hz2⟩ := info_parts info_o
  exact RowF.append0 h 59 ty i0 Try.underlying59 hi

theorem putR_pre {n : Int} {post : List Int} : ∀ {pre : List Int}, (∀ y ∈ pre, y < n) → putR (pre ++ post) n = pre ++ putR post n
  | [], _ => rfl
  | y :: pre, h => by
    rw [List.cons_append, List.cons_append, ← putR_pre (fun z hz => h z (List.mem_cons_of_mem _ hz))]
    show (if y < n then y :: putR (pre ++ post) n else if y = n then y :: (pre ++ post) else n :: y :: (pre ++ post)) = _
    rw [if_pos (h y List.mem_cons_self)]
theorem putR_end {n : Int} {l : List Int} (h : ∀ y ∈ l, y < n) : putR l n = l ++ [n] := by
  have := putR_pre (post := []) h
  rw [List.append_nil] at this
  exact this
theorem putR_has {n : Int} {l : List Int} {i : Nat} (h : ∀ j : Nat, j < i → ∀ y, l[j]? = some y → y < n) (hi : l[i]? = some n) : putR l n = l := by
  obtain ⟨h1, h2⟩ := List.getElem?_eq_some_iff.1 hi
  have e : l = l.take i ++ n :: l.drop (i + 1) := by rw [← h2, ← List.drop_eq_getElem_cons h1, List.take_append_drop]
  have hp : ∀ y ∈ l.take i, y < n := fun y hy => by
    obtain ⟨j, hj⟩ := List.getElem?_of_mem hy
    rw [List.getElem?_take] at hj
    split at hj
    · exact h j (by assumption) y hj
    · cases hj
  rw [e, putR_pre hp]
  simp [putR]
theorem putR_mid {n : Int} {l : List Int} {i : Nat} (h : ∀ j : Nat, j < i → ∀ y, l[j]? = some y → y < n) (hi : ∀ y, l[i]? = some y → n < y) : putR l n = (l.take i ++ [n]) ++ l.drop i := by
  have hp : ∀ y ∈ l.take i, y < n := fun y hy => by
    obtain ⟨j, hj⟩ := List.getElem?_of_mem hy
    rw [List.getElem?_take] at hj
    split at hj
    · exact h j (by assumption) y hj
    · cases hj
  conv => lhs; rw [← List.take_append_drop i l]
  rw [putR_pre hp]
  cases hd : l.drop i with
  | nil => simp [putR]
  | cons y r =>
    have : l[i]? = some y := by
      have := congrArg (fun l => l[0]?) hd
      simpa using this
    have := hi y this
    unfold putR
    rw [if_neg (by omega), if_neg (by omega), List.append_assoc]
    rfl

theorem put_build {W : World} {b n c i off : Nat} {l : List Int} (h : RowI W (.slice (some ⟨b, 0, none⟩) n c) l) (hin : i ≤ n) (hn : n ≤ 500000) (x : Int) (hoff : i < n → off = i) :
    ∃ a1 c1 W2 a2 c2 W4 a3 c3 W6, (∀ ty, (Builtin.append_ #[35, 35] ty #[.slice (some ⟨W.heap.size, 0, none⟩) 0 0, .slice (some ⟨b, 0, none⟩) i c]).run Try.prog (W.alloc (.cells #[] 3)) = .ok (.slice a1 i c1) W2) ∧
      (∀ ty, (Builtin.append_ #[35, 35] ty #[.slice a1 i c1, .slice (some ⟨W2.heap.size, 0, none⟩) 1 1]).run Try.prog (W2.alloc (.cells #[.int .i64 x] 3)) = .ok (.slice a2 (i + 1) c2) W4) ∧
      (∀ ty, (Builtin.append_ #[35, 35] ty #[.slice a2 (i + 1) c2, .slice (some ⟨b, off, none⟩) (n - i) (c - i)]).run Try.prog W4 = .ok (.slice a3 (n + 1) c3) W6) ∧
      RowI W6 (.slice a3 (n + 1) c3) ((l.take i ++ [x]) ++ l.drop i) ∧ (∀ k, Value.ownBlock (.slice a3 (n + 1) c3) = some k → W.heap.size ≤ k) ∧ Below W.heap.size W W6 := by
  have hln := h.cap.2.2
  have hb1 := Below.allocs W (.cells #[] 3)
  have h0 : RowI (W.alloc (.cells #[] 3)) (.slice (some ⟨W.heap.size, 0, none⟩) 0 0) [] := lit_rowI W [] 0 rfl (Nat.zero_le _)
  obtain ⟨a1, c1, W2, r1, q1, t1, o1⟩ := row_app h0 (RowI.cut (RowF.below h hb1) hin) (by simp; omega)
  simp only [List.length_nil, Nat.zero_add, List.nil_append] at r1 q1 o1
  have hs1 : W.heap.size ≤ (W.alloc (.cells #[] 3)).heap.size := hb1.size
  have hb2 : Below W.heap.size W W2 := hb1.trans (t1.below (fun j hj => by have e : W.heap.size = j := Option.some.inj hj; omega) hs1)
  have e1 : (l.take i).length = i := by rw [List.length_take]; omega
  have ha3 := Below.allocs W2 (.cells #[.int .i64 x] 3)
  have h1 : RowI (W2.alloc (.cells #[.int .i64 x] 3)) (.slice (some ⟨W2.heap.size, 0, none⟩) 1 1) [x] := lit_rowI W2 [x] 1 rfl (by unfold maxLen; omega)
  obtain ⟨a2, c2, W4, r2, q2, t2, o2⟩ := row_app (RowF.below q1 ha3) h1 (by rw [e1]; omega)
  rw [e1] at r2 q2 o2
  have hown1 : ∀ j, Value.ownBlock (.slice a1 i c1) = some j → W.heap.size ≤ j := fun j hj => by
    rcases o1 j hj with e | e
    · have e : W.heap.size = j := Option.some.inj e
      omega
    · omega
  have hs2 := hb2.size
  have hb3 : Below W.heap.size W (W2.alloc (.cells #[.int .i64 x] 3)) := below_tr hb2 ha3
  have hb4 : Below W.heap.size W W4 := hb3.trans (t2.below (fun j hj => hown1 j hj) hb3.size)
  have hown2 : ∀ j, Value.ownBlock (.slice a2 (i + 1) c2) = some j → W.heap.size ≤ j := fun j hj => by
    rcases o2 j hj with e | e
    · exact hown1 j e
    · have := hb3.size; omega
  have hr4 := RowF.below h hb4
  have e2 : (l.take i ++ [x]).length = i + 1 := by rw [List.length_append, e1]; rfl
  obtain ⟨a3, c3, W6, r3, q3, t3, o3⟩ := row_appI (off := off) (c := c - i) q2 (l.drop i) (k := n - i) (by rw [List.length_drop]; omega) (fun j y hj => by
    have hj2 : l[i + j]? = some y := by rw [List.getElem?_drop] at hj; exact hj
    have hlt : i < n := by have := (List.getElem?_eq_some_iff.1 hj2).1; omega
    rw [hoff hlt]
    exact (RowI.cell hr4 hj2).2) (by rw [e2]; omega)
  rw [e2, show i + 1 + (n - i) = n + 1 by omega] at r3 q3 o3
  refine ⟨a1, c1, W2, a2, c2, W4, a3, c3, W6, r1, r2, r3, q3, fun k hk => ?_, hb4.trans (t3.below (fun j hj => hown2 j hj) hb4.size)⟩
  rcases o3 k hk with e | e
  · exact hown2 k e
  · have := hb4.size; omega


end Go.Proofs.Ytjjhmfpdbjflmaa
