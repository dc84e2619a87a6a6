/-
  Why ExprTruths is true: what comes of Not, And, Or of two expressions over one row. Plain mathematics.
-/
import Derived.Test.YtflclkmhdngmaaaEBuild
namespace Go.Proofs.Ytflclkmhdngmaaa
open Go.RowKit

theorem sz_mk1 (op : Int) (a : Ex) : (mk1 op a).sz = 1 + a.sz := by rw [Ex.sz_eq]; show 1 + (0 + a.sz) = _; omega
theorem sz_mk2 (op : Int) (a b : Ex) : (mk2 op a b).sz = 1 + a.sz + b.sz := by rw [Ex.sz_eq]; show 1 + (0 + a.sz + b.sz) = _; omega
theorem dp_mk1 (op : Int) (a : Ex) : (mk1 op a).dp = a.dp + 1 := by rw [Ex.dp_eq]; show max 0 a.dp + 1 = _; omega
theorem dp_mk2 (op : Int) (a b : Ex) : (mk2 op a b).dp = max a.dp b.dp + 1 := by rw [Ex.dp_eq]; show max (max 0 a.dp) b.dp + 1 = _; omega

theorem ok_mk1 (mv : Val → Bool) (has : Int → Bool) (op : Int) (a : Ex) (h : arity op = 1) (hz : zeroB Val.zero = true := by decide) : okB mv has (mk1 op a) = okB mv has a := by
  have o1 : op ≠ 1 := fun e => by rw [e] at h; revert h; decide
  have o2 : op ≠ 2 := fun e => by rw [e] at h; revert h; decide
  have hf : formedB mv has (mk1 op a) = true := by
    show (decide (1 = arity op) && (if op = 1 then _ else if op = 2 then _ else decide (0 < 1) && (decide ((0 : Int) = 0) && zeroB Val.zero))) = true
    rw [h, if_neg o1, if_neg o2, hz]; rfl
  unfold okB
  rw [Ex.allB_eq, hf]
  show (true && (true && a.allB _)) = _
  rw [Bool.true_and, Bool.true_and]

theorem ok_mk2 (mv : Val → Bool) (has : Int → Bool) (op : Int) (a b : Ex) (h : arity op = 2) (hz : zeroB Val.zero = true := by decide) : okB mv has (mk2 op a b) = (okB mv has a && okB mv has b) := by
  have o1 : op ≠ 1 := fun e => by rw [e] at h; revert h; decide
  have o2 : op ≠ 2 := fun e => by rw [e] at h; revert h; decide
  have hf : formedB mv has (mk2 op a b) = true := by
    show (decide (2 = arity op) && (if op = 1 then _ else if op = 2 then _ else decide (0 < 2) && (decide ((0 : Int) = 0) && zeroB Val.zero))) = true
    rw [h, if_neg o1, if_neg o2, hz]; rfl
  unfold okB
  rw [Ex.allB_eq, hf]
  show (true && (true && a.allB _ && b.allB _)) = _
  rw [Bool.true_and, Bool.true_and]

theorem valid_iff {mv : Val → Bool} {has : Int → Bool} {e : Ex} : validB mv has e = true ↔ e.sz ≤ 64 ∧ e.dp ≤ 16 ∧ okB mv has e = true := by
  unfold validB; simp only [Bool.and_eq_true, decide_eq_true_eq]

theorem fold_mk1 (r : Rw) (op : Int) (a : Ex) (h : arity op = 1) : foldV r (mk1 op a) = if (foldV r a).2 ≠ 0 then foldV r a else appV op (foldV r a).1 Val.zero := by
  rw [foldV_eq]
  show (if arity op = 0 then _ else if (foldV r a).2 ≠ 0 then foldV r a else if arity op = 1 then appV op (foldV r a).1 Val.zero else _) = _
  rw [if_neg (by omega), if_pos h]

theorem fold_mk2 (r : Rw) (op : Int) (a b : Ex) (h : arity op = 2) : foldV r (mk2 op a b) = if (foldV r a).2 ≠ 0 then foldV r a else if (foldV r b).2 ≠ 0 then foldV r b else appV op (foldV r a).1 (foldV r b).1 := by
  rw [foldV_eq]
  show (if arity op = 0 then _ else if (foldV r a).2 ≠ 0 then foldV r a else if arity op = 1 then _ else if (foldV r b).2 ≠ 0 then foldV r b else appV op (foldV r a).1 (foldV r b).1) = _
  rw [if_neg (show ¬ arity op = 0 by omega), if_neg (show ¬ arity op = 1 by omega)]

/-- The errors of a valid expression are two; beside one the result is the zero value. -/
theorem foldV_tidy (r : Rw) : ∀ (e : Ex) {has : Int → Bool}, okB mayV has e = true → ((foldV r e).2 = 0 ∨ (foldV r e).2 = 60 ∨ (foldV r e).2 = 61) ∧ ((foldV r e).2 ≠ 0 → (foldV r e).1 = Val.zero) := by
  intro e
  induction e using Ex.ind with
  | h e ih =>
    intro has hok
    obtain ⟨_, hle, hk⟩ := ok_node hok
    have a2 := arity_le e.op
    have tid : ∀ x y, ((appV e.op x y).2 = 0 ∨ (appV e.op x y).2 = 60 ∨ (appV e.op x y).2 = 61) ∧ ((appV e.op x y).2 ≠ 0 → (appV e.op x y).1 = Val.zero) := fun x y => by
      have t := appR_tidy e.op x y
      refine ⟨t.e, fun h => ?_⟩
      obtain ⟨h1, h2⟩ := t.z h
      show (⟨(appR e.op x y).k, (appR e.op x y).n, 0, ⟨#[]⟩⟩ : Val) = ⟨0, 0, 0, ⟨#[]⟩⟩
      rw [h1, h2]
    rw [foldV_eq]
    by_cases h0 : arity e.op = 0
    · rw [if_pos h0]
      exact ⟨.inl rfl, fun h => absurd rfl h⟩
    · rw [if_neg h0]
      split
      · exact ih 0 (by omega) (hk 0 (by omega))
      · split
        · exact tid _ _
        · split
          · exact ih 1 (by omega) (hk 1 (by omega))
          · exact tid _ _

theorem truths_two (x y : Val) :
    ((if (appV 11 x y).2 ≠ 0 then appV 11 x y else appV 4 (appV 11 x y).1 Val.zero).2 = 0 ∧
      (if (appV 4 x Val.zero).2 ≠ 0 then appV 4 x Val.zero else if (appV 4 y Val.zero).2 ≠ 0 then appV 4 y Val.zero else appV 12 (appV 4 x Val.zero).1 (appV 4 y Val.zero).1).2 = 0 ∧ (appV 12 y x).2 = 0 ∧
      (if (appV 11 x y).2 ≠ 0 then appV 11 x y else appV 4 (appV 11 x y).1 Val.zero).1 =
        (if (appV 4 x Val.zero).2 ≠ 0 then appV 4 x Val.zero else if (appV 4 y Val.zero).2 ≠ 0 then appV 4 y Val.zero else appV 12 (appV 4 x Val.zero).1 (appV 4 y Val.zero).1).1) ∨
    ((if (appV 11 x y).2 ≠ 0 then appV 11 x y else appV 4 (appV 11 x y).1 Val.zero).2 ≠ 0 ∧
      (if (appV 4 x Val.zero).2 ≠ 0 then appV 4 x Val.zero else if (appV 4 y Val.zero).2 ≠ 0 then appV 4 y Val.zero else appV 12 (appV 4 x Val.zero).1 (appV 4 y Val.zero).1).2 ≠ 0 ∧ (appV 12 y x).2 ≠ 0) := by
  have e11 : appV 11 x y = (⟨(connectR x.k x.n y.k y.n false).k, (connectR x.k x.n y.k y.n false).n, 0, ⟨#[]⟩⟩, (connectR x.k x.n y.k y.n false).e) := rfl
  have e12 : appV 12 y x = (⟨(connectR y.k y.n x.k x.n true).k, (connectR y.k y.n x.k x.n true).n, 0, ⟨#[]⟩⟩, (connectR y.k y.n x.k x.n true).e) := rfl
  have e4 : ∀ z : Val, appV 4 z Val.zero = (⟨(notR z.k z.n).k, (notR z.k z.n).n, 0, ⟨#[]⟩⟩, (notR z.k z.n).e) := fun _ => rfl
  have e12' : ∀ z z' : Val, appV 12 z z' = (⟨(connectR z.k z.n z'.k z'.n true).k, (connectR z.k z.n z'.k z'.n true).n, 0, ⟨#[]⟩⟩, (connectR z.k z.n z'.k z'.n true).e) := fun _ _ => rfl
  have cl : ∀ k : Int, k = 0 ∨ k = 2 ∨ (k ≠ 0 ∧ k ≠ 2) := fun k => by omega
  rcases cl x.k with hx | hx | ⟨hx, hx'⟩
  · rcases cl y.k with hy | hy | ⟨hy, hy'⟩
    · left; simp [e11, e12, e4, e12', connectR, notR, fitB, knownB, nullB, yesB, hx, hy, ofN]
    · by_cases ny : y.n = 0 <;> (left; simp [e11, e12, e4, e12', connectR, notR, fitB, knownB, nullB, yesB, hx, hy, ny, ofN])
    · right; simp [e11, e12, e4, connectR, notR, fitB, knownB, nullB, yesB, hx, hy, hy', ofN]
  · rcases cl y.k with hy | hy | ⟨hy, hy'⟩
    · by_cases nx : x.n = 0 <;> (left; simp [e11, e12, e4, e12', connectR, notR, fitB, knownB, nullB, yesB, hx, hy, nx, ofN])
    · by_cases nx : x.n = 0 <;> by_cases ny : y.n = 0 <;> (left; simp [e11, e12, e4, e12', connectR, notR, fitB, knownB, nullB, yesB, hx, hy, nx, ny, ofN])
    · by_cases nx : x.n = 0 <;> (right; simp [e11, e12, e4, connectR, notR, fitB, knownB, nullB, yesB, hx, nx, hy, hy', ofN])
  · right; simp [e11, e12, e4, connectR, notR, fitB, hx, hx']

/-- What the law says of the errors and results of the expressions that it makes. -/
theorem truths_math (r : Rw) (a b : Ex) (hm1 : validB mayV hasAny (mk1 4 (mk2 11 a b)) = true) (hm2 : validB mayV hasAny (mk2 11 (mk1 4 a) (mk1 4 b)) = true) :
    ((evalR r a).2 ≠ 0 → (evalR r (mk1 4 (mk2 11 a b))).2 ≠ 0 ∧ (evalR r (mk2 12 (mk1 4 a) (mk1 4 b))).2 ≠ 0 ∧ (evalR r (mk2 12 b a)).2 ≠ 0 ∧
      ((evalR r (mk1 4 (mk2 11 a b))).2 = (evalR r a).2 ∨ ((evalR r (mk1 4 (mk2 11 a b))).2 ≠ (evalR r a).2 ∧ (evalR r b).2 = 4 ∧ (evalR r (mk1 4 (mk2 11 a b))).2 = 4))) ∧
    ((evalR r a).2 = 0 → (evalR r b).2 ≠ 0 → (evalR r (mk1 4 (mk2 11 a b))).2 ≠ 0 ∧ (evalR r (mk2 12 (mk1 4 a) (mk1 4 b))).2 ≠ 0 ∧ (evalR r (mk2 12 b a)).2 ≠ 0) ∧
    ((evalR r a).2 = 0 → (evalR r b).2 = 0 →
      ((evalR r (mk1 4 (mk2 11 a b))).2 = 0 ∧ (evalR r (mk2 12 (mk1 4 a) (mk1 4 b))).2 = 0 ∧ (evalR r (mk2 12 b a)).2 = 0 ∧ (evalR r (mk1 4 (mk2 11 a b))).1 = (evalR r (mk2 12 (mk1 4 a) (mk1 4 b))).1) ∨
      ((evalR r (mk1 4 (mk2 11 a b))).2 ≠ 0 ∧ (evalR r (mk2 12 (mk1 4 a) (mk1 4 b))).2 ≠ 0 ∧ (evalR r (mk2 12 b a)).2 ≠ 0)) := by
  obtain ⟨s1, d1, o1⟩ := valid_iff.1 hm1
  obtain ⟨s2, d2, o2⟩ := valid_iff.1 hm2
  rw [sz_mk1, sz_mk2] at s1
  rw [dp_mk1, dp_mk2] at d1
  rw [sz_mk2, sz_mk1, sz_mk1] at s2
  rw [dp_mk2, dp_mk1, dp_mk1] at d2
  have ar4 : arity 4 = 1 := by decide
  have ar11 : arity 11 = 2 := by decide
  have ar12 : arity 12 = 2 := by decide
  obtain ⟨A, hA⟩ : ∃ A, okB mayV (hasBelow r.len) a = A := ⟨_, rfl⟩
  obtain ⟨B, hB⟩ : ∃ B, okB mayV (hasBelow r.len) b = B := ⟨_, rfl⟩
  have va : validB mayV (hasBelow r.len) a = A := by
    rw [← hA, Bool.eq_iff_iff, valid_iff]; exact ⟨fun h => h.2.2, fun h => ⟨by omega, by omega, h⟩⟩
  have vb : validB mayV (hasBelow r.len) b = B := by
    rw [← hB, Bool.eq_iff_iff, valid_iff]; exact ⟨fun h => h.2.2, fun h => ⟨by omega, by omega, h⟩⟩
  have v1 : validB mayV (hasBelow r.len) (mk1 4 (mk2 11 a b)) = (A && B) := by
    rw [← hA, ← hB, ← ok_mk2 mayV (hasBelow r.len) 11 a b ar11, ← ok_mk1 mayV (hasBelow r.len) 4 _ ar4, Bool.eq_iff_iff, valid_iff, sz_mk1, sz_mk2, dp_mk1, dp_mk2]
    exact ⟨fun h => h.2.2, fun h => ⟨by omega, by omega, h⟩⟩
  have v2 : validB mayV (hasBelow r.len) (mk2 12 (mk1 4 a) (mk1 4 b)) = (A && B) := by
    rw [← hA, ← hB, ← ok_mk1 mayV (hasBelow r.len) 4 a ar4, ← ok_mk1 mayV (hasBelow r.len) 4 b ar4, ← ok_mk2 mayV (hasBelow r.len) 12 _ _ ar12, Bool.eq_iff_iff, valid_iff, sz_mk2, sz_mk1, sz_mk1, dp_mk2, dp_mk1, dp_mk1]
    exact ⟨fun h => h.2.2, fun h => ⟨by omega, by omega, h⟩⟩
  have v3 : validB mayV (hasBelow r.len) (mk2 12 b a) = (A && B) := by
    rw [← hA, ← hB, Bool.and_comm, ← ok_mk2 mayV (hasBelow r.len) 12 _ _ ar12, Bool.eq_iff_iff, valid_iff, sz_mk2, dp_mk2]
    exact ⟨fun h => h.2.2, fun h => ⟨by omega, by omega, h⟩⟩
  unfold evalR
  rw [va, vb, v1, v2, v3]
  cases A
  · simp only [Bool.false_and, Bool.false_eq_true, if_false]
    refine ⟨fun _ => ⟨by decide, by decide, by decide, .inl trivial⟩, fun h => absurd h (by decide), fun h => absurd h (by decide)⟩
  · cases B
    · simp only [Bool.and_false, Bool.false_eq_true, if_false, if_true]
      have ta := (foldV_tidy r a hA).1
      refine ⟨fun _ => ⟨by decide, by decide, by decide, .inr ⟨?_, trivial, trivial⟩⟩, fun _ _ => ⟨by decide, by decide, by decide⟩, fun _ h => absurd h (by decide)⟩
      show (4 : Int) ≠ (foldV r a).2
      omega
    · simp only [Bool.and_true, if_true]
      rw [fold_mk1 r 4 _ ar4, fold_mk2 r 11 _ _ ar11, fold_mk2 r 12 _ _ ar12, fold_mk2 r 12 _ _ ar12, fold_mk1 r 4 _ ar4, fold_mk1 r 4 _ ar4]
      by_cases fa : (foldV r a).2 = 0
      · refine ⟨fun h => absurd fa h, fun _ fb => ?_, fun _ fb => ?_⟩
        · have na : ¬ (foldV r a).2 ≠ 0 := fun h => h fa
          simp only [if_neg na, if_pos fb]
          refine ⟨fb, ?_, fb⟩
          split
          · assumption
          · exact fb
        · have na : ¬ (foldV r a).2 ≠ 0 := fun h => h fa
          have nb : ¬ (foldV r b).2 ≠ 0 := fun h => h fb
          simp only [if_neg na, if_neg nb]
          obtain ⟨x, hx⟩ : ∃ x, (foldV r a).1 = x := ⟨_, rfl⟩
          obtain ⟨y, hy⟩ : ∃ y, (foldV r b).1 = y := ⟨_, rfl⟩
          rw [hx, hy]
          exact truths_two x y
      · refine ⟨fun _ => ?_, fun h => absurd h fa, fun h => absurd h fa⟩
        simp only [if_pos fa]
        refine ⟨fa, fa, ?_, .inl trivial⟩
        split
        · assumption
        · exact fa
end Go.Proofs.Ytflclkmhdngmaaa
