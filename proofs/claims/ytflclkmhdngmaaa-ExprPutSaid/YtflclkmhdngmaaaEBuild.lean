/-
  The makers of expressions and values in the laws of package expr, and what they ask of Eval (is, fails).
-/
import Derived.Test.YtflclkmhdngmaaaEEval
namespace Go.Proofs.Ytflclkmhdngmaaa
open Go.RowKit

/-- The same expression, but for where its Args lie. -/
def Same : Ex → Ex → Prop
  | .nil, T => T.op = 0 ∧ T.v = Val.zero ∧ T.m = 0 ∧ T.len = 0
  | .node op v m _ len _ kid, T => op = T.op ∧ v = T.v ∧ m = T.m ∧ len = T.len ∧ ∀ i, i < len → Same (kid i) (T.kid i)

theorem same_iff {e T : Ex} : Same e T ↔ e.op = T.op ∧ e.v = T.v ∧ e.m = T.m ∧ e.len = T.len ∧ ∀ i, i < e.len → Same (e.kid i) (T.kid i) := by
  cases e
  · exact ⟨fun ⟨a, b, c, d⟩ => ⟨a.symm, b.symm, c.symm, d.symm, fun i h => absurd h (Nat.not_lt_zero _)⟩, fun ⟨a, b, c, d, _⟩ => ⟨a.symm, b.symm, c.symm, d.symm⟩⟩
  · exact Iff.rfl

theorem Same.refl : ∀ e : Ex, Same e e := by
  intro e
  induction e using Ex.ind with
  | h e ih => exact same_iff.2 ⟨rfl, rfl, rfl, rfl, fun i hi => ih i hi⟩

theorem sumTo_congr {f g : Nat → Nat} {n : Nat} (h : ∀ i, i < n → f i = g i) : sumTo f n = sumTo g n := by
  induction n with
  | zero => rfl
  | succ n ih => simp only [sumTo]; rw [ih (fun i hi => h i (by omega)), h n (by omega)]
theorem maxTo_congr {f g : Nat → Nat} {n : Nat} (h : ∀ i, i < n → f i = g i) : maxTo f n = maxTo g n := by
  induction n with
  | zero => rfl
  | succ n ih => simp only [maxTo]; rw [ih (fun i hi => h i (by omega)), h n (by omega)]
theorem allTo_congr {f g : Nat → Bool} {n : Nat} (h : ∀ i, i < n → f i = g i) : allTo f n = allTo g n := by
  induction n with
  | zero => rfl
  | succ n ih => simp only [allTo]; rw [ih (fun i hi => h i (by omega)), h n (by omega)]

theorem Same.sz {e T : Ex} (h : Same e T) : e.sz = T.sz := by
  induction e using Ex.ind generalizing T with
  | h e ih =>
    obtain ⟨_, _, _, hl, hk⟩ := same_iff.1 h
    rw [Ex.sz_eq, Ex.sz_eq, hl, sumTo_congr (fun i hi => ih i (by omega) (hk i (by omega)))]
theorem Same.dp {e T : Ex} (h : Same e T) : e.dp = T.dp := by
  induction e using Ex.ind generalizing T with
  | h e ih =>
    obtain ⟨_, _, _, hl, hk⟩ := same_iff.1 h
    rw [Ex.dp_eq, Ex.dp_eq, hl, maxTo_congr (fun i hi => ih i (by omega) (hk i (by omega)))]
theorem Same.formed {e T : Ex} (h : Same e T) (mv : Val → Bool) (has : Int → Bool) : formedB mv has e = formedB mv has T := by
  obtain ⟨ho, hv, hm, hl, _⟩ := same_iff.1 h
  unfold formedB
  rw [ho, hv, hm, hl]
theorem Same.ok {e T : Ex} (h : Same e T) (mv : Val → Bool) (has : Int → Bool) : okB mv has e = okB mv has T := by
  unfold okB
  induction e using Ex.ind generalizing T with
  | h e ih =>
    obtain ⟨_, _, _, hl, hk⟩ := same_iff.1 h
    rw [Ex.allB_eq, Ex.allB_eq, h.formed, hl, allTo_congr (fun i hi => ih i (by omega) (hk i (by omega)))]
theorem Same.valid {e T : Ex} (h : Same e T) (mv : Val → Bool) (has : Int → Bool) : validB mv has e = validB mv has T := by
  unfold validB; rw [h.sz, h.dp, h.ok]

theorem ok_node {mv : Val → Bool} {has : Int → Bool} {e : Ex} (h : okB mv has e = true) : formedB mv has e = true ∧ e.len = arity e.op ∧ ∀ i, i < e.len → okB mv has (e.kid i) = true := by
  unfold okB at h
  rw [Ex.allB_eq, Bool.and_eq_true, allTo_iff] at h
  refine ⟨h.1, ?_, h.2⟩
  have := h.1
  unfold formedB at this
  rw [Bool.and_eq_true, decide_eq_true_eq] at this
  exact this.1

/-- What an expression comes to hangs on the values at the row's columns alone. -/
theorem foldV_congr {r r' : Rw} (hl : r.len = r'.len) (hv : ∀ i, i < r.len → r.vals i = r'.vals i) : ∀ {e T : Ex}, okB mayV (hasBelow r.len) e = true → Same e T → foldV r e = foldV r' T := by
  intro e
  induction e using Ex.ind with
  | h e ih =>
    intro T hok hs
    obtain ⟨hf, hle, hk⟩ := ok_node hok
    obtain ⟨ho, hve, hm, hlen, hks⟩ := same_iff.1 hs
    have a2 := arity_le e.op
    rw [foldV_eq r e, foldV_eq r' T, ← ho]
    by_cases h0 : arity e.op = 0
    · rw [if_pos h0, if_pos h0]
      have : leafV r e = leafV r' T := by
        unfold leafV
        rw [← ho, ← hm, ← hve]
        by_cases h2 : e.op = 2
        · rw [if_pos h2, if_pos h2]
          unfold formedB at hf
          rw [Bool.and_eq_true, if_neg (by omega), if_pos h2, Bool.and_eq_true] at hf
          have := hf.2.2
          simp only [hasBelow, Bool.and_eq_true, decide_eq_true_eq] at this
          exact hv _ (by omega)
        · rw [if_neg h2, if_neg h2]
      rw [this]
    · have e0 := ih 0 (by omega) (hk 0 (by omega)) (hks 0 (by omega))
      by_cases h1 : arity e.op = 1
      · rw [if_neg h0, if_neg h0, if_pos h1, if_pos h1, e0]
      · have e1 := ih 1 (by omega) (hk 1 (by omega)) (hks 1 (by omega))
        rw [if_neg h0, if_neg h0, if_neg h1, if_neg h1, e0, e1]

theorem evalR_congr {r r' : Rw} (hl : r.len = r'.len) (hv : ∀ i, i < r.len → r.vals i = r'.vals i) {e T : Ex} (hs : Same e T) : evalR r e = evalR r' T := by
  unfold evalR
  rw [hs.valid, hl]
  by_cases h : validB mayV (hasBelow r'.len) T = true
  · rw [if_pos h, if_pos h]
    refine foldV_congr hl hv ?_ hs
    rw [← hs.valid, ← hl] at h
    unfold validB at h
    rw [Bool.and_eq_true, Bool.and_eq_true] at h
    exact h.2.2
  · rw [if_neg h, if_neg h]

/-- Rows that read the same. -/
structure SameR (r r' : Rw) : Prop where
  len : r.len = r'.len
  vals : ∀ i, i < r.len → r.vals i = r'.vals i

def noKid : Nat → Ex := fun _ => .nil
def mkLit (v : Val) : Ex := .node 1 v 0 none 0 0 noKid
def mkCol (n : Int) : Ex := .node 2 Val.zero n none 0 0 noKid
def mk1 (op : Int) (a : Ex) : Ex := .node op Val.zero 0 none 1 1 fun _ => a
def mk2 (op : Int) (a b : Ex) : Ex := .node op Val.zero 0 none 2 2 fun i => if i = 0 then a else b

/-- A value that is an expression like T, which lies in memory. -/
def IsE (T : Ex) (w : World) (v : Value) : Prop := ∃ e : Ex, v = .agg #[.int .u8 e.op, .int .u8 e.v.k, .int .i64 e.v.n, .int .i64 e.v.u, .string e.v.t, .int .i64 e.m, .slice e.a e.len e.cap] ∧ e.In w ∧ Same e T
/-- A slice of so many expressions. -/
def IsS (n : Nat) (T : Nat → Ex) (w : World) (v : Value) : Prop := ∃ (b : Nat) (x : Nat → Ex), v = .slice (some ⟨b, 0, none⟩) n n ∧ ∀ i, i < n → AtE w b (i * 7) (x i) ∧ (x i).In w ∧ Same (x i) (T i)
/-- A slice of values, which lies in memory. -/
def IsR (n : Nat) (T : Nat → Val) (w : World) (v : Value) : Prop := ∃ r : Rw, v = .slice r.a r.len r.cap ∧ r.In w ∧ r.len = n ∧ ∀ i, i < n → r.vals i = T i

theorem IsE.below {T : Ex} {w w' : World} {v : Value} (hb : Below w.heap.size w w') (h : IsE T w v) : IsE T w' v := by
  obtain ⟨e, h1, h2, h3⟩ := h; exact ⟨e, h1, h2.below hb, h3⟩
theorem IsS.below {n : Nat} {T : Nat → Ex} {w w' : World} {v : Value} (hb : Below w.heap.size w w') (h : IsS n T w v) : IsS n T w' v := by
  obtain ⟨b, x, h1, h2⟩ := h; exact ⟨b, x, h1, fun i hi => ⟨(h2 i hi).1.below hb, (h2 i hi).2.1.below hb, (h2 i hi).2.2⟩⟩
theorem IsR.below {n : Nat} {T : Nat → Val} {w w' : World} {v : Value} (hb : Below w.heap.size w w') (h : IsR n T w v) : IsR n T w' v := by
  obtain ⟨r, h1, h2, h3⟩ := h; exact ⟨r, h1, h2.below hb, h3⟩

theorem wf_lit {v : Val} (h : v.wf) : (mkLit v).wf :=
  ⟨(by decide : (0 : Int) ≤ 1), (by decide : (1 : Int) ≤ 255), (by decide : I64 0), h.k0, h.k1, h.n, h.u, Nat.le_trans h.t (by decide), Nat.le_refl 0, Nat.zero_le _⟩
theorem in_lit {v : Val} (h : v.wf) (w : World) : (mkLit v).In w := Ex.in_iff.2 ⟨wf_lit h, fun hl => absurd hl (Nat.not_lt_zero _), fun _ hi => absurd hi (Nat.not_lt_zero _)⟩
theorem in_col {n : Int} (h : I64 n) (w : World) : (mkCol n).In w :=
  Ex.in_iff.2 ⟨⟨(by decide : (0 : Int) ≤ 2), (by decide : (2 : Int) ≤ 255), h, (by decide : (0 : Int) ≤ 0), (by decide : (0 : Int) ≤ 255), (by decide : I64 0), (by decide : I64 0), Nat.zero_le _, Nat.le_refl 0, Nat.zero_le _⟩, fun hl => absurd hl (Nat.not_lt_zero _), fun i hi => absurd hi (Nat.not_lt_zero _)⟩

/-- A new slice of one expression; of two. -/
theorem isS1_new (w : World) (a A : Ex) (ha : a.In w) (hs : Same a A) : IsS 1 (fun _ => A) (w.alloc (.cells #[.int .u8 a.op, .int .u8 a.v.k, .int .i64 a.v.n, .int .i64 a.v.u, .string a.v.t, .int .i64 a.m, .slice a.a a.len a.cap] 26)) (.slice (some ⟨w.heap.size, 0, none⟩) 1 1) := by
  refine ⟨_, fun _ => a, rfl, fun i hi => ?_⟩
  obtain rfl : i = 0 := by omega
  exact ⟨BoxE.new w a, ha.below (Below.allocs _ _), hs⟩

theorem isS2_new (w : World) (a A b B : Ex) (ha : a.In w) (hs : Same a A) (hb : b.In w) (ht : Same b B) :
    IsS 2 (fun i => if i = 0 then A else B) (w.alloc (.cells #[.int .u8 a.op, .int .u8 a.v.k, .int .i64 a.v.n, .int .i64 a.v.u, .string a.v.t, .int .i64 a.m, .slice a.a a.len a.cap, .int .u8 b.op, .int .u8 b.v.k, .int .i64 b.v.n, .int .i64 b.v.u, .string b.v.t, .int .i64 b.m, .slice b.a b.len b.cap] 26)) (.slice (some ⟨w.heap.size, 0, none⟩) 2 2) := by
  refine ⟨_, fun i => if i = 0 then a else b, rfl, fun i hi => ?_⟩
  have hal := Below.allocs w (.cells #[.int .u8 a.op, .int .u8 a.v.k, .int .i64 a.v.n, .int .i64 a.v.u, .string a.v.t, .int .i64 a.m, .slice a.a a.len a.cap, .int .u8 b.op, .int .u8 b.v.k, .int .i64 b.v.n, .int .i64 b.v.u, .string b.v.t, .int .i64 b.m, .slice b.a b.len b.cap] 26)
  by_cases h : i = 0
  · subst h
    refine ⟨⟨?_, ?_, ?_, ?_, ?_, ?_, ?_, by simp⟩, ha.below hal, hs⟩ <;> go_simp
  · obtain rfl : i = 1 := by omega
    refine ⟨⟨?_, ?_, ?_, ?_, ?_, ?_, ?_, by simp⟩, hb.below hal, ht⟩ <;> go_simp

theorem isR1_new (w : World) (v : Val) (hv : v.wf) : IsR 1 (fun _ => v) (w.alloc (.cells #[.int .u8 v.k, .int .i64 v.n, .int .i64 v.u, .string v.t] 23)) (.slice (some ⟨w.heap.size, 0, none⟩) 1 1) := by
  refine ⟨⟨some ⟨w.heap.size, 0, none⟩, 1, 1, fun _ => v⟩, rfl, ⟨Nat.le_refl _, (by decide : 1 ≤ maxLen), fun _ => ⟨_, 0, rfl, fun i hi => ?_⟩, fun _ _ => hv⟩, rfl, fun _ _ => rfl⟩
  obtain rfl : i = 0 := by have : i < 1 := hi; omega
  refine ⟨?_, ?_, ?_, ?_, by simp⟩ <;> go_simp

theorem isR0 (T : Nat → Val) (w : World) : IsR 0 T w (.slice none 0 0) :=
  ⟨⟨none, 0, 0, T⟩, rfl, ⟨Nat.le_refl _, Nat.zero_le _, fun h => absurd h (Nat.not_lt_zero _), fun _ hi => absurd hi (Nat.not_lt_zero _)⟩, rfl, fun _ _ => rfl⟩

set_option maxHeartbeats 400000 in
theorem number_is (n : Int) (w : World) : Calls Try.prog 18 #[.int .i64 n] w fun x w' => x = .returned (.agg #[.int .u8 1, .int .i64 n, .int .i64 0, .string ⟨#[]⟩]) ∧ Below w.heap.size w w' := by
  go_enter Try.func18, Try.ntmps18
  go_wp2_with fail
  exact bodyPost_ret (v := .agg #[.int .u8 1, .int .i64 n, .int .i64 0, .string ⟨#[]⟩]) (by simp [results, Try.results18, go_sem]) rfl ⟨rfl, Below.allocs _ _⟩

set_option maxHeartbeats 400000 in
theorem truth_is (n : Int) (w : World) : Calls Try.prog 15 #[.int .i64 n] w fun x w' => x = .returned (.agg #[.int .u8 2, .int .i64 n, .int .i64 0, .string ⟨#[]⟩]) ∧ Below w.heap.size w w' := by
  go_enter Try.func15, Try.ntmps15
  go_wp2_with fail
  exact bodyPost_ret (v := .agg #[.int .u8 2, .int .i64 n, .int .i64 0, .string ⟨#[]⟩]) (by simp [results, Try.results15, go_sem]) rfl ⟨rfl, Below.allocs _ _⟩

set_option maxHeartbeats 400000 in
theorem span_is (n u : Int) (w : World) : Calls Try.prog 28 #[.int .i64 n, .int .i64 u] w fun x w' => x = .returned (.agg #[.int .u8 4, .int .i64 n, .int .i64 u, .string ⟨#[]⟩]) ∧ Below w.heap.size w w' := by
  go_enter Try.func28, Try.ntmps28
  go_wp2_with fail
  exact bodyPost_ret (v := .agg #[.int .u8 4, .int .i64 n, .int .i64 u, .string ⟨#[]⟩]) (by simp [results, Try.results28, go_sem]) rfl ⟨rfl, Below.allocs _ _⟩

set_option maxHeartbeats 400000 in
theorem col_is (n : Int) (w : World) : Calls Try.prog 24 #[.int .i64 n] w fun x w' => x = .returned (.agg #[.int .u8 2, .int .u8 0, .int .i64 0, .int .i64 0, .string ⟨#[]⟩, .int .i64 n, .slice none 0 0]) ∧ Below w.heap.size w w' := by
  go_enter Try.func24, Try.ntmps24
  go_wp2_with fail
  exact bodyPost_ret (v := .agg #[.int .u8 2, .int .u8 0, .int .i64 0, .int .i64 0, .string ⟨#[]⟩, .int .i64 n, .slice none 0 0]) (by simp [results, Try.results24, go_sem]) rfl ⟨rfl, Below.allocs _ _⟩

set_option maxHeartbeats 400000 in
theorem ofraw_is (op : Int) (a : Option Addr) (n c : Nat) (w : World) : Calls Try.prog 20 #[.int .u8 op, .slice a n c] w fun x w' => x = .returned (.agg #[.int .u8 op, .int .u8 0, .int .i64 0, .int .i64 0, .string ⟨#[]⟩, .int .i64 0, .slice a n c]) ∧ Below w.heap.size w w' := by
  go_enter Try.func20, Try.ntmps20
  go_wp2_with fail
  exact bodyPost_ret (v := .agg #[.int .u8 op, .int .u8 0, .int .i64 0, .int .i64 0, .string ⟨#[]⟩, .int .i64 0, .slice a n c]) (by simp [results, Try.results20, go_sem]) rfl ⟨rfl, Below.allocs _ _⟩

set_option maxHeartbeats 400000 in
theorem lit_is (k n u : Int) (t : ByteArray) (w : World) : Calls Try.prog 25 #[.agg #[.int .u8 k, .int .i64 n, .int .i64 u, .string t]] w fun x w' => x = .returned (.agg #[.int .u8 1, .int .u8 k, .int .i64 n, .int .i64 u, .string t, .int .i64 0, .slice none 0 0]) ∧ Below w.heap.size w w' := by
  have hb : Below w.heap.size w ((w.alloc (.cells #[.int .u8 k, .int .i64 n, .int .i64 u, .string t] 23)).alloc (.cells #[.int .u8 1, .int .u8 k, .int .i64 n, .int .i64 u, .string t, .int .i64 0, .slice none 0 0] 26)) := ((Below.refl _ _).alloc (Nat.le_refl _) _).alloc (by simp) _
  have HB := Lib.hid hb
  clear hb
  go_enter Try.func25, Try.ntmps25
  go_wp2_with fail
  exact bodyPost_ret (v := .agg #[.int .u8 1, .int .u8 k, .int .i64 n, .int .i64 u, .string t, .int .i64 0, .slice none 0 0]) (by simp [results, Try.results25, go_sem]) rfl ⟨rfl, HB.out⟩

/-- of: an operation of one Arg; of two. -/
theorem of1_is (op : Int) (h0 : 0 ≤ op) (h1 : op ≤ 255) (T : Nat → Ex) (v : Value) (w : World) (hv : IsS 1 T w v) : Calls Try.prog 20 #[.int .u8 op, v] w fun x w' => ∃ u, x = .returned u ∧ Below w.heap.size w w' ∧ IsE (mk1 op (T 0)) w' u := by
  obtain ⟨b, x, rfl, hx⟩ := hv
  refine (ofraw_is op (some ⟨b, 0, none⟩) 1 1 w).mono fun _ _ ⟨he, hb⟩ => ⟨_, he, hb, .node op Val.zero 0 (some ⟨b, 0, none⟩) 1 1 x, rfl, Ex.in_iff.2 ⟨⟨h0, h1, (by decide : I64 0), (by decide : (0 : Int) ≤ 0), (by decide : (0 : Int) ≤ 255), (by decide : I64 0), (by decide : I64 0), Nat.zero_le _, Nat.le_refl 1, (by decide : 1 ≤ maxLen)⟩, fun _ => ⟨b, 0, rfl, fun i hi => ?_⟩, fun i hi => (hx i hi).2.1.below hb⟩, same_iff.2 ⟨rfl, rfl, rfl, rfl, fun i hi => ?_⟩⟩
  · have := (hx i hi).1.below hb
    rwa [Nat.zero_add]
  · obtain rfl : i = 0 := by have : i < 1 := hi; omega
    exact (hx 0 hi).2.2

theorem of2_is (op : Int) (h0 : 0 ≤ op) (h1 : op ≤ 255) (T : Nat → Ex) (v : Value) (w : World) (hv : IsS 2 T w v) : Calls Try.prog 20 #[.int .u8 op, v] w fun x w' => ∃ u, x = .returned u ∧ Below w.heap.size w w' ∧ IsE (mk2 op (T 0) (T 1)) w' u := by
  obtain ⟨b, x, rfl, hx⟩ := hv
  refine (ofraw_is op (some ⟨b, 0, none⟩) 2 2 w).mono fun _ _ ⟨he, hb⟩ => ⟨_, he, hb, .node op Val.zero 0 (some ⟨b, 0, none⟩) 2 2 x, rfl, Ex.in_iff.2 ⟨⟨h0, h1, (by decide : I64 0), (by decide : (0 : Int) ≤ 0), (by decide : (0 : Int) ≤ 255), (by decide : I64 0), (by decide : I64 0), Nat.zero_le _, Nat.le_refl 2, (by decide : 2 ≤ maxLen)⟩, fun _ => ⟨b, 0, rfl, fun i hi => ?_⟩, fun i hi => (hx i hi).2.1.below hb⟩, same_iff.2 ⟨rfl, rfl, rfl, rfl, fun i hi => ?_⟩⟩
  · have := (hx i hi).1.below hb
    rwa [Nat.zero_add]
  · have h2 : i < 2 := hi
    by_cases h : i = 0
    · subst h; exact (hx 0 hi).2.2
    · obtain rfl : i = 1 := by omega
      exact (hx 1 hi).2.2
end Go.Proofs.Ytflclkmhdngmaaa
