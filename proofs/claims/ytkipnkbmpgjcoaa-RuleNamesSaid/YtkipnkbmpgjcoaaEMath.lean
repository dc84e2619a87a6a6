/-
  Expressions as trees, and what the document says of them: plain mathematics, which imports nothing of the program.
-/
import Derived.Test.YtkipnkbmpgjcoaaKBase
namespace Go.Proofs.Ytkipnkbmpgjcoaa

/-- An api.Expr with where its Args lie: they go by their index. -/
inductive Ex where
  | nil
  | node (op : Int) (v : Val) (m : Int) (a : Option Addr) (len cap : Nat) (kid : Nat → Ex)

def Ex.op : Ex → Int | .nil => 0 | .node op _ _ _ _ _ _ => op
def Ex.v : Ex → Val | .nil => Val.zero | .node _ v _ _ _ _ _ => v
def Ex.m : Ex → Int | .nil => 0 | .node _ _ m _ _ _ _ => m
def Ex.a : Ex → Option Addr | .nil => none | .node _ _ _ a _ _ _ => a
def Ex.len : Ex → Nat | .nil => 0 | .node _ _ _ _ len _ _ => len
def Ex.cap : Ex → Nat | .nil => 0 | .node _ _ _ _ _ cap _ => cap
def Ex.kid : Ex → Nat → Ex | .nil => fun _ => .nil | .node _ _ _ _ _ _ kid => kid

theorem Ex.ind {p : Ex → Prop} (h : ∀ e, (∀ i, i < e.len → p (e.kid i)) → p e) : ∀ e, p e
  | .nil => h .nil fun _ hi => absurd hi (Nat.not_lt_zero _)
  | .node op v m a len cap kid => h (.node op v m a len cap kid) fun i _ => Ex.ind h (kid i)

def sumTo (f : Nat → Nat) : Nat → Nat
  | 0 => 0
  | n + 1 => sumTo f n + f n

def maxTo (f : Nat → Nat) : Nat → Nat
  | 0 => 0
  | n + 1 => max (maxTo f n) (f n)

def allTo (f : Nat → Bool) : Nat → Bool
  | 0 => true
  | n + 1 => allTo f n && f n

theorem allTo_iff {f : Nat → Bool} {n : Nat} : allTo f n = true ↔ ∀ i, i < n → f i = true := by
  induction n with
  | zero => simp [allTo]
  | succ n ih =>
    simp only [allTo, Bool.and_eq_true, ih]
    exact ⟨fun ⟨h1, h2⟩ i hi => (Nat.lt_succ_iff_lt_or_eq.1 hi).elim (h1 i) (fun h => h ▸ h2), fun h => ⟨fun i hi => h i (by omega), h n (by omega)⟩⟩

theorem sumTo_le {f : Nat → Nat} {n i : Nat} (h : i < n) : f i ≤ sumTo f n := by
  induction n with
  | zero => omega
  | succ n ih =>
    simp only [sumTo]
    rcases Nat.lt_succ_iff_lt_or_eq.1 h with h | rfl
    · have := ih h; omega
    · omega

theorem maxTo_le {f : Nat → Nat} {n i : Nat} (h : i < n) : f i ≤ maxTo f n := by
  induction n with
  | zero => omega
  | succ n ih =>
    simp only [maxTo]
    rcases Nat.lt_succ_iff_lt_or_eq.1 h with h | rfl
    · have := ih h; omega
    · omega

/-- How many parts an expression has; how deep it is. -/
def Ex.sz : Ex → Nat | .nil => 1 | .node _ _ _ _ len _ kid => 1 + sumTo (fun i => (kid i).sz) len
def Ex.dp : Ex → Nat | .nil => 1 | .node _ _ _ _ len _ kid => maxTo (fun i => (kid i).dp) len + 1

theorem Ex.sz_eq (e : Ex) : e.sz = 1 + sumTo (fun i => (e.kid i).sz) e.len := by cases e <;> rfl
theorem Ex.dp_eq (e : Ex) : e.dp = maxTo (fun i => (e.kid i).dp) e.len + 1 := by cases e <;> rfl
theorem Ex.sz_pos (e : Ex) : 1 ≤ e.sz := by rw [Ex.sz_eq]; omega
theorem Ex.dp_pos (e : Ex) : 1 ≤ e.dp := by rw [Ex.dp_eq]; omega

/-- How many Args an Op has. -/
def arity (op : Int) : Nat := if 3 ≤ op ∧ op ≤ 5 then 1 else if 6 ≤ op ∧ op ≤ 13 then 2 else 0

theorem arity_le (op : Int) : arity op ≤ 2 := by unfold arity; split <;> (try split) <;> omega

def bytesZ (t : ByteArray) : Bool := t.toList.isEmpty

def zeroB (v : Val) : Bool := decide (v.k = 0) && (decide (v.n = 0) && (decide (v.u = 0) && decide (v.t.data.toList = [])))

theorem zeroB_iff {v : Val} : zeroB v = true ↔ v = Val.zero := by
  obtain ⟨k, n, u, ⟨⟨t⟩⟩⟩ := v
  simp [zeroB, Val.zero]

/-- May a value be? (mayV is package value's own answer.) -/
def formedB (mayV : Val → Bool) (has : Int → Bool) (e : Ex) : Bool :=
  decide (e.len = arity e.op) && (if e.op = 1 then decide (e.m = 0) && mayV e.v else if e.op = 2 then zeroB e.v && has e.m else decide (0 < e.len) && (decide (e.m = 0) && zeroB e.v))

def Ex.allB (p : Ex → Bool) : Ex → Bool | .nil => p .nil && true | .node op v m a len cap kid => p (.node op v m a len cap kid) && allTo (fun i => (kid i).allB p) len
theorem Ex.allB_eq (p : Ex → Bool) (e : Ex) : e.allB p = (p e && allTo (fun i => (e.kid i).allB p) e.len) := by cases e <;> rfl

def okB (mayV : Val → Bool) (has : Int → Bool) (e : Ex) : Bool := e.allB (formedB mayV has)

/-- Is an expression valid, and each column that it names one that there is? -/
def validB (mayV : Val → Bool) (has : Int → Bool) (e : Ex) : Bool := decide (e.sz ≤ 64) && (decide (e.dp ≤ 16) && okB mayV has e)

/-- What an expression comes to: from what its leaves come to, and from what is made of the Args of an operation. -/
def Ex.fold {T : Type} (leaf : Ex → T) (app : Int → T → T → T × Int) (z : T) : Ex → T × Int
  | .nil => (leaf .nil, 0)
  | .node op v m a len cap kid =>
    if arity op = 0 then (leaf (.node op v m a len cap kid), 0)
    else match (kid 0).fold leaf app z with
      | (x, f) => if f ≠ 0 then (x, f) else if arity op = 1 then app op x z else match (kid 1).fold leaf app z with
        | (y, g) => if g ≠ 0 then (y, g) else app op x y

theorem Ex.fold_eq {T : Type} (leaf : Ex → T) (app : Int → T → T → T × Int) (z : T) (e : Ex) : e.fold leaf app z =
    if arity e.op = 0 then (leaf e, 0)
    else if ((e.kid 0).fold leaf app z).2 ≠ 0 then (e.kid 0).fold leaf app z
    else if arity e.op = 1 then app e.op ((e.kid 0).fold leaf app z).1 z
    else if ((e.kid 1).fold leaf app z).2 ≠ 0 then (e.kid 1).fold leaf app z
    else app e.op ((e.kid 0).fold leaf app z).1 ((e.kid 1).fold leaf app z).1 := by
  cases e
  · simp only [Ex.fold, Ex.op]
    rfl
  · simp only [Ex.fold, Ex.op, Ex.kid]
    rfl

def hasAny (m : Int) : Bool := decide (0 ≤ m)
def hasBelow (n : Nat) (m : Int) : Bool := decide (0 ≤ m) && decide (m < n)

theorem ok_mono {mayV : Val → Bool} {h1 h2 : Int → Bool} (h : ∀ m, h1 m = true → h2 m = true) : ∀ e, okB mayV h1 e = true → okB mayV h2 e = true := by
  intro e
  induction e using Ex.ind with
  | h e ih =>
    unfold okB at *
    rw [Ex.allB_eq, Ex.allB_eq]
    simp only [Bool.and_eq_true, allTo_iff]
    rintro ⟨h3, h4⟩
    refine ⟨?_, fun i hi => ih i hi (h4 i hi)⟩
    unfold formedB at *
    simp only [Bool.and_eq_true] at h3 ⊢
    refine ⟨h3.1, ?_⟩
    have h5 := h3.2
    by_cases o1 : e.op = 1
    · simpa [o1] using h5
    · by_cases o2 : e.op = 2
      · simp only [o2] at h5 ⊢
        simp only [show ¬ (2 : Int) = 1 by omega, if_false, if_true, Bool.and_eq_true] at h5 ⊢
        exact ⟨h5.1, h _ h5.2⟩
      · simpa [o1, o2] using h5
end Go.Proofs.Ytkipnkbmpgjcoaa
