/-
  What is of no program: which values are valid, the order of values, their texts, as Lean functions over integers and lists of bytes.
-/
import Derived.Lib.ItoaMem
import Derived.Lib.ReplaceLaws
import Derived.Lib.ParseIntB
namespace Go.Proofs.YtenpjfkiehcjlaaGreatDoor

def mayP (k n hi : Int) (t : List UInt8) : Prop :=
  (k = 0 ∧ n = 0 ∧ hi = 0 ∧ t = []) ∨ (k = 1 ∧ hi = 0 ∧ t = []) ∨ (k = 2 ∧ (n = 0 ∨ n = 1) ∧ hi = 0 ∧ t = []) ∨ (k = 3 ∧ n = 0 ∧ hi = 0 ∧ t.length ≤ 256) ∨ (k = 4 ∧ n < hi ∧ t = [])

instance (k n hi : Int) (t : List UInt8) : Decidable (mayP k n hi t) := by unfold mayP; infer_instance

/-- Is a value valid? -/
def mayB (k n hi : Int) (t : List UInt8) : Bool := decide (mayP k n hi t)

theorem mayB_iff {k n hi : Int} {t : List UInt8} : mayB k n hi t = true ↔ mayP k n hi t := by simp [mayB]

/-- A text's quotes, each twice. -/
def dbl : List UInt8 → List UInt8
  | [] => []
  | c :: l => if c = 39 then 39 :: 39 :: dbl l else c :: dbl l

/-! ### replaceAll, a byte at a time -/

theorem repl_hit (old new r : List UInt8) (h : old ≠ []) (hne : old ≠ new) : Lib.replaceAll (old ++ r) old new = new ++ Lib.replaceAll r old new := by
  have hi : Lib.index (old ++ r) old = ((0 : Nat) : Int) := by
    cases old with
    | nil => exact absurd rfl h
    | cons c o => simp [Lib.index]
  have hb : (old == new) = false := by simpa using hne
  have e : ∀ s, Lib.replaceAll s old new = Lib.replaceK old new (Lib.count s old) s := fun s => by
    simp [Lib.replaceAll, Lib.replace, Lib.replaceNum, hb]
  rw [e, e, Lib.count_hit h hi, Nat.add_comm, Lib.replaceK_hit _ _ _ _ 0 hi]
  simp

theorem repl_miss (old new r : List UInt8) (c : UInt8) (h : old ≠ []) (hne : old ≠ new) (hp : old.isPrefixOf (c :: r) = false) : Lib.replaceAll (c :: r) old new = c :: Lib.replaceAll r old new := by
  have hb : (old == new) = false := by simpa using hne
  have e : ∀ s, Lib.replaceAll s old new = Lib.replaceK old new (Lib.count s old) s := fun s => by
    simp [Lib.replaceAll, Lib.replace, Lib.replaceNum, hb]
  have hge := Lib.index_ge r old
  by_cases hm : Lib.index r old = -1
  · have hm' : Lib.index (c :: r) old = -1 := by simp [Lib.index, hp, hm]
    rw [e, e, Lib.count_miss hm, Lib.count_miss hm']
    simp [Lib.replaceK]
  · obtain ⟨i, hi⟩ : ∃ i : Nat, Lib.index r old = i := ⟨(Lib.index r old).toNat, by omega⟩
    have hi' : Lib.index (c :: r) old = ((i + 1 : Nat) : Int) := by
      simp [Lib.index, hp, hi]
    have hc : Lib.count (c :: r) old = Lib.count r old := by
      rw [Lib.count_hit h hi, Lib.count_hit h hi', show i + 1 + old.length = (i + old.length) + 1 by omega, List.drop_succ_cons]
    rw [e, e, hc, Lib.count_hit h hi, Nat.add_comm, Lib.replaceK_hit _ _ _ _ i hi, Lib.replaceK_hit _ _ _ _ (i + 1) hi', show i + 1 + old.length = (i + old.length) + 1 by omega, List.drop_succ_cons]
    simp

theorem repl_nil (old new : List UInt8) (h : old ≠ []) : Lib.replaceAll [] old new = [] := by
  have hm : Lib.index [] old = -1 := by cases old <;> simp_all [Lib.index]
  by_cases hb : old = new
  · simp [Lib.replaceAll, Lib.replace, hb]
  · simp [Lib.replaceAll, Lib.replace, Lib.replaceNum, hb, Lib.count_miss hm, Lib.replaceK]

theorem replaceAll_dbl : ∀ t : List UInt8, Lib.replaceAll t [39] [39, 39] = dbl t
  | [] => repl_nil _ _ (by simp)
  | c :: l => by
    by_cases h : c = 39
    · subst h
      have := repl_hit [39] [39, 39] l (by simp) (by simp)
      simp only [List.cons_append, List.nil_append] at this
      rw [this, replaceAll_dbl l, dbl, if_pos rfl]
    · rw [repl_miss _ _ _ _ (by simp) (by simp) (by simp only [List.isPrefixOf, Bool.and_true, beq_eq_false_iff_ne, ne_eq]; exact fun e => h e.symm), replaceAll_dbl l, dbl, if_neg h]

/-- Of two quotes beside each other one is left, from the left. -/
def und : List UInt8 → List UInt8
  | 39 :: 39 :: l => 39 :: und l
  | c :: l => c :: und l
  | [] => []

theorem und_two (l : List UInt8) : und (39 :: 39 :: l) = 39 :: und l := by rw [und]
theorem und_one (c : UInt8) (l : List UInt8) (h : ¬ (c = 39 ∧ l.head? = some 39)) : und (c :: l) = c :: und l := by
  rw [und]
  intro l' h1 h2
  subst h1
  subst h2
  simp at h

theorem replaceAll_und (t : List UInt8) : Lib.replaceAll t [39, 39] [39] = und t := by
  induction hn : t.length using Nat.strongRecOn generalizing t with
  | _ n ih =>
    match t, hn with
    | [], _ => rw [repl_nil _ _ (by simp), und]
    | c :: l, hn =>
      by_cases h : c = 39 ∧ l.head? = some 39
      · obtain ⟨rfl, h2⟩ := h
        obtain ⟨l', rfl⟩ : ∃ l', l = 39 :: l' := by cases l with
          | nil => simp at h2
          | cons a l' => simp at h2; exact ⟨l', by rw [h2]⟩
        have := repl_hit [39, 39] [39] l' (by simp) (by simp)
        simp only [List.cons_append, List.nil_append] at this
        rw [this, und_two, ih l'.length (by simp at hn; omega) l' rfl]
      · have hp : List.isPrefixOf [39, 39] (c :: l) = false := by
          cases l with
          | nil => simp [List.isPrefixOf]
          | cons a l' =>
            simp only [List.head?_cons, Option.some.injEq] at h
            simp only [List.isPrefixOf, Bool.and_true, Bool.and_eq_false_iff, beq_eq_false_iff_ne, ne_eq]
            by_cases h1 : c = 39
            · exact Or.inr fun e => h ⟨h1, e.symm⟩
            · exact Or.inl fun e => h1 e.symm
        rw [und_one c l h, repl_miss _ _ _ _ (by simp) (by simp) hp, ih l.length (by simp at hn; omega) l rfl]

theorem und_dbl : ∀ t : List UInt8, und (dbl t) = t
  | [] => by simp [dbl, und]
  | c :: l => by
    by_cases h : c = 39
    · rw [dbl, if_pos h, und_two, und_dbl l, h]
    · rw [dbl, if_neg h, und_one _ _ (fun e => h e.1), und_dbl l]

theorem dbl_inj {a b : List UInt8} (h : dbl a = dbl b) : a = b := by rw [← und_dbl a, ← und_dbl b, h]

theorem dbl_length : ∀ t : List UInt8, t.length ≤ (dbl t).length ∧ (dbl t).length ≤ 2 * t.length
  | [] => by simp [dbl]
  | c :: l => by
    have := dbl_length l
    by_cases h : c = 39 <;> simp [dbl, h] <;> omega

/-- The text of a value. -/
def textL (k n hi : Int) (t : List UInt8) : List UInt8 :=
  if mayB k n hi t = false then []
  else if k = 1 then Lib.itoa n
  else if k = 2 then (if n = 1 then [121, 101, 115] else [110, 111])
  else if k = 3 then 39 :: (dbl t ++ [39])
  else if k = 4 then 91 :: (Lib.itoa n ++ 44 :: (Lib.itoa hi ++ [41]))
  else [110, 117, 108, 108]


end Go.Proofs.YtenpjfkiehcjlaaGreatDoor
