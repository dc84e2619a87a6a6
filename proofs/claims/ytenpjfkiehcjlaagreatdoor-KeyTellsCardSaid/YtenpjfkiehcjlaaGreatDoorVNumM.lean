/-
  What is of no program: numerals at the head of a list of bytes; quotes skipped.
-/
import Derived.Test.YtenpjfkiehcjlaaGreatDoorVDig
import Derived.Test.YtenpjfkiehcjlaaGreatDoorVRound
namespace Go.Proofs.YtenpjfkiehcjlaaGreatDoor
open Go.RowKit

/-- Digits are taken off a number that falls. -/
def accZ (l : List UInt8) : Int := l.foldl (fun v c => v * 10 - ((c.toNat : Int) - 48)) 0

theorem accZ_nil : accZ [] = 0 := rfl
theorem accZ_snoc (l : List UInt8) (c : UInt8) : accZ (l ++ [c]) = accZ l * 10 - ((c.toNat : Int) - 48) := by simp [accZ]

theorem dec_byte (r : Nat) (h : r < 10) : ((UInt8.ofNat (48 + r)).toNat : Int) = 48 + r := by
  have : (UInt8.ofNat (48 + r)).toNat = (48 + r) % 256 := by simp
  rw [this]
  omega

theorem accZ_dec : ∀ (fuel u : Nat), u < fuel → accZ (Lib.decDigits u) = -(u : Int)
  | 0, _, h => by omega
  | fuel + 1, u, h => by
    by_cases h10 : u < 10
    · rw [Lib.decDigits_one h10]
      have := accZ_snoc [] (UInt8.ofNat (48 + u))
      rw [List.nil_append, accZ_nil, dec_byte u h10] at this
      omega
    · rw [dec_more u (by omega), accZ_snoc, accZ_dec fuel (u / 10) (by omega), dec_byte (u % 10) (by omega)]
      omega

theorem dec_digits : ∀ (fuel u : Nat), u < fuel → ∀ c ∈ Lib.decDigits u, 48 ≤ c.toNat ∧ c.toNat ≤ 57
  | 0, _, h => by omega
  | fuel + 1, u, h => by
    intro c hc
    by_cases h10 : u < 10
    · rw [Lib.decDigits_one h10, List.mem_singleton] at hc
      have := dec_byte u h10
      rw [hc]
      omega
    · rw [dec_more u (by omega), List.mem_append, List.mem_singleton] at hc
      rcases hc with hc | hc
      · exact dec_digits fuel (u / 10) (by omega) c hc
      · have := dec_byte (u % 10) (by omega)
        rw [hc]
        omega

theorem dec_length : ∀ (k u : Nat), 1 ≤ k → u < 10 ^ k → 1 ≤ (Lib.decDigits u).length ∧ (Lib.decDigits u).length ≤ k
  | 0, _, h, _ => by omega
  | k + 1, u, _, h => by
    by_cases h10 : u < 10
    · rw [Lib.decDigits_one h10]; simp
    · rw [dec_more u (by omega)]
      have hk : 1 ≤ k := by
        rcases Nat.eq_zero_or_pos k with rfl | hk
        · simp at h; omega
        · exact hk
      have := dec_length k (u / 10) hk (by rw [Nat.pow_succ] at h; omega)
      simp
      omega

theorem itoa_length (u : Int) (h : I64 u) : 1 ≤ (Lib.itoa u).length ∧ (Lib.itoa u).length ≤ 20 := by
  unfold I64 at h
  by_cases h0 : 0 ≤ u
  · obtain ⟨n, rfl⟩ : ∃ n : Nat, u = n := ⟨u.toNat, by omega⟩
    have := dec_length 19 n (by omega) (by omega)
    rw [Lib.itoa_nonneg]
    omega
  · obtain ⟨n, rfl⟩ : ∃ n : Nat, u = -(n : Int) := ⟨(-u).toNat, by omega⟩
    have := dec_length 19 n (by omega) (by omega)
    rw [Lib.itoa_neg n (by omega), List.length_cons]
    omega

theorem itoa_inj {u v : Int} (hu : I64 u) (hv : I64 v) (h : Lib.itoa u = Lib.itoa v) : u = v := by
  have h1 := parse_itoa u hu.1 hu.2
  rw [h, parse_itoa v hv.1 hv.2] at h1
  cases h1
  rfl

/-- A numeral's bytes behind the first one are digits. -/
theorem itoa_tail (v : Int) (c : UInt8) (i : Nat) (h : (Lib.itoa v)[i]? = some c) (hi : 1 ≤ i) : 48 ≤ c.toNat ∧ c.toNat ≤ 57 := by
  by_cases h0 : 0 ≤ v
  · obtain ⟨n, rfl⟩ : ∃ n : Nat, v = n := ⟨v.toNat, by omega⟩
    rw [Lib.itoa_nonneg] at h
    exact dec_digits (n + 1) n (by omega) c (List.mem_of_getElem? h)
  · obtain ⟨n, rfl⟩ : ∃ n : Nat, v = -(n : Int) := ⟨(-v).toNat, by omega⟩
    rw [Lib.itoa_neg n (by omega)] at h
    obtain ⟨i, rfl⟩ : ∃ i', i = i' + 1 := ⟨i - 1, by omega⟩
    rw [List.getElem?_cons_succ] at h
    exact dec_digits (n + 1) n (by omega) c (List.mem_of_getElem? h)

/-- No numeral is the first m bytes. -/
def NoNum (s : List UInt8) (m : Nat) : Prop := ∀ u, I64 u → s.take m ≠ Lib.itoa u

/-- The numeral by which a text begins, and its length; or 0 and 0. -/
def NumR (s : List UInt8) (v : Int) (m : Nat) : Prop :=
  I64 v ∧ m ≤ s.length ∧ m ≤ 20 ∧ (∀ m', m < m' → m' ≤ s.length → m' ≤ 20 → NoNum s m') ∧ ((m = 0 ∧ v = 0) ∨ (0 < m ∧ s.take m = Lib.itoa v))

theorem NumR.is {s : List UInt8} {v : Int} {m : Nat} (h : NumR s v m) (u : Int) (hu : I64 u) (rest : List UInt8) (hs : s = Lib.itoa u ++ rest)
    (hr : ∀ c, rest.head? = some c → ¬ (48 ≤ c.toNat ∧ c.toNat ≤ 57)) : v = u ∧ m = (Lib.itoa u).length := by
  obtain ⟨h1, h2, h3, h4, h5⟩ := h
  have hl := itoa_length u hu
  have hsl : s.length = (Lib.itoa u).length + rest.length := by rw [hs]; simp
  have htk : s.take (Lib.itoa u).length = Lib.itoa u := by rw [hs]; simp
  have hm : m = (Lib.itoa u).length := by
    rcases Nat.lt_trichotomy m (Lib.itoa u).length with hlt | heq | hgt
    · exact absurd htk (h4 _ hlt (by omega) (by omega) u hu)
    · exact heq
    · exfalso
      rcases h5 with ⟨h0, _⟩ | ⟨_, h5⟩
      · omega
      · have hrest : 0 < rest.length := by omega
        have hc : (Lib.itoa v)[(Lib.itoa u).length]? = some rest[0] := by
          rw [← h5, List.getElem?_take_of_lt hgt, hs, List.getElem?_append_right (Nat.le_refl _), Nat.sub_self]
          exact List.getElem?_eq_getElem hrest
        have hd := itoa_tail v _ _ hc (by omega)
        refine hr rest[0] ?_ hd
        rw [List.head?_eq_getElem?, List.getElem?_eq_getElem hrest]
  refine ⟨?_, hm⟩
  rcases h5 with ⟨h0, _⟩ | ⟨_, h5⟩
  · omega
  · rw [hm, htk] at h5
    exact (itoa_inj hu h1 h5).symm

/-! ### What the loop over the digits has -/

/-- Where the digits begin. -/
def numStart (s : List UInt8) : Nat := if s.head? = some 45 then 1 else 0

theorem wrap_step (x d : Int) : IntKind.i64.wrap (IntKind.i64.wrap (IntKind.i64.wrap x * 10) - d) = IntKind.i64.wrap (x * 10 - d) := by
  rw [IntKind.wrap_i64, IntKind.wrap_i64, IntKind.wrap_i64, IntKind.wrap_i64]
  omega

theorem wrap_I64 (x : Int) : I64 (IntKind.i64.wrap x) := by
  rw [IntKind.wrap_i64]
  unfold I64
  omega

theorem wrap_of {x : Int} (h : I64 x) : IntKind.i64.wrap x = x := by
  rw [IntKind.wrap_i64]
  unfold I64 at h
  omega

/-- What the digits from where they begin, up to i, have made. -/
def numAcc (s : List UInt8) (i : Nat) : Int := IntKind.i64.wrap (accZ ((s.take i).drop (numStart s)))

theorem numAcc_next (s : List UInt8) (i : Nat) (h1 : numStart s ≤ i) (h2 : i < s.length) : numAcc s (i + 1) = IntKind.i64.wrap (IntKind.i64.wrap (numAcc s i * 10) - ((s[i].toNat : Int) - 48)) := by
  unfold numAcc
  rw [wrap_step, ← accZ_snoc, List.take_succ_eq_append_getElem h2, List.drop_append_of_le_length (by rw [List.length_take]; omega)]

theorem numAcc_start (s : List UInt8) : numAcc s (numStart s) = 0 := by
  unfold numAcc
  rw [List.drop_of_length_le (by rw [List.length_take]; omega), accZ_nil]
  rfl

/-- The value behind the loop. -/
def numVal (s : List UInt8) (i : Nat) : Int := if s.head? = some 45 then numAcc s i else IntKind.i64.wrap (-(numAcc s i))

theorem numVal_I64 (s : List UInt8) (i : Nat) : I64 (numVal s i) := by
  unfold numVal numAcc
  split <;> exact wrap_I64 _

theorem take_head {s : List UInt8} {m : Nat} (hm : 1 ≤ m) : (s.take m).head? = s.head? := by
  obtain ⟨m, rfl⟩ : ∃ k, m = k + 1 := ⟨m - 1, by omega⟩
  cases s <;> simp

/-- Where the first m bytes are a numeral, its number has been made, and all bytes from where digits begin are digits. -/
theorem numVal_is {s : List UInt8} {m : Nat} {u : Int} (hu : I64 u) (h : s.take m = Lib.itoa u) : numVal s m = u ∧ numStart s ≤ m ∧
    ∀ i, numStart s ≤ i → i < m → ∀ c, s[i]? = some c → 48 ≤ c.toNat ∧ c.toNat ≤ 57 := by
  have hl := itoa_length u hu
  have hm1 : 1 ≤ m := by
    rcases Nat.eq_zero_or_pos m with rfl | hm
    · rw [List.take_zero] at h; rw [← h] at hl; simp at hl
    · exact hm
  have hh : s.head? = (Lib.itoa u).head? := by rw [← h, take_head hm1]
  have hget : ∀ i, i < m → s[i]? = (Lib.itoa u)[i]? := fun i hi => by rw [← h, List.getElem?_take_of_lt hi]
  unfold numVal numStart numAcc numStart
  rw [hh]
  by_cases h0 : 0 ≤ u
  · obtain ⟨n, rfl⟩ : ∃ n : Nat, u = n := ⟨u.toNat, by omega⟩
    rw [Lib.itoa_nonneg] at h hget ⊢
    have hne : (Lib.decDigits n).head? ≠ some 45 := by
      intro e
      have := dec_digits (n + 1) n (by omega) 45 (List.mem_of_mem_head? e)
      have e45 : (45 : UInt8).toNat = 45 := rfl
      omega
    rw [if_neg hne, if_neg hne, List.drop_zero, h, accZ_dec (n + 1) n (by omega)]
    unfold I64 at hu
    refine ⟨?_, by omega, fun i _ hi c hc => ?_⟩
    · rw [wrap_of (x := -(n : Int)) (by unfold I64; omega), Int.neg_neg, wrap_of (x := (n : Int)) (by unfold I64; omega)]
    · rw [hget i hi] at hc
      exact dec_digits (n + 1) n (by omega) c (List.mem_of_getElem? hc)
  · obtain ⟨n, rfl⟩ : ∃ n : Nat, u = -(n : Int) := ⟨(-u).toNat, by omega⟩
    rw [Lib.itoa_neg n (by omega)] at h hget ⊢
    rw [if_pos (by rfl), if_pos (by rfl), h, List.drop_one, List.tail_cons, accZ_dec (n + 1) n (by omega)]
    unfold I64 at hu
    refine ⟨wrap_of (by unfold I64; omega), by omega, fun i hi1 hi c hc => ?_⟩
    rw [hget i hi] at hc
    obtain ⟨i, rfl⟩ : ∃ i', i = i' + 1 := ⟨i - 1, by omega⟩
    rw [List.getElem?_cons_succ] at hc
    exact dec_digits (n + 1) n (by omega) c (List.mem_of_getElem? hc)

/-- Of each byte, and of what is behind it; behind a quote one byte is left out. -/
def skipQ : List UInt8 → List UInt8
  | [] => []
  | c :: l => c :: (if c = 39 then skipQ l.tail else skipQ l)
termination_by l => l.length
decreasing_by all_goals simp; try omega

theorem skipQ_dbl : ∀ t : List UInt8, skipQ (dbl t) = t
  | [] => by simp [dbl, skipQ]
  | c :: l => by
    by_cases h : c = 39
    · subst h
      rw [dbl, if_pos rfl, skipQ, if_pos rfl, List.tail_cons, skipQ_dbl l]
    · rw [dbl, if_neg h, skipQ, if_neg h, skipQ_dbl l]

theorem skipQ_length : ∀ (n : Nat) (t : List UInt8), t.length < n → (skipQ t).length ≤ t.length
  | 0, _, h => by omega
  | n + 1, [], _ => by simp [skipQ]
  | n + 1, c :: l, h => by
    rw [skipQ]
    split
    · have := skipQ_length n l.tail (by simp at h ⊢; omega)
      simp at this ⊢
      omega
    · have := skipQ_length n l (by simp at h ⊢; omega)
      simp
      omega

end Go.Proofs.YtenpjfkiehcjlaaGreatDoor
