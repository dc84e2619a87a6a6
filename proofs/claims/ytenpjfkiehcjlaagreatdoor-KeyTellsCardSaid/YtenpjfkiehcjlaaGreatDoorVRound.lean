/-
  What is of no program: what Parse reads of the text of a valid value is the value.
-/
import Derived.Test.YtenpjfkiehcjlaaGreatDoorVParse2
namespace Go.Proofs.YtenpjfkiehcjlaaGreatDoor

theorem parseUintM_app (M : Nat) (c : UInt8) : ∀ (l : List UInt8) (acc v : Nat), Lib.parseUintM M acc l = .ok v → Lib.parseUintM M acc (l ++ [c]) = Lib.parseUintM M v [c]
  | [], acc, v, h => by
    simp only [Lib.parseUintM] at h
    injection h with h
    rw [h]
    rfl
  | d :: l, acc, v, h => by
    simp only [Lib.parseUintM, List.cons_append] at h ⊢
    by_cases h1 : 48 ≤ d.toNat ∧ d.toNat ≤ 57
    · rw [if_pos h1] at h ⊢
      by_cases h2 : 1844674407370955162 ≤ acc
      · rw [if_pos h2] at h; cases h
      · rw [if_neg h2] at h ⊢
        by_cases h3 : M < acc * 10 + (d.toNat - 48)
        · rw [if_pos h3] at h; cases h
        · rw [if_neg h3] at h ⊢
          exact parseUintM_app M c l _ v h
    · rw [if_neg h1] at h; cases h

theorem digit_toNat (d : Nat) (h : d < 10) : (UInt8.ofNat (48 + d)).toNat = 48 + d := by
  rw [UInt8.toNat_ofNat']
  omega

theorem parseUintM_dec : ∀ u : Nat, u ≤ 18446744073709551615 → Lib.parseUintM 18446744073709551615 0 (Lib.decDigits u) = .ok u := by
  intro u
  induction u using Nat.strongRecOn with
  | _ u ih =>
    intro hu
    by_cases h : u < 10
    · rw [Lib.decDigits_one h]
      simp only [Lib.parseUintM, digit_toNat u h]
      rw [if_pos (by omega), if_neg (by omega), if_neg (by omega)]
      simp
    · rw [Lib.decDigits, dif_neg h, parseUintM_app _ _ _ _ (u / 10) (ih (u / 10) (by omega) (by omega))]
      have hd := digit_toNat (u % 10) (by omega)
      simp only [Lib.parseUintM, hd]
      rw [if_pos (by omega), if_neg (by omega), if_neg (by omega)]
      congr 1
      omega

theorem decDigits_bytes : ∀ u : Nat, ∀ c ∈ Lib.decDigits u, 48 ≤ c.toNat ∧ c.toNat ≤ 57 := by
  intro u
  induction u using Nat.strongRecOn with
  | _ u ih =>
    intro c hc
    by_cases h : u < 10
    · rw [Lib.decDigits_one h] at hc
      obtain rfl := List.mem_singleton.1 hc
      rw [digit_toNat u h]
      omega
    · rw [Lib.decDigits, dif_neg h] at hc
      rcases List.mem_append.1 hc with hc | hc
      · exact ih (u / 10) (by omega) c hc
      · obtain rfl := List.mem_singleton.1 hc
        rw [digit_toNat _ (by omega)]
        omega

theorem decDigits_cons (u : Nat) : ∃ c r, Lib.decDigits u = c :: r ∧ 48 ≤ c.toNat ∧ c.toNat ≤ 57 := by
  have hl := Lib.decDigits_length u
  have hp := Lib.nDigits_pos u
  cases h : Lib.decDigits u with
  | nil => rw [h] at hl; simp at hl; omega
  | cons c r => exact ⟨c, r, rfl, decDigits_bytes u c (by rw [h]; simp)⟩

theorem itoa_bytes (n : Int) : ∀ c ∈ Lib.itoa n, c = 45 ∨ (48 ≤ c.toNat ∧ c.toNat ≤ 57) := by
  intro c hc
  unfold Lib.itoa at hc
  split at hc
  · rcases List.mem_cons.1 hc with hc | hc
    · exact Or.inl hc
    · exact Or.inr (decDigits_bytes _ c hc)
  · exact Or.inr (decDigits_bytes _ c hc)

theorem itoa_cons (n : Int) : ∃ c r, Lib.itoa n = c :: r ∧ (c = 45 ∨ (48 ≤ c.toNat ∧ c.toNat ≤ 57)) := by
  have h := itoa_bytes n
  cases hl : Lib.itoa n with
  | nil =>
    exfalso
    unfold Lib.itoa at hl
    split at hl
    · cases hl
    · obtain ⟨c, r, h1, _⟩ := decDigits_cons n.toNat
      rw [h1] at hl; cases hl
  | cons c r => exact ⟨c, r, rfl, h c (by rw [hl]; simp)⟩

theorem parse_itoa (n : Int) (h0 : -9223372036854775808 ≤ n) (h1 : n ≤ 9223372036854775807) : Lib.parseIntB 64 (Lib.itoa n) = .ok n := by
  have e64 : (2 : Nat) ^ 64 - 1 = 18446744073709551615 := by decide
  have e63 : (2 : Nat) ^ (64 - 1) = 9223372036854775808 := by decide
  have hU : ∀ u : Nat, u ≤ 18446744073709551615 → Lib.parseUintB 64 (Lib.decDigits u) = .ok u := fun u hu => by
    obtain ⟨c, r, hc, _⟩ := decDigits_cons u
    have hd := parseUintM_dec u hu
    unfold Lib.parseUintB
    rw [if_neg (by rw [hc]; simp), e64]
    exact hd
  unfold Lib.itoa
  by_cases hn : n < 0
  · rw [if_pos hn, Lib.parseIntB_minus, hU _ (by omega)]
    simp only [Lib.signedC]
    rw [e63, if_neg (by omega)]
    congr 1
    omega
  · rw [if_neg hn]
    have hd := hU n.toNat (by omega)
    obtain ⟨c, r, hc, h2, h3⟩ := decDigits_cons n.toNat
    rw [hc] at hd ⊢
    rw [Lib.parseIntB_plain 64 c r (by omega) (by omega), hd]
    simp only [Lib.signlessC]
    rw [e63, if_neg (by omega)]
    congr 1
    omega

/-! ### The text of a valid value reads as the value -/

theorem num_itoa (n : Int) (h0 : -9223372036854775808 ≤ n) (h1 : n ≤ 9223372036854775807) : numV (Lib.itoa n) = n ∧ numOK (Lib.itoa n) = true := by
  simp [numV, numOK, parse_itoa n h0 h1]

theorem readR_int (n : Int) (h0 : -9223372036854775808 ≤ n) (h1 : n ≤ 9223372036854775807) : readR (Lib.itoa n) = ⟨1, n, 0, [], true⟩ := by
  obtain ⟨c, r, hc, hd⟩ := itoa_cons n
  have hx : ∀ d : UInt8, d.toNat = 110 ∨ d.toNat = 121 ∨ d.toNat = 39 ∨ d.toNat = 91 → c ≠ d := by
    intro d hd2 e
    subst e
    rcases hd with rfl | hd
    · revert hd2; decide
    · omega
  have e1 := hx 110 (by decide)
  have e2 := hx 121 (by decide)
  have e3 := hx 39 (by decide)
  have e4 := hx 91 (by decide)
  unfold readR
  rw [if_neg (by rw [hc]; simp [e1]), if_neg (by rw [hc]; simp [e2]), if_neg (by rw [hc]; simp [e1]), if_neg (by rw [hc]; simp [Lib.hasPrefix, Ne.symm e3]), if_neg (by rw [hc]; simp [Lib.hasPrefix, Ne.symm e4]), (num_itoa n h0 h1).1, (num_itoa n h0 h1).2]

theorem hasSuffix_snoc (l : List UInt8) (c : UInt8) : Lib.hasSuffix (l ++ [c]) [c] = true := by
  simp [Lib.hasSuffix, List.isSuffixOf_iff_suffix]

theorem readR_text (t : List UInt8) : readR (39 :: (dbl t ++ [39])) = ⟨3, 0, 0, t, true⟩ := by
  unfold readR
  rw [if_neg (by simp), if_neg (by simp), if_neg (by simp), if_pos (by simp [Lib.hasPrefix])]
  unfold textR
  have hs : Lib.hasSuffix (39 :: (dbl t ++ [39])) [39] = true := by
    have := hasSuffix_snoc (39 :: dbl t) 39
    simpa using this
  rw [if_neg (by rw [hs]; simp)]
  have e : (39 :: (dbl t ++ [39])).length - 2 = (dbl t).length := by simp
  rw [e, List.drop_succ_cons, List.drop_zero, List.take_left, und_dbl]

theorem index_before (sep : UInt8) (r : List UInt8) : ∀ a : List UInt8, (∀ c ∈ a, c ≠ sep) → Lib.index (a ++ sep :: r) [sep] = a.length
  | [], _ => by simp [Lib.index]
  | c :: a, h => by
    have ih := index_before sep r a (fun d hd => h d (by simp [hd]))
    have hc : c ≠ sep := h c (by simp)
    simp only [List.cons_append, Lib.index]
    rw [if_neg (by simp [List.isPrefixOf, Ne.symm hc]), ih, if_neg (by simp only [beq_iff_eq]; omega)]
    simp

theorem cut_at (sep : UInt8) (a r : List UInt8) (h : ∀ c ∈ a, c ≠ sep) : Lib.cut (a ++ sep :: r) [sep] = (a, r, true) := by
  have hi := index_before sep r a h
  unfold Lib.cut
  rw [hi, if_pos (by omega)]
  have e : ((a.length : Int)).toNat = a.length := by omega
  rw [e]
  simp

theorem span_in (n hi : Int) : spanIn (91 :: (Lib.itoa n ++ 44 :: (Lib.itoa hi ++ [41]))) = (Lib.itoa n, Lib.itoa hi, true) := by
  unfold spanIn
  rw [List.drop_succ_cons, List.drop_zero]
  have e : Lib.itoa n ++ 44 :: (Lib.itoa hi ++ [41]) = (Lib.itoa n ++ 44 :: Lib.itoa hi) ++ [41] := by simp
  rw [e]
  have ht : Lib.trimSuffix ((Lib.itoa n ++ 44 :: Lib.itoa hi) ++ [41]) [41] = Lib.itoa n ++ 44 :: Lib.itoa hi := by
    unfold Lib.trimSuffix
    rw [if_pos (hasSuffix_snoc _ _)]
    have e2 : (Lib.itoa n ++ 44 :: Lib.itoa hi ++ [41]).length - [(41 : UInt8)].length = (Lib.itoa n ++ 44 :: Lib.itoa hi).length := by simp
    rw [e2, List.take_left]
  rw [ht]
  refine cut_at _ _ _ fun c hc e => ?_
  subst e
  rcases itoa_bytes n _ hc with h | h
  · revert h; decide
  · revert h; decide

theorem readR_span (n hi : Int) (h0 : -9223372036854775808 ≤ n) (h1 : n ≤ 9223372036854775807) (h2 : -9223372036854775808 ≤ hi) (h3 : hi ≤ 9223372036854775807) :
    readR (91 :: (Lib.itoa n ++ 44 :: (Lib.itoa hi ++ [41]))) = ⟨4, n, hi, [], true⟩ := by
  have hs : Lib.hasSuffix ((91 :: (Lib.itoa n ++ 44 :: (Lib.itoa hi ++ [41]))).drop 1) [41] = true := by
    rw [List.drop_succ_cons, List.drop_zero]
    have := hasSuffix_snoc (Lib.itoa n ++ 44 :: Lib.itoa hi) 41
    simpa using this
  unfold readR
  rw [if_neg (by simp), if_neg (by simp), if_neg (by simp), if_neg (by simp [Lib.hasPrefix]), if_pos (by simp [Lib.hasPrefix])]
  unfold spanOK
  rw [hs, span_in, (num_itoa n h0 h1).1, (num_itoa hi h2 h3).1, (num_itoa n h0 h1).2, (num_itoa hi h2 h3).2]
  rfl

theorem read_textL (k n hi : Int) (t : List UInt8) (b1 : -9223372036854775808 ≤ n ∧ n ≤ 9223372036854775807) (b2 : -9223372036854775808 ≤ hi ∧ hi ≤ 9223372036854775807) (hm : mayB k n hi t = true) :
    readR (textL k n hi t) = ⟨k, n, hi, t, true⟩ := by
  have hm' := mayB_iff.1 hm
  unfold textL
  rw [if_neg (by rw [hm]; simp)]
  rcases hm' with h | h | h | h | h
  · obtain ⟨rfl, rfl, rfl, rfl⟩ := h; simp [readR]
  · obtain ⟨rfl, rfl, rfl⟩ := h; rw [if_pos rfl]; exact readR_int n b1.1 b1.2
  · obtain ⟨rfl, h4, rfl, rfl⟩ := h
    rcases h4 with rfl | rfl <;> simp [readR]
  · obtain ⟨rfl, rfl, rfl, _⟩ := h; simp only []; exact readR_text t
  · obtain ⟨rfl, _, rfl⟩ := h; exact readR_span n hi b1.1 b1.2 b2.1 b2.2

/-- THE ROUND: Parse of the text of a valid value. -/
theorem parse_textL (k n hi : Int) (t : List UInt8) (b1 : -9223372036854775808 ≤ n ∧ n ≤ 9223372036854775807) (b2 : -9223372036854775808 ≤ hi ∧ hi ≤ 9223372036854775807) (hm : mayB k n hi t = true) :
    parseR (textL k n hi t) = ⟨k, n, hi, t, true⟩ := by
  unfold parseR
  rw [read_textL k n hi t b1 b2 hm]
  simp

theorem textL_ne (k n hi : Int) (t : List UInt8) (hm : mayB k n hi t = true) : textL k n hi t ≠ [] := by
  have hm' := mayB_iff.1 hm
  unfold textL
  rw [if_neg (by rw [hm]; simp)]
  obtain ⟨c, r, hc, _⟩ := itoa_cons n
  rcases hm' with h | h | h | h | h
  · obtain ⟨rfl, _⟩ := h; simp
  · obtain ⟨rfl, _⟩ := h; simp [hc]
  · obtain ⟨rfl, h4, _⟩ := h
    rcases h4 with rfl | rfl <;> simp
  · obtain ⟨rfl, _⟩ := h; simp
  · obtain ⟨rfl, _⟩ := h; simp

theorem readR_nil : (readR []).ok = false := by decide

/-- What Parse reads is a valid value, and the text is its text. -/
theorem parseR_ok (l : List UInt8) (h : (parseR l).ok = true) : mayB (parseR l).k (parseR l).n (parseR l).hi (parseR l).t = true ∧ textL (parseR l).k (parseR l).n (parseR l).hi (parseR l).t = l := by
  unfold parseR at h ⊢
  by_cases hc : (readR l).ok = true ∧ textL (readR l).k (readR l).n (readR l).hi (readR l).t = l
  · rw [if_pos hc] at h ⊢
    refine ⟨?_, hc.2⟩
    cases hm : mayB (readR l).k (readR l).n (readR l).hi (readR l).t
    · exfalso
      have h2 := hc.2
      unfold textL at h2
      rw [if_pos hm] at h2
      subst h2
      rw [readR_nil] at hc
      exact absurd hc.1 (by simp)
    · rfl
  · rw [if_neg hc] at h
    cases h

theorem parseR_no (l : List UInt8) (h : (parseR l).ok = false) : parseR l = ⟨0, 0, 0, [], false⟩ := by
  unfold parseR at h ⊢
  by_cases hc : (readR l).ok = true ∧ textL (readR l).k (readR l).n (readR l).hi (readR l).t = l
  · rw [if_pos hc] at h
    rw [hc.1] at h; cases h
  · rw [if_neg hc]

theorem textL_inj {k n hi : Int} {t : List UInt8} {k' n' hi' : Int} {t' : List UInt8} (b1 : -9223372036854775808 ≤ n ∧ n ≤ 9223372036854775807) (b2 : -9223372036854775808 ≤ hi ∧ hi ≤ 9223372036854775807) (b1' : -9223372036854775808 ≤ n' ∧ n' ≤ 9223372036854775807) (b2' : -9223372036854775808 ≤ hi' ∧ hi' ≤ 9223372036854775807)
    (hm : mayB k n hi t = true) (hm' : mayB k' n' hi' t' = true) (h : textL k n hi t = textL k' n' hi' t') : k = k' ∧ n = n' ∧ hi = hi' ∧ t = t' := by
  have h1 := parse_textL k n hi t b1 b2 hm
  have h2 := parse_textL k' n' hi' t' b1' b2' hm'
  rw [h, h2] at h1
  injection h1 with e1 e2 e3 e4
  exact ⟨e1.symm, e2.symm, e3.symm, e4.symm⟩


end Go.Proofs.YtenpjfkiehcjlaaGreatDoor
