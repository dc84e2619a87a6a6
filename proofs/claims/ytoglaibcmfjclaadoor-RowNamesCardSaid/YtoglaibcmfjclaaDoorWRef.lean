/-
  What is of no program: the document's own reading of a row (covenantref05.Parse) comes to the same as row.Parse.
-/
import Derived.Test.YtoglaibcmfjclaaDoorWText
import Derived.Test.YtoglaibcmfjclaaDoorWCut
namespace Go.Proofs.YtoglaibcmfjclaaDoor

/-- The document's own reading: part by part; what is read is held against the text at the end. -/
def goR : Nat → List Val → List UInt8 → Option (List Val)
  | 0, _, _ => none
  | n + 1, acc, l => if l = [] then some acc else match parV (cutG false l).1 with
    | none => none
    | some v => match (cutG false l).2 with
      | none => some (acc ++ [v])
      | some r => goR n (acc ++ [v]) r

theorem goR_nil {n : Nat} {acc : List Val} : goR (n + 1) acc [] = some acc := by rw [goR, if_pos rfl]
theorem goR_bad {n : Nat} {acc : List Val} {l : List UInt8} (hl : l ≠ []) (h : parV (cutG false l).1 = none) : goR (n + 1) acc l = none := by rw [goR, if_neg hl, h]
theorem goR_last {n : Nat} {acc : List Val} {l : List UInt8} {v : Val} (hl : l ≠ []) (h : parV (cutG false l).1 = some v) (h2 : (cutG false l).2 = none) : goR (n + 1) acc l = some (acc ++ [v]) := by rw [goR, if_neg hl, h]; simp only; rw [h2]
theorem goR_more {n : Nat} {acc : List Val} {l r : List UInt8} {v : Val} (hl : l ≠ []) (h : parV (cutG false l).1 = some v) (h2 : (cutG false l).2 = some r) : goR (n + 1) acc l = goR n (acc ++ [v]) r := by rw [goR, if_neg hl, h]; simp only; rw [h2]

theorem parV_nil : parV [] = none := by
  have h : (parseR []).ok = false := by
    unfold parseR
    rw [if_neg (fun h => by rw [readR_nil] at h; exact absurd h.1 (by simp))]
  unfold parV
  rw [if_neg (by rw [h]; simp)]

theorem goP_goR : ∀ (n : Nat) (acc : List Val) (l : List UInt8) (m : List Val), goP n acc l = some m → goR n acc l = some m
  | 0, _, _, _, h => by cases h
  | n + 1, acc, l, m, h => by
    cases hp : parV (cutG false l).1 with
    | none => rw [goP_bad hp] at h; cases h
    | some v =>
      have hl : l ≠ [] := by
        rintro rfl
        rw [show (cutG false []).1 = [] from rfl, parV_nil] at hp
        cases hp
      cases hc : (cutG false l).2 with
      | none => rw [goP_last hp hc] at h; rw [goR_last hl hp hc]; exact h
      | some r => rw [goP_more hp hc] at h; rw [goR_more hl hp hc]; exact goP_goR n _ r m h

theorem jt_count : ∀ l : List Val, (∀ v ∈ l, mayV v = true) → l.length ≤ (jt l).length
  | [], _ => Nat.zero_le _
  | [v], h => by
    have := txV_ne v (h v (by simp))
    rw [jt_one]
    exact List.length_pos_iff.2 this
  | v :: w :: l, h => by
    have h2 := jt_count (w :: l) (fun x hx => h x (by simp [hx]))
    rw [jt_cons]
    simp only [List.length_append, List.length_cons] at h2 ⊢
    omega

theorem goR_text : ∀ (n : Nat) (acc : List Val) (l : List UInt8) (m : List Val), goR n acc l = some m → ∃ m', m = acc ++ m' ∧ (∀ v ∈ m', mayV v = true ∧ v.wf) ∧ (jt m').length ≤ l.length
  | 0, _, _, _, h => by cases h
  | n + 1, acc, l, m, h => by
    by_cases hl : l = []
    · subst hl
      rw [goR_nil, Option.some.injEq] at h
      exact ⟨[], by simp [h], fun _ h => absurd h List.not_mem_nil, by simp [jt_nil]⟩
    · cases hp : parV (cutG false l).1 with
      | none => rw [goR_bad hl hp] at h; cases h
      | some v =>
        obtain ⟨hm, ht, _⟩ := parV_some hp
        have hw := parV_wf hp
        cases hc : (cutG false l).2 with
        | none =>
          rw [goR_last hl hp hc, Option.some.injEq] at h
          refine ⟨[v], h.symm, fun x hx => by simp at hx; rw [hx]; exact ⟨hm, hw⟩, ?_⟩
          rw [jt_one, ht, cutG_none l false hc]
          exact Nat.le_refl _
        | some r =>
          rw [goR_more hl hp hc] at h
          obtain ⟨m', rfl, h3, h4⟩ := goR_text n _ r m h
          refine ⟨v :: m', by simp, fun x hx => ?_, ?_⟩
          · rcases List.mem_cons.1 hx with rfl | hx
            · exact ⟨hm, hw⟩
            · exact h3 x hx
          · have hx := congrArg List.length (cutG_some l false r hc)
            rw [← ht] at hx
            simp only [List.length_append, List.length_cons] at hx
            cases m' with
            | nil => rw [jt_one]; omega
            | cons y m' =>
              rw [jt_cons]
              simp only [List.length_append, List.length_cons]
              omega

/-- The bytes from place a on, ahead of the last one. -/
def restL (L : List UInt8) (n a : Nat) : List UInt8 := (L.drop a).take (n - a)

theorem rest_len {L : List UInt8} {n a : Nat} (h : L.length = n + 1) : (restL L n a).length = n - a := by simp [restL]; omega
theorem rest_end {L : List UInt8} {n a : Nat} (h : n ≤ a) : restL L n a = [] := by
  unfold restL
  rw [show n - a = 0 by omega, List.take_zero]
theorem rest_drop (L : List UInt8) (n a i : Nat) : (restL L n a).drop i = restL L n (a + i) := by
  unfold restL
  rw [List.drop_take, List.drop_drop]
  congr 1
  omega
theorem rest_cons {L : List UInt8} {n a : Nat} (h : L.length = n + 1) (ha : a < n) : restL L n a = L[a]'(by omega) :: restL L n (a + 1) := by
  unfold restL
  rw [List.drop_eq_getElem_cons (by omega), show n - a = (n - (a + 1)) + 1 by omega, List.take_succ_cons]
theorem rest_get {L : List UInt8} {n a i : Nat} (h : L.length = n + 1) (ha : a + i < n) (hi : i < (restL L n a).length) : (restL L n a)[i] = L[a + i]'(by omega) := by
  simp [restL]
theorem rest_take {L : List UInt8} {n a i : Nat} (ha : a + i ≤ n) : (restL L n a).take i = (L.drop a).take i := by
  unfold restL
  rw [List.take_take, Nat.min_eq_left (by omega)]

theorem rest_pre {L : List UInt8} {n a : Nat} (h : L.length = n + 1) (ha : a < n) (hl : L[n]'(by omega) = 41) : Lib.hasPrefix (restL L n a) [44, 32] = true ↔ L[a]'(by omega) = 44 ∧ L[a + 1]'(by omega) = 32 := by
  rw [rest_cons h ha, pre_two]
  rcases Nat.lt_or_ge (a + 1) n with q | q
  · rw [rest_cons h q]; simp
  · have e : a + 1 = n := by omega
    rw [rest_end (by omega)]
    subst e
    rw [hl]
    simp

/-- What the document's own Parse answers. -/
def refP (s : List UInt8) : Option (List Val) :=
  if Lib.hasPrefix s [40] = true ∧ Lib.hasSuffix (s.drop 1) [41] = true then
    match goR s.length [] (restL s (s.length - 1) 1) with
    | none => none
    | some m => if rowT m = s then some m else none
  else none

theorem rest_trim {s : List UInt8} (h : Lib.hasSuffix (s.drop 1) [41] = true) : restL s (s.length - 1) 1 = Lib.trimSuffix (s.drop 1) [41] := by
  unfold restL Lib.trimSuffix
  rw [if_pos h, List.length_drop]
  rfl

theorem trim_len {s : List UInt8} (h : Lib.hasSuffix (s.drop 1) [41] = true) : (Lib.trimSuffix (s.drop 1) [41]).length + 2 = s.length := by
  have h1 := congrArg List.length (suffix_one h)
  simp only [List.length_drop, List.length_append, List.length_cons, List.length_nil] at h1
  omega

theorem goR_more_fuel : ∀ (n : Nat) (acc : List Val) (l : List UInt8) (m : List Val), goR n acc l = some m → goR (n + 1) acc l = some m
  | 0, _, _, _, h => by cases h
  | n + 1, acc, l, m, h => by
    by_cases hl : l = []
    · subst hl; rw [goR_nil] at h ⊢; exact h
    · cases hp : parV (cutG false l).1 with
      | none => rw [goR_bad hl hp] at h; cases h
      | some v =>
        cases hc : (cutG false l).2 with
        | none => rw [goR_last hl hp hc] at h ⊢; exact h
        | some r => rw [goR_more hl hp hc] at h ⊢; exact goR_more_fuel n _ r m h

theorem refP_eq (s : List UInt8) : refP s = rowP s := by
  unfold refP
  by_cases hc : Lib.hasPrefix s [40] = true ∧ Lib.hasSuffix (s.drop 1) [41] = true
  · rw [if_pos hc, rest_trim hc.2]
    have hlen := trim_len hc.2
    cases hr : rowP s with
    | some m =>
      have ht := (rowT_rowP hr).2
      have hin : rowIn (Lib.trimSuffix (s.drop 1) [41]) = some m := by
        unfold rowP at hr
        rw [if_pos hc] at hr
        exact hr
      have hg : goR s.length [] (Lib.trimSuffix (s.drop 1) [41]) = some m := by
        unfold rowIn at hin
        by_cases hl : Lib.trimSuffix (s.drop 1) [41] = []
        · rw [if_pos hl, Option.some.injEq] at hin
          rw [hl, ← hin]
          obtain ⟨k, hk⟩ : ∃ k, s.length = k + 1 := ⟨s.length - 1, by omega⟩
          rw [hk, goR_nil]
        · rw [if_neg hl] at hin
          have := goR_more_fuel _ _ _ _ (goP_goR _ _ _ _ hin)
          rw [hlen] at this
          exact this
      rw [hg]
      simp only
      rw [if_pos ht]
    | none =>
      cases hg : goR s.length [] (Lib.trimSuffix (s.drop 1) [41]) with
      | none => rfl
      | some m =>
        simp only
        by_cases ht : rowT m = s
        · obtain ⟨m', e, h3, _⟩ := goR_text _ _ _ _ hg
          rw [List.nil_append] at e
          subst e
          have := rowP_rowT m (List.all_eq_true.2 fun v hv => (h3 v hv).1) (fun v hv => (h3 v hv).2)
          rw [ht, hr] at this
          cases this
        · rw [if_neg ht]
  · rw [if_neg hc]
    unfold rowP
    rw [if_neg hc]

end Go.Proofs.YtoglaibcmfjclaaDoor
