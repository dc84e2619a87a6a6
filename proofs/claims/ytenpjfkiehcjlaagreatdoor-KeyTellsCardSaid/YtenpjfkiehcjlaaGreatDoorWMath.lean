/-
  What is of no program: a row's text, the row of a text, the order of rows.
-/
import Derived.Test.YtenpjfkiehcjlaaGreatDoorVRound
import Derived.Test.YtenpjfkiehcjlaaGreatDoorVNumM
import Derived.Test.YtenpjfkiehcjlaaGreatDoorVTwo
import Derived.Test.YtenpjfkiehcjlaaGreatDoorVFit
import Derived.Lib.Join
namespace Go.Proofs.YtenpjfkiehcjlaaGreatDoor

def mayV (v : Val) : Bool := mayB v.k v.n v.u v.t.data.toList
def txV (v : Val) : List UInt8 := textL v.k v.n v.u v.t.data.toList
def fitV (v : Val) (kind : Int) : Bool := fitsB v.k v.n v.u v.t.data.toList kind

/-- The texts of a row's values, a comma and a space between them. -/
def jt (l : List Val) : List UInt8 := Lib.join (l.map txV) [44, 32]

/-- The text of a row. -/
def rowT (l : List Val) : List UInt8 := if l.all mayV = true then 40 :: (jt l ++ [41]) else []

theorem jt_nil : jt [] = [] := rfl
theorem jt_one (v : Val) : jt [v] = txV v := Lib.join_one _ _
theorem jt_cons (v w : Val) (l : List Val) : jt (v :: w :: l) = txV v ++ 44 :: 32 :: jt (w :: l) := by
  unfold jt
  rw [List.map_cons, List.map_cons, Lib.join_cons, Lib.join_cons]
  simp [Lib.joinTail]

theorem jt_snoc (l : List Val) (v : Val) (h : l ≠ []) : jt (l ++ [v]) = jt l ++ 44 :: 32 :: txV v := by
  induction l with
  | nil => exact absurd rfl h
  | cons x l ih =>
    cases l with
    | nil => rw [List.cons_append, List.nil_append, jt_cons, jt_one, jt_one]
    | cons y l =>
      have := ih (by simp)
      rw [List.cons_append, List.cons_append, jt_cons, jt_cons, ← List.cons_append, this]
      simp

/-- What stands ahead of the first separator that is not inside a text, and what behind it, if there is one. -/
def cutG : Bool → List UInt8 → List UInt8 × Option (List UInt8)
  | _, [] => ([], none)
  | q, c :: r => if c = 39 then (c :: (cutG (!q) r).1, (cutG (!q) r).2) else if q = false ∧ c = 44 ∧ r.head? = some 32 then ([], some r.tail) else (c :: (cutG q r).1, (cutG q r).2)

theorem cutG_quote (q : Bool) (r : List UInt8) : cutG q (39 :: r) = (39 :: (cutG (!q) r).1, (cutG (!q) r).2) := by rw [cutG, if_pos rfl]
theorem cutG_sep (r : List UInt8) : cutG false (44 :: 32 :: r) = ([], some r) := by rw [cutG, if_neg (by decide), if_pos ⟨rfl, rfl, rfl⟩]; rfl
theorem cutG_in (c : UInt8) (r : List UInt8) (h : c ≠ 39) : cutG true (c :: r) = (c :: (cutG true r).1, (cutG true r).2) := by rw [cutG, if_neg h, if_neg (by simp)]
theorem cutG_out (c : UInt8) (r : List UInt8) (h : c ≠ 39) (h2 : ¬ (c = 44 ∧ r.head? = some 32)) : cutG false (c :: r) = (c :: (cutG false r).1, (cutG false r).2) := by rw [cutG, if_neg h, if_neg (fun e => h2 e.2)]

/-- What is cut is put together the text. -/
theorem cutG_none : ∀ (l : List UInt8) (q : Bool), (cutG q l).2 = none → (cutG q l).1 = l
  | [], _, _ => rfl
  | c :: r, q, h => by
    rw [cutG] at h ⊢
    by_cases h1 : c = 39
    · rw [if_pos h1] at h ⊢
      simp only at h ⊢
      rw [cutG_none r _ h]
    · rw [if_neg h1] at h ⊢
      by_cases h2 : q = false ∧ c = 44 ∧ r.head? = some 32
      · rw [if_pos h2] at h; cases h
      · rw [if_neg h2] at h ⊢
        simp only at h ⊢
        rw [cutG_none r _ h]

theorem cutG_some : ∀ (l : List UInt8) (q : Bool) (m : List UInt8), (cutG q l).2 = some m → l = (cutG q l).1 ++ 44 :: 32 :: m
  | [], _, _, h => by cases h
  | c :: r, q, m, h => by
    rw [cutG] at h ⊢
    by_cases h1 : c = 39
    · rw [if_pos h1] at h ⊢
      simp only at h ⊢
      rw [List.cons_append, ← cutG_some r _ m h]
    · rw [if_neg h1] at h ⊢
      by_cases h2 : q = false ∧ c = 44 ∧ r.head? = some 32
      · rw [if_pos h2] at h ⊢
        simp only [Option.some.injEq] at h
        obtain ⟨_, rfl, h3⟩ := h2
        cases r with
        | nil => cases h3
        | cons d r =>
          simp at h3 h
          rw [h3, h]
          rfl
      · rw [if_neg h2] at h ⊢
        simp only at h ⊢
        rw [List.cons_append, ← cutG_some r _ m h]

/-- The value of a text, if it is one's. -/
def parV (p : List UInt8) : Option Val := if (parseR p).ok = true then some ⟨(parseR p).k, (parseR p).n, (parseR p).hi, ⟨(parseR p).t.toArray⟩⟩ else none

theorem parV_some {p : List UInt8} {v : Val} (h : parV p = some v) : mayV v = true ∧ txV v = p ∧ parseR p = ⟨v.k, v.n, v.u, v.t.data.toList, true⟩ := by
  unfold parV at h
  by_cases hk : (parseR p).ok = true
  · rw [if_pos hk, Option.some.injEq] at h
    subst h
    obtain ⟨h1, h2⟩ := parseR_ok p hk
    refine ⟨h1, h2, ?_⟩
    generalize parseR p = R at hk ⊢
    obtain ⟨k, n, hi, t, ok⟩ := R
    dsimp at hk ⊢
    rw [hk]
  · rw [if_neg hk] at h; cases h

theorem parV_none {p : List UInt8} (h : parV p = none) : parseR p = ⟨0, 0, 0, [], false⟩ := by
  unfold parV at h
  by_cases hk : (parseR p).ok = true
  · rw [if_pos hk] at h; cases h
  · exact parseR_no p (by simpa using hk)

theorem parV_tx (v : Val) (hn : I64 v.n) (hu : I64 v.u) (hm : mayV v = true) : parV (txV v) = some v := by
  have h := parse_textL v.k v.n v.u v.t.data.toList hn hu hm
  unfold parV txV
  rw [h, if_pos rfl, ba_eta]

/-- The values of what is left of a text, behind those that were read. -/
def goP : Nat → List Val → List UInt8 → Option (List Val)
  | 0, _, _ => none
  | n + 1, acc, l => match parV (cutG false l).1 with
    | none => none
    | some v => match (cutG false l).2 with
      | none => some (acc ++ [v])
      | some r => goP n (acc ++ [v]) r

theorem goP_bad {n : Nat} {acc : List Val} {l : List UInt8} (h : parV (cutG false l).1 = none) : goP (n + 1) acc l = none := by rw [goP, h]
theorem goP_last {n : Nat} {acc : List Val} {l : List UInt8} {v : Val} (h : parV (cutG false l).1 = some v) (h2 : (cutG false l).2 = none) : goP (n + 1) acc l = some (acc ++ [v]) := by rw [goP, h]; simp only; rw [h2]
theorem goP_more {n : Nat} {acc : List Val} {l r : List UInt8} {v : Val} (h : parV (cutG false l).1 = some v) (h2 : (cutG false l).2 = some r) : goP (n + 1) acc l = goP n (acc ++ [v]) r := by rw [goP, h]; simp only; rw [h2]

def rowIn (l : List UInt8) : Option (List Val) := if l = [] then some [] else goP (l.length + 1) [] l

/-- The row of a text. -/
def rowP (s : List UInt8) : Option (List Val) := if Lib.hasPrefix s [40] = true ∧ Lib.hasSuffix (s.drop 1) [41] = true then rowIn (Lib.trimSuffix (s.drop 1) [41]) else none

/-! ### The text of a valid value has no separator outside of its quotes -/

theorem cutG_plain (r : List UInt8) : ∀ p : List UInt8, (∀ c ∈ p, c ≠ 39 ∧ c ≠ 44) → cutG false (p ++ r) = (p ++ (cutG false r).1, (cutG false r).2)
  | [], _ => rfl
  | c :: p, h => by
    have hc := h c (by simp)
    rw [List.cons_append, cutG_out _ _ hc.1 (fun e => hc.2 e.1), cutG_plain r p (fun d hd => h d (by simp [hd]))]
    rfl

theorem cutG_dbl (r : List UInt8) : ∀ t : List UInt8, cutG true (dbl t ++ 39 :: r) = (dbl t ++ 39 :: (cutG false r).1, (cutG false r).2)
  | [] => by rw [dbl, List.nil_append, cutG_quote]; rfl
  | c :: t => by
    have ih := cutG_dbl r t
    by_cases h : c = 39
    · rw [dbl, if_pos h, List.cons_append, List.cons_append, cutG_quote]
      simp only [Bool.not_true]
      rw [cutG_quote]
      simp only [Bool.not_false]
      rw [ih]
      rfl
    · rw [dbl, if_neg h, List.cons_append, cutG_in _ _ h, ih]
      rfl

theorem itoa_plain (n : Int) : ∀ c ∈ Lib.itoa n, c ≠ 39 ∧ c ≠ 44 := by
  intro c hc
  rcases itoa_bytes n c hc with rfl | h
  · decide
  · refine ⟨fun e => ?_, fun e => ?_⟩ <;> (subst e; revert h; decide)

theorem cutG_tx (v : Val) (hm : mayV v = true) (r : List UInt8) : cutG false (txV v ++ r) = (txV v ++ (cutG false r).1, (cutG false r).2) := by
  obtain ⟨k, n, u, t⟩ := v
  unfold mayV at hm
  dsimp only at hm
  have hm' := mayB_iff.1 hm
  unfold txV textL
  dsimp only
  rw [if_neg (by rw [hm]; simp)]
  rcases hm' with h | h | h | h | h
  · obtain ⟨rfl, _⟩ := h
    rw [if_neg (by decide), if_neg (by decide), if_neg (by decide), if_neg (by decide)]
    exact cutG_plain r _ (by decide)
  · obtain ⟨rfl, _⟩ := h
    rw [if_pos rfl]
    exact cutG_plain r _ (itoa_plain n)
  · obtain ⟨rfl, h4, _⟩ := h
    rw [if_neg (by decide), if_pos rfl]
    rcases h4 with rfl | rfl
    · rw [if_neg (by decide)]; exact cutG_plain r _ (by decide)
    · rw [if_pos rfl]; exact cutG_plain r _ (by decide)
  · obtain ⟨rfl, _⟩ := h
    rw [if_neg (by decide), if_neg (by decide), if_pos rfl]
    rw [List.cons_append, cutG_quote, List.append_assoc, List.cons_append, List.nil_append]
    simp only [Bool.not_false]
    rw [cutG_dbl]
    simp
  · obtain ⟨rfl, _⟩ := h
    rw [if_neg (by decide), if_neg (by decide), if_neg (by decide), if_pos rfl]
    rw [List.cons_append, cutG_out _ _ (by decide) (by simp), List.append_assoc, cutG_plain _ _ (itoa_plain n), List.cons_append, List.append_assoc]
    obtain ⟨c, q, hc, hd⟩ := itoa_cons u
    rw [cutG_out 44 _ (by decide) (by
      rw [hc]
      simp only [List.cons_append, List.head?_cons, Option.some.injEq]
      rintro ⟨_, rfl⟩
      revert hd
      decide), cutG_plain _ _ (itoa_plain u), List.cons_append, List.nil_append, cutG_out 41 _ (by decide) (by simp)]
    simp

theorem cutG_tx_end (v : Val) (hm : mayV v = true) : cutG false (txV v) = (txV v, none) := by
  have := cutG_tx v hm []
  simpa [cutG] using this

theorem txV_ne (v : Val) (hm : mayV v = true) : txV v ≠ [] := textL_ne _ _ _ _ hm

/-- Behind any values: the texts of valid values read as they are. -/
theorem goP_jt : ∀ (l : List Val) (n : Nat) (acc : List Val), l ≠ [] → (jt l).length < n → (∀ v ∈ l, mayV v = true ∧ v.wf) → goP n acc (jt l) = some (acc ++ l)
  | [], _, _, h, _, _ => absurd rfl h
  | [v], n, acc, _, hn, hv => by
    obtain ⟨m, rfl⟩ : ∃ m, n = m + 1 := ⟨n - 1, by omega⟩
    have hv' := hv v (by simp)
    rw [jt_one, goP_last (v := v) (by rw [cutG_tx_end v hv'.1]; exact parV_tx v hv'.2.n hv'.2.u hv'.1) (by rw [cutG_tx_end v hv'.1])]
  | v :: w :: l, n, acc, _, hn, hv => by
    obtain ⟨m, rfl⟩ : ∃ m, n = m + 1 := ⟨n - 1, by omega⟩
    have hv' := hv v (by simp)
    have hc : cutG false (jt (v :: w :: l)) = (txV v, some (jt (w :: l))) := by
      rw [jt_cons, cutG_tx v hv'.1, cutG_sep]
      simp
    rw [goP_more (v := v) (r := jt (w :: l)) (by rw [hc]; exact parV_tx v hv'.2.n hv'.2.u hv'.1) (by rw [hc]), goP_jt (w :: l) m (acc ++ [v]) (by simp) (by rw [jt_cons] at hn; simp at hn; omega) (fun x hx => hv x (by simp [hx]))]
    simp

theorem jt_ne {l : List Val} (h : l ≠ []) (hv : ∀ v ∈ l, mayV v = true) : jt l ≠ [] := by
  match l, h with
  | [v], _ => rw [jt_one]; exact txV_ne v (hv v (by simp))
  | v :: w :: l, _ => rw [jt_cons]; simp

theorem rowIn_jt (l : List Val) (hv : ∀ v ∈ l, mayV v = true ∧ v.wf) : rowIn (jt l) = some l := by
  unfold rowIn
  by_cases h : l = []
  · subst h; exact if_pos rfl
  · rw [if_neg (jt_ne h fun v hx => (hv v hx).1), goP_jt l _ [] h (by omega) hv]
    rfl

theorem trim_snoc (l : List UInt8) (c : UInt8) : Lib.trimSuffix (l ++ [c]) [c] = l := by
  unfold Lib.trimSuffix
  rw [if_pos (hasSuffix_snoc l c)]
  simp

/-- THE ROUND: the row of a row's text. -/
theorem rowP_rowT (l : List Val) (hm : l.all mayV = true) (hw : ∀ v ∈ l, v.wf) : rowP (rowT l) = some l := by
  unfold rowT rowP
  rw [if_pos hm, List.drop_succ_cons, List.drop_zero, if_pos ⟨by simp [Lib.hasPrefix], hasSuffix_snoc _ _⟩, trim_snoc]
  exact rowIn_jt l fun v hv => ⟨List.all_eq_true.1 hm v hv, hw v hv⟩

theorem goP_text : ∀ (n : Nat) (acc : List Val) (l : List UInt8) (m : List Val), goP n acc l = some m → ∃ m', m = acc ++ m' ∧ m' ≠ [] ∧ (∀ v ∈ m', mayV v = true) ∧ jt m' = l
  | 0, _, _, _, h => by cases h
  | n + 1, acc, l, m, h => by
    cases hp : parV (cutG false l).1 with
    | none => rw [goP_bad hp] at h; cases h
    | some v =>
      obtain ⟨hm, ht, _⟩ := parV_some hp
      cases hc : (cutG false l).2 with
      | none =>
        rw [goP_last hp hc, Option.some.injEq] at h
        exact ⟨[v], h.symm, by simp, fun x hx => by simp at hx; rw [hx]; exact hm, by rw [jt_one, ht, cutG_none l false hc]⟩
      | some r =>
        rw [goP_more hp hc] at h
        obtain ⟨m', rfl, h2, h3, h4⟩ := goP_text n _ r m h
        refine ⟨v :: m', by simp, by simp, fun x hx => ?_, ?_⟩
        · rcases List.mem_cons.1 hx with rfl | hx
          · exact hm
          · exact h3 x hx
        · cases m' with
          | nil => exact absurd rfl h2
          | cons w m' => rw [jt_cons, h4, ht]; exact (cutG_some l false r hc).symm

theorem rowIn_text {l : List UInt8} {m : List Val} (h : rowIn l = some m) : (∀ v ∈ m, mayV v = true) ∧ jt m = l := by
  unfold rowIn at h
  by_cases hl : l = []
  · rw [if_pos hl, Option.some.injEq] at h
    subst h
    exact ⟨fun _ h => absurd h List.not_mem_nil, by rw [hl]; rfl⟩
  · rw [if_neg hl] at h
    obtain ⟨m', rfl, _, h3, h4⟩ := goP_text _ _ _ _ h
    exact ⟨h3, h4⟩

theorem suffix_one {l : List UInt8} {c : UInt8} (h : Lib.hasSuffix l [c] = true) : l = Lib.trimSuffix l [c] ++ [c] := by
  unfold Lib.trimSuffix
  rw [if_pos h]
  obtain ⟨p, hp⟩ := List.isSuffixOf_iff_suffix.1 h
  rw [← hp]
  simp

theorem prefix_one {l : List UInt8} {c : UInt8} (h : Lib.hasPrefix l [c] = true) : l = c :: l.drop 1 := by
  cases l with
  | nil => simp [Lib.hasPrefix] at h
  | cons d l =>
    simp [Lib.hasPrefix] at h
    simp [h]

/-- The text of a text's row. -/
theorem rowT_rowP {s : List UInt8} {m : List Val} (h : rowP s = some m) : m.all mayV = true ∧ rowT m = s := by
  unfold rowP at h
  by_cases hc : Lib.hasPrefix s [40] = true ∧ Lib.hasSuffix (s.drop 1) [41] = true
  · rw [if_pos hc] at h
    obtain ⟨h1, h2⟩ := rowIn_text h
    have hm : m.all mayV = true := List.all_eq_true.2 h1
    refine ⟨hm, ?_⟩
    unfold rowT
    rw [if_pos hm, h2, ← suffix_one hc.2]
    exact (prefix_one hc.1).symm
  · rw [if_neg hc] at h; cases h

theorem rowT_ne {l : List Val} : rowT l ≠ [] ↔ l.all mayV = true := by
  unfold rowT
  by_cases h : l.all mayV = true
  · rw [if_pos h]; exact ⟨fun _ => h, fun _ => by simp⟩
  · rw [if_neg h]; exact ⟨fun e => absurd rfl e, fun e => absurd e h⟩

theorem rowT_inj {a b : List Val} (ha : a.all mayV = true) (hb : b.all mayV = true) (wa : ∀ v ∈ a, v.wf) (wb : ∀ v ∈ b, v.wf) (h : rowT a = rowT b) : a = b := by
  have h1 := rowP_rowT a ha wa
  rw [h, rowP_rowT b hb wb, Option.some.injEq] at h1
  exact h1.symm

/-! ### What the values that are read are -/

theorem parV_wf {p : List UInt8} {v : Val} (h : parV p = some v) : v.wf := by
  obtain ⟨hm, ht, hr⟩ := parV_some h
  have hb := readR_bounds p
  have hpr : (parseR p).ok = true := by rw [hr]
  have hrr : parseR p = readR p := by
    unfold parseR at hpr ⊢
    by_cases hc : (readR p).ok = true ∧ textL (readR p).k (readR p).n (readR p).hi (readR p).t = p
    · rw [if_pos hc]
    · rw [if_neg hc] at hpr; cases hpr
  rw [← hrr, hr] at hb
  have hm' := mayB_iff.1 hm
  have e : v.t.size = v.t.data.toList.length := rfl
  refine ⟨?_, ?_, hb.1, hb.2, ?_⟩
  · rcases hm' with h | h | h | h | h <;> omega
  · rcases hm' with h | h | h | h | h <;> omega
  · rw [e]
    rcases hm' with ⟨_, _, _, h⟩ | ⟨_, _, h⟩ | ⟨_, _, _, h⟩ | ⟨_, _, _, h⟩ | ⟨_, _, h⟩
    · rw [h]; simp
    · rw [h]; simp
    · rw [h]; simp
    · omega
    · rw [h]; simp

/-- A row's fit. -/
def fitL : List Val → List Int → Bool
  | [], _ => true
  | _, [] => true
  | v :: l, k :: c => fitV v k && fitL l c

def fitE (l : List Val) (c : List Int) : Int := if l.length = c.length then (if fitL l c = true then 0 else 60) else 4

theorem fitL_all : ∀ (l : List Val) (c : List Int), fitL l c = true ↔ ∀ (i : Nat) (v : Val) (k : Int), l[i]? = some v → c[i]? = some k → fitV v k = true
  | [], c => by simp [fitL]
  | v :: l, [] => by simp [fitL]
  | v :: l, k :: c => by
    rw [fitL, Bool.and_eq_true, fitL_all l c]
    constructor
    · rintro ⟨h1, h2⟩ i x y hx hy
      cases i with
      | zero => simp at hx hy; subst hx; subst hy; exact h1
      | succ i => exact h2 i x y (by simpa using hx) (by simpa using hy)
    · intro h
      exact ⟨h 0 v k rfl rfl, fun i x y hx hy => h (i + 1) x y (by simpa using hx) (by simpa using hy)⟩

theorem txV_len (v : Val) (hw : v.wf) : 2 * (txV v).length + 4 ≤ 9 * (10 + v.t.size) := by
  obtain ⟨k, n, u, t⟩ := v
  have h1 := itoa_length n hw.n
  have h2 := itoa_length u hw.u
  have e : t.data.toList.length = t.size := rfl
  have h3 := (dbl_length t.data.toList).2
  show 2 * (textL k n u t.data.toList).length + 4 ≤ 9 * (10 + t.size)
  unfold textL
  repeat' split
  all_goals (try simp only [List.length_cons, List.length_append, List.length_nil])
  all_goals omega

end Go.Proofs.YtenpjfkiehcjlaaGreatDoor
