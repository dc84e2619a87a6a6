/-
  Rows that one transaction at a time writes: which version is seen, as plain mathematics (stage 12).
-/
import Derived.Test.YtbgnbaogclnpgaaMWr
namespace Go.Proofs.Ytbgnbaogclnpgaa
set_option linter.unusedVariables false

/-- A writing: by whom, what (below 0: nothing is left). -/
abbrev Wt := Int × Int
/-- What is left by writings: the last one's. -/
def valE (E : List Wt) : Int := match E.getLast? with | some e => if e.2 < 0 then -1 else e.2 | none => -1
/-- The versions that writings make: by whom, what, ended by whom (0: nobody). -/
def specE : List Wt → List (Int × Int × Int)
  | [] => []
  | [e] => if e.2 < 0 then [] else [(e.1, e.2, 0)]
  | e :: e' :: r => (if e.2 < 0 then [] else [(e.1, e.2, e'.1)]) ++ specE (e' :: r)
def visT (aff : Int → Bool) (x : Int × Int × Int) : Bool := aff x.1 && !aff x.2.2

theorem spec_skip {aff : Int → Bool} {e : Wt} (h : aff e.1 = false) (r : List Wt) : (specE (e :: r)).filter (visT aff) = (specE r).filter (visT aff) := by
  cases r with
  | nil =>
    show (specE [e]).filter (visT aff) = []
    unfold specE
    by_cases h1 : e.2 < 0
    · rw [if_pos h1]; rfl
    · rw [if_neg h1]; simp [visT, h]
  | cons e' r =>
    rw [specE, List.filter_append]
    by_cases h1 : e.2 < 0
    · rw [if_pos h1]; rfl
    · rw [if_neg h1]; simp [visT, h]
theorem spec_skips {aff : Int → Bool} : ∀ (X r : List Wt), (∀ e ∈ X, aff e.1 = false) → (specE (X ++ r)).filter (visT aff) = (specE r).filter (visT aff)
  | [], r, _ => rfl
  | e :: X, r, h => by
    rw [List.cons_append, spec_skip (h e (List.mem_cons_self ..)), spec_skips X r fun x hx => h x (List.mem_cons_of_mem _ hx)]
theorem spec_next {aff : Int → Bool} {e e' : Wt} (h : aff e'.1 = true) (r : List Wt) : (specE (e :: e' :: r)).filter (visT aff) = (specE (e' :: r)).filter (visT aff) := by
  rw [specE, List.filter_append]
  by_cases h1 : e.2 < 0
  · rw [if_pos h1]; rfl
  · rw [if_neg h1]; simp [visT, h]
/-- Of writings Y between ones that don't count for who looks, the last one is seen. -/
theorem spec_block {aff : Int → Bool} (h0 : aff 0 = false) : ∀ (Y Z : List Wt), (∀ e ∈ Y, aff e.1 = true) → (∀ e ∈ Z, aff e.1 = false) → ((specE (Y ++ Z)).filter (visT aff)).getLast?.elim (-1) (fun x => x.2.1) = valE Y
  | [], Z, _, hz => by
    have := spec_skips (aff := aff) Z [] hz
    rw [List.append_nil] at this
    rw [List.nil_append, this]
    rfl
  | [e], Z, hy, hz => by
    have he := hy e (List.mem_cons_self ..)
    cases Z with
    | nil =>
      show ((specE [e]).filter (visT aff)).getLast?.elim (-1) (fun x => x.2.1) = _
      unfold specE valE
      by_cases h1 : e.2 < 0
      · simp [h1]
      · simp [h1, visT, he, h0]
    | cons z Z =>
      have hzz := hz z (List.mem_cons_self ..)
      have hs := spec_skips (aff := aff) (z :: Z) [] hz
      rw [List.append_nil] at hs
      show ((specE (e :: z :: Z)).filter (visT aff)).getLast?.elim (-1) (fun x => x.2.1) = _
      rw [specE, List.filter_append, hs]
      unfold valE
      by_cases h1 : e.2 < 0
      · simp [h1, specE]
      · simp [h1, visT, he, hzz, specE]
  | e :: e' :: Y, Z, hy, hz => by
    have h1 := spec_block h0 (e' :: Y) Z (fun x hx => hy x (List.mem_cons_of_mem _ hx)) hz
    have h2 : valE (e :: e' :: Y) = valE (e' :: Y) := by unfold valE; rw [List.getLast?_cons_cons]
    rw [h2, ← h1]
    show ((specE (e :: e' :: (Y ++ Z))).filter (visT aff)).getLast?.elim (-1) (fun x => x.2.1) = _
    rw [spec_next (hy e' (by simp))]
    rfl
theorem spec_seen {aff : Int → Bool} (h0 : aff 0 = false) (X Y Z : List Wt) (hx : ∀ e ∈ X, aff e.1 = false) (hy : ∀ e ∈ Y, aff e.1 = true) (hz : ∀ e ∈ Z, aff e.1 = false) : ((specE (X ++ (Y ++ Z))).filter (visT aff)).getLast?.elim (-1) (fun x => x.2.1) = valE Y := by
  rw [spec_skips X _ hx]
  exact spec_block h0 Y Z hy hz

/-! ### The versions of a row that count -/

def effB (T : Tb) (x : Int) : Int := if T.cnt x then x else 0
def liveL (T : Tb) (L : List (Nat × Tup)) : List (Int × Int × Int) := (L.filter fun p => T.cnt p.2.mn).map fun p => (p.2.mn, oneN p.2, effB T p.2.mx)

theorem aff_off {T : Tb} {own : Bool} {a m x : Int} (h : T.cnt x = false) : affB T own a m x = false := by
  unfold affB Tb.seesB Tb.reachB Tb.ownB Tb.numI
  rw [h]
  cases own <;> simp
theorem aff_eff (T : Tb) (own : Bool) (a m x : Int) : affB T own a m (effB T x) = affB T own a m x := by
  unfold effB
  by_cases h : T.cnt x = true
  · rw [if_pos h]
  · rw [if_neg h, aff_zero, aff_off (by simpa using h)]
theorem vis_live (T : Tb) (own : Bool) (a m : Int) (p : Nat × Tup) : visB T own a m p.2 = (T.cnt p.2.mn && visT (affB T own a m) (p.2.mn, oneN p.2, effB T p.2.mx)) := by
  unfold visB visT
  rw [endB_is]
  show _ = (T.cnt p.2.mn && (affB T own a m p.2.mn && !affB T own a m (effB T p.2.mx)))
  rw [aff_eff]
  cases h : T.cnt p.2.mn with
  | true => rw [Bool.true_and]
  | false => rw [aff_off h]; rfl
theorem filter_live (T : Tb) (own : Bool) (a m : Int) : ∀ L : List (Nat × Tup), (L.filter fun p => visB T own a m p.2).map (fun p => oneN p.2) = ((liveL T L).filter (visT (affB T own a m))).map (fun x => x.2.1)
  | [] => rfl
  | p :: L => by
    have ih := filter_live T own a m L
    unfold liveL at ih ⊢
    have hv := vis_live T own a m p
    cases hc : T.cnt p.2.mn with
    | false =>
      rw [hc, Bool.false_and] at hv
      rw [List.filter_cons, hv, List.filter_cons, hc]
      exact ih
    | true =>
      rw [hc, Bool.true_and] at hv
      rw [List.filter_cons, List.filter_cons, hc, if_pos rfl, List.map_cons, List.filter_cons, hv]
      cases visT (affB T own a m) (p.2.mn, oneN p.2, effB T p.2.mx) with
      | true => simp only [if_true, List.map_cons]; rw [ih]
      | false => simp only [Bool.false_eq_true, if_false]; exact ih
/-- What is seen of a row is what is left by the writings that count for who looks. -/
theorem wsV_live {T : Tb} {A : Ab} (hA : A.Ok) (a m y : Int) : wsV T A a m y = ((liveL T (A.vs 1 y)).filter (visT (affB T (ownR T m (A.vs 1 y)) a m))).getLast?.elim (-1) (fun x => x.2.1) := by
  have h1 := filter_live T (ownR T m (A.vs 1 y)) a m (A.vs 1 y)
  have h2 : seenO T A a m 1 y = ((A.vs 1 y).filter fun p => visB T (ownR T m (A.vs 1 y)) a m p.2).getLast? := by
    unfold seenO seenL
    rw [← List.head?_filter, List.filter_reverse, List.head?_reverse]
  have h3 : (((A.vs 1 y).filter fun p => visB T (ownR T m (A.vs 1 y)) a m p.2).getLast?).map (fun p => oneN p.2) = (((liveL T (A.vs 1 y)).filter (visT (affB T (ownR T m (A.vs 1 y)) a m))).getLast?).map (fun x => x.2.1) := by
    rw [← List.getLast?_map, h1, List.getLast?_map]
  rw [← h2] at h3
  unfold wsV seenB seenV
  cases hs : seenO T A a m 1 y with
  | none =>
    rw [hs] at h3
    cases he : (((liveL T (A.vs 1 y)).filter (visT (affB T (ownR T m (A.vs 1 y)) a m))).getLast?) with
    | none => rfl
    | some x => rw [he] at h3; cases h3
  | some p =>
    rw [hs] at h3
    obtain ⟨q1, q2, q3, q4⟩ := seenO_some hs
    cases he : (((liveL T (A.vs 1 y)).filter (visT (affB T (ownR T m (A.vs 1 y)) a m))).getLast?) with
    | none => rw [he] at h3; cases h3
    | some x =>
      rw [he] at h3
      simp only [Option.map_some, Option.some.injEq] at h3
      have : A.atT ((p.1 : Nat) : Int) = p.2 := by
        unfold Ab.atT Ab.tupI
        rw [if_pos (by omega), Int.toNat_natCast, (hA.tup _ _).2 q1]
        rfl
      show (if true = true then oneN (A.atT (p.1 : Int)) else -1) = x.2.1
      rw [if_pos rfl, this]
      exact h3

end Go.Proofs.Ytbgnbaogclnpgaa

namespace Go.Proofs.Ytbgnbaogclnpgaa
set_option linter.unusedVariables false

def nextE : List Wt → Int | [] => 0 | e :: _ => e.1

theorem spec_cons (e : Wt) (Y : List Wt) : specE (e :: Y) = (if e.2 < 0 then [] else [(e.1, e.2, nextE Y)]) ++ specE Y := by
  cases Y with
  | nil => show (if e.2 < 0 then [] else [(e.1, e.2, 0)]) = _; rw [show specE [] = [] from rfl, List.append_nil]; rfl
  | cons e' r => rfl
theorem spec_mem : ∀ {E : List Wt} {x : Int × Int × Int}, x ∈ specE E → ∃ X e Y, E = X ++ e :: Y ∧ x.1 = e.1 ∧ x.2.1 = e.2 ∧ 0 ≤ e.2 ∧ x.2.2 = nextE Y
  | [], x, h => by cases h
  | e :: E, x, h => by
    rw [spec_cons, List.mem_append] at h
    rcases h with h | h
    · by_cases h1 : e.2 < 0
      · rw [if_pos h1] at h; cases h
      · rw [if_neg h1, List.mem_singleton] at h
        subst h
        exact ⟨[], e, E, rfl, rfl, rfl, by omega, rfl⟩
    · obtain ⟨X, e', Y, rfl, h2⟩ := spec_mem h
      exact ⟨e :: X, e', Y, rfl, h2⟩
theorem spec_has : ∀ (X : List Wt) (e : Wt) (Y : List Wt), 0 ≤ e.2 → (e.1, e.2, nextE Y) ∈ specE (X ++ e :: Y)
  | [], e, Y, h => by
    rw [List.nil_append, spec_cons, if_neg (by omega)]
    exact List.mem_append_left _ (List.mem_singleton.2 rfl)
  | x :: X, e, Y, h => by
    rw [List.cons_append, spec_cons]
    exact List.mem_append_right _ (spec_has X e Y h)

def cutX (q : Int → Bool) (x : Int × Int × Int) : Int × Int × Int := (x.1, x.2.1, if q x.2.2 then x.2.2 else 0)
theorem spec_cut {q : Int → Bool} (h0 : q 0 = false) : ∀ (E1 E2 : List Wt), (∀ e ∈ E1, q e.1 = true) → (∀ e ∈ E2, q e.1 = false) → ((specE (E1 ++ E2)).filter fun x => q x.1).map (cutX q) = specE E1
  | [], E2, _, h2 => by
    have : ((specE E2).filter fun x => q x.1) = [] := by
      rw [List.filter_eq_nil_iff]
      intro x hx
      obtain ⟨X, e, Y, rfl, h3, -⟩ := spec_mem hx
      rw [h3, h2 e (by simp)]
      decide
    rw [List.nil_append, this]
    rfl
  | e :: E1, E2, h1, h2 => by
    have he := h1 e (List.mem_cons_self ..)
    have ih := spec_cut h0 E1 E2 (fun x hx => h1 x (List.mem_cons_of_mem _ hx)) h2
    rw [List.cons_append, spec_cons, spec_cons, List.filter_append, List.map_append, ih]
    congr 1
    by_cases h3 : e.2 < 0
    · rw [if_pos h3, if_pos h3]; rfl
    · rw [if_neg h3, if_neg h3, List.filter_cons, he, if_pos rfl]
      show [cutX q (e.1, e.2, nextE (E1 ++ E2))] = _
      unfold cutX
      cases E1 with
      | nil =>
        cases E2 with
        | nil => simp [nextE, h0]
        | cons z Z => simp [nextE, h2 z (by simp)]
      | cons e' r => simp [nextE, h1 e' (by simp)]

theorem live_cut {T T' : Tb} : ∀ {L : List (Nat × Tup)}, (∀ p ∈ L, (T'.cnt p.2.mn = true → T.cnt p.2.mn = true) ∧ (T'.cnt p.2.mx = true → T.cnt p.2.mx = true)) → liveL T' L = ((liveL T L).filter fun x => T'.cnt x.1).map (cutX T'.cnt)
  | [], _ => rfl
  | p :: L, h => by
    have ih := live_cut (T := T) (T' := T') (L := L) fun x hx => h x (List.mem_cons_of_mem _ hx)
    obtain ⟨h1, h2⟩ := h p (List.mem_cons_self ..)
    unfold liveL at ih ⊢
    rw [List.filter_cons, List.filter_cons]
    cases hc' : T'.cnt p.2.mn with
    | false =>
      simp only [Bool.false_eq_true, if_false]
      cases hc : T.cnt p.2.mn with
      | false => simp only [Bool.false_eq_true, if_false]; exact ih
      | true => simp only [if_true, List.map_cons]; rw [List.filter_cons]; simp only [hc', Bool.false_eq_true, if_false]; exact ih
    | true =>
      have hc := h1 hc'
      simp only [hc, if_true, List.map_cons]
      rw [List.filter_cons]
      simp only [hc', if_true, List.map_cons]
      rw [ih]
      congr 1
      unfold cutX effB
      cases hm : T.cnt p.2.mx with
      | true => simp only [if_true]
      | false =>
        have : T'.cnt p.2.mx = false := by
          cases hx : T'.cnt p.2.mx with
          | false => rfl
          | true => rw [h2 hx] at hm; cases hm
        simp only [this, Bool.false_eq_true, if_false, cnt_zero]

/-- What is kept of a row: its versions that count are those of the writings E, all of which count. -/
structure RowE (T : Tb) (L : List (Nat × Tup)) (E : List Wt) : Prop where
  live : liveL T L = specE E
  dead : ∀ p ∈ L, T.cnt p.2.mx = true → T.cnt p.2.mn = true
  lim : ∀ p ∈ L, p.2.mn ≤ T.n ∧ p.2.mx ≤ T.n
  cnt : ∀ e ∈ E, T.cnt e.1 = true
  wf : ∀ X e Y, E = X ++ e :: Y → e.2 < 0 → 0 ≤ valE X

theorem RowE.mem {T : Tb} {L : List (Nat × Tup)} {E : List Wt} (h : RowE T L E) {p : Nat × Tup} (hp : p ∈ L) (hc : T.cnt p.2.mn = true) : (p.2.mn, oneN p.2, effB T p.2.mx) ∈ specE E := by
  rw [← h.live]
  unfold liveL
  exact List.mem_map.2 ⟨p, List.mem_filter.2 ⟨hp, hc⟩, rfl⟩
theorem RowE.of {T : Tb} {L : List (Nat × Tup)} {E : List Wt} (h : RowE T L E) {x : Int × Int × Int} (hx : x ∈ specE E) : ∃ p ∈ L, T.cnt p.2.mn = true ∧ p.2.mn = x.1 ∧ oneN p.2 = x.2.1 ∧ effB T p.2.mx = x.2.2 := by
  rw [← h.live] at hx
  unfold liveL at hx
  obtain ⟨p, hp, rfl⟩ := List.mem_map.1 hx
  obtain ⟨h1, h2⟩ := List.mem_filter.1 hp
  exact ⟨p, h1, h2, rfl, rfl, rfl⟩
theorem eff_on {T : Tb} {x : Int} (h : T.cnt x = true) : effB T x = x := by unfold effB; rw [if_pos h]
theorem cnt_nz {T : Tb} {x : Int} (h : T.cnt x = true) : x ≠ 0 := by rintro rfl; rw [cnt_zero] at h; cases h

/-- When the writings E2 don't count any more. -/
theorem RowE.cut {T T' : Tb} {L : List (Nat × Tup)} {E1 E2 : List Wt} (h : RowE T L (E1 ++ E2)) (hn : T.n ≤ T'.n) (hs : ∀ x : Int, x ≤ T.n → T'.cnt x = true → T.cnt x = true) (h1 : ∀ e ∈ E1, T'.cnt e.1 = true) (h2 : ∀ e ∈ E2, T'.cnt e.1 = false) : RowE T' L E1 := by
  refine ⟨?_, fun p hp hc => ?_, fun p hp => ⟨by have := (h.lim p hp).1; omega, by have := (h.lim p hp).2; omega⟩, h1, fun X e Y he => h.wf X e (Y ++ E2) (by rw [he]; simp)⟩
  · rw [live_cut (T := T) fun p hp => ⟨hs _ (h.lim p hp).1, hs _ (h.lim p hp).2⟩, h.live]
    exact spec_cut (cnt_zero T') E1 E2 h1 h2
  · have c1 := hs _ (h.lim p hp).2 hc
    have c2 := h.dead p hp c1
    obtain ⟨X, e, Y, h3, h4, -, -, h5⟩ := spec_mem (h.mem hp c2)
    simp only at h4 h5
    rw [eff_on c1] at h5
    cases Y with
    | nil => exact absurd h5 (cnt_nz c1)
    | cons e' Y =>
      have h6 : T'.cnt e'.1 = true := by rw [← show p.2.mx = e'.1 from h5]; exact hc
      have hno : e' ∉ E2 := fun hm => by rw [h2 e' hm] at h6; cases h6
      rw [h4]
      rcases List.append_eq_append_iff.1 h3 with ⟨ys, -, e2⟩ | ⟨bs, e1, e2⟩
      · exact absurd (by rw [e2]; simp) hno
      · cases bs with
        | nil => exact absurd (by rw [List.nil_append] at e2; rw [← e2]; simp) hno
        | cons b bs =>
          rw [List.cons_append] at e2
          have e3 : e = b := (List.cons.inj e2).1
          exact h1 e (by rw [e1, e3]; simp)

/-- Whose a row is. -/
theorem RowE.own {T : Tb} {L : List (Nat × Tup)} {E : List Wt} (h : RowE T L E) (m : Int) : ownR T m L = E.any fun e => T.ownB m e.1 := by
  have hoc : ∀ {x}, T.ownB m x = true → T.cnt x = true := fun {x} hx => by unfold Tb.ownB at hx; exact (Bool.and_eq_true_iff.1 hx).1
  apply Bool.eq_iff_iff.2
  unfold ownR
  rw [List.any_eq_true, List.any_eq_true]
  constructor
  · rintro ⟨p, hp, ho⟩
    unfold ownP at ho
    rw [Bool.or_eq_true] at ho
    rcases ho with ho | ho
    · obtain ⟨X, e, Y, h3, h4, -⟩ := spec_mem (h.mem hp (hoc ho))
      exact ⟨e, by rw [h3]; simp, by rw [← h4]; exact ho⟩
    · have c1 := hoc ho
      obtain ⟨X, e, Y, h3, -, -, -, h5⟩ := spec_mem (h.mem hp (h.dead p hp c1))
      simp only at h5
      rw [eff_on c1] at h5
      cases Y with
      | nil => exact absurd h5 (cnt_nz c1)
      | cons e' Y => exact ⟨e', by rw [h3]; simp, by rw [← show p.2.mx = e'.1 from h5]; exact ho⟩
  · rintro ⟨e, he, ho⟩
    obtain ⟨X, Y, rfl⟩ := List.append_of_mem he
    by_cases h0 : e.2 < 0
    · have hv := h.wf X e Y rfl h0
      unfold valE at hv
      cases hX : X.getLast? with
      | none => rw [hX] at hv; simp at hv
      | some e0 =>
        rw [hX] at hv
        have h1 : 0 ≤ e0.2 := by
          by_cases h2 : e0.2 < 0
          · simp [h2] at hv
          · omega
        obtain ⟨X', hX'⟩ := List.getLast?_eq_some_iff.1 hX
        subst hX'
        have hm := spec_has X' e0 (e :: Y) h1
        rw [show X' ++ e0 :: e :: Y = X' ++ [e0] ++ e :: Y by simp] at hm
        obtain ⟨p, hp, -, -, -, h4⟩ := h.of hm
        have h5 : effB T p.2.mx = e.1 := h4
        have h6 : p.2.mx = e.1 := by
          unfold effB at h5
          by_cases h7 : T.cnt p.2.mx = true
          · rwa [if_pos h7] at h5
          · rw [if_neg h7] at h5
            exact absurd h5.symm (cnt_nz (hoc ho))
        exact ⟨p, hp, by unfold ownP; rw [h6, ho, Bool.or_true]⟩
    · obtain ⟨p, hp, -, h3, -⟩ := h.of (spec_has X e Y (by omega))
      exact ⟨p, hp, by unfold ownP; rw [h3]; simp [ho]⟩

/-- What is seen of a row by somebody whom just the writings Y affect. -/
theorem RowE.seen {T : Tb} {A : Ab} {y : Int} {X Y Z : List Wt} (hA : A.Ok) (h : RowE T (A.vs 1 y) (X ++ (Y ++ Z))) (a m : Int) {own : Bool} (ho : ownR T m (A.vs 1 y) = own) (hx : ∀ e ∈ X, affB T own a m e.1 = false) (hy : ∀ e ∈ Y, affB T own a m e.1 = true) (hz : ∀ e ∈ Z, affB T own a m e.1 = false) : wsV T A a m y = valE Y := by
  rw [wsV_live hA, ho, h.live]
  exact spec_seen (aff_zero T own a m) X Y Z hx hy hz

end Go.Proofs.Ytbgnbaogclnpgaa

namespace Go.Proofs.Ytbgnbaogclnpgaa
set_option linter.unusedVariables false

/-- The versions of writings of which k ended the last one. -/
def specTo : List Wt → Int → List (Int × Int × Int)
  | [], _ => []
  | e :: r, k => (if e.2 < 0 then [] else [(e.1, e.2, if r = [] then k else nextE r)]) ++ specTo r k
theorem specTo_zero : ∀ E, specTo E 0 = specE E
  | [] => rfl
  | e :: r => by
    rw [specTo, spec_cons, specTo_zero r]
    cases r <;> simp [nextE]
theorem specTo_snoc : ∀ (X : List Wt) (l : Wt) (k : Int), specTo (X ++ [l]) k = specTo X l.1 ++ (if l.2 < 0 then [] else [(l.1, l.2, k)])
  | [], l, k => by simp [specTo]
  | e :: X, l, k => by
    rw [List.cons_append, specTo, specTo, specTo_snoc X l k, ← List.append_assoc]
    cases X <;> simp [nextE]
theorem specTo_ne : ∀ {X : List Wt} {k : Int}, (∀ e ∈ X, e.1 ≠ 0) → k ≠ 0 → ∀ x ∈ specTo X k, x.2.2 ≠ 0
  | [], k, _, _, x, hx => by cases hx
  | e :: X, k, h, hk, x, hx => by
    rw [specTo, List.mem_append] at hx
    rcases hx with hx | hx
    · by_cases h1 : e.2 < 0
      · rw [if_pos h1] at hx; cases hx
      · rw [if_neg h1, List.mem_singleton] at hx
        subst hx
        cases X with
        | nil => simpa using hk
        | cons e' r => simpa [nextE] using h e' (by simp)
    · exact specTo_ne (fun z hz => h z (List.mem_cons_of_mem _ hz)) hk x hx
theorem spec_snoc (X : List Wt) (l : Wt) : specE (X ++ [l]) = specTo X l.1 ++ (if l.2 < 0 then [] else [(l.1, l.2, 0)]) := by rw [← specTo_zero, specTo_snoc]

/-- The list's one with nobody behind it stands last. -/
theorem last_one {α : Type} {S U W : List α} {a : α} (h : S ++ [a] = U ++ a :: W) (hn : a ∉ S) : W = [] ∧ U = S := by
  rcases List.append_eq_append_iff.1 h with ⟨ys, e1, e2⟩ | ⟨ys, e1, e2⟩
  · cases ys with
    | nil => simp at e2 e1; exact ⟨e2, e1⟩
    | cons b ys => simp at e2
  · cases ys with
    | nil => simp at e2 e1; exact ⟨e2, e1.symm⟩
    | cons b ys =>
      rw [List.cons_append] at e2
      have := (List.cons.inj e2).1
      exact absurd (by rw [e1, ← this]; simp) hn

theorem vs_kill (A : Ab) (i : Nat) (a c x y : Int) : (A.kill i a c).vs x y = (A.vs x y).map (killP i a c) := by
  unfold Ab.vs Ab.kill
  rw [List.filter_map]
  congr 1
  refine List.filter_congr fun p _ => ?_
  show decide ((killP i a c p).2.no = x ∧ (killP i a c p).2.id = y) = _
  rw [(killP_no i a c p).1, (killP_no i a c p).2]
theorem vs_put (A : Ab) (t : Tup) (x y : Int) : (A.put t).vs x y = A.vs x y ++ (if t.no = x ∧ t.id = y then [(A.slot, t)] else []) := by
  unfold Ab.vs Ab.put
  rw [List.filter_append]
  congr 1
  by_cases h : t.no = x ∧ t.id = y <;> simp [h]
theorem killP_id {i : Nat} {a c : Int} : ∀ {L : List (Nat × Tup)}, i ∉ L.map Prod.fst → L.map (killP i a c) = L
  | [], _ => rfl
  | p :: L, h => by
    rw [List.map_cons, List.mem_cons, not_or] at h
    rw [List.map_cons, killP_id h.2]
    unfold killP
    rw [if_neg (fun e => h.1 e.symm)]
theorem live_app (T : Tb) (L M : List (Nat × Tup)) : liveL T (L ++ M) = liveL T L ++ liveL T M := by unfold liveL; rw [List.filter_append, List.map_append]
theorem live_one {T : Tb} {p : Nat × Tup} (h : T.cnt p.2.mn = true) (M : List (Nat × Tup)) : liveL T (p :: M) = (p.2.mn, oneN p.2, effB T p.2.mx) :: liveL T M := by unfold liveL; rw [List.filter_cons, h, if_pos rfl]; rfl

/-- Who is affected by the tail Y of a row's writings (by all of them, or by one's own) sees the open version, if there is one. -/
theorem RowE.open {T : Tb} {A : Ab} {y : Int} {X Y : List Wt} (h : RowE T (A.vs 1 y) (X ++ Y)) (a m : Int) {own : Bool} (ho : ownR T m (A.vs 1 y) = own) (hx : ∀ e ∈ X, affB T own a m e.1 = false) (hy : ∀ e ∈ Y, affB T own a m e.1 = true) (hxy : Y = [] → X = []) :
    (seenO T A a m 1 y = none ∧ ¬ 0 ≤ valE (X ++ Y)) ∨ ∃ p S l, X ++ Y = S ++ [l] ∧ 0 ≤ l.2 ∧ seenO T A a m 1 y = some p ∧ p ∈ A.vs 1 y ∧ T.cnt p.2.mn = true ∧ (p.2.mn, oneN p.2, effB T p.2.mx) = (l.1, l.2, 0) := by
  have hs : seenO T A a m 1 y = ((A.vs 1 y).filter fun p => visB T own a m p.2).getLast? := by
    unfold seenO seenL
    rw [ho, ← List.head?_filter, List.filter_reverse, List.head?_reverse]
  have h0 := aff_zero T own a m
  have hf : (specE (X ++ Y)).filter (visT (affB T own a m)) = (specE Y).filter (visT (affB T own a m)) := spec_skips X Y hx
  rcases List.eq_nil_or_concat Y with hY | ⟨S, l, hY⟩
  · have hX := hxy hY
    subst hY hX
    refine .inl ⟨?_, by decide⟩
    have hl : liveL T (A.vs 1 y) = [] := h.live
    have hnil : ((A.vs 1 y).filter fun p => visB T own a m p.2) = [] := by
      rw [List.filter_eq_nil_iff]
      intro p hp hv
      rw [vis_live, Bool.and_eq_true] at hv
      have := h.mem hp hv.1
      cases this
    rw [hs, hnil]
    rfl
  · rw [List.concat_eq_append] at hY
    subst hY
    have hl := hy l (by simp)
    have hv : valE (X ++ (S ++ [l])) = if l.2 < 0 then -1 else l.2 := by
      unfold valE
      rw [← List.append_assoc, List.getLast?_concat]
    have hvis : (specE (S ++ [l])).filter (visT (affB T own a m)) = if l.2 < 0 then [] else [(l.1, l.2, 0)] := by
      rw [spec_snoc, List.filter_append]
      have : (specTo S l.1).filter (visT (affB T own a m)) = [] := by
        rw [List.filter_eq_nil_iff]
        intro x hx2
        have hall : ∀ (S : List Wt), (∀ e ∈ S, affB T own a m e.1 = true) → ∀ x ∈ specTo S l.1, affB T own a m x.2.2 = true := by
          intro S
          induction S with
          | nil => intro _ x hx; cases hx
          | cons e r ih =>
            intro hS x hx
            rw [specTo, List.mem_append] at hx
            rcases hx with hx | hx
            · by_cases h1 : e.2 < 0
              · rw [if_pos h1] at hx; cases hx
              · rw [if_neg h1, List.mem_singleton] at hx
                subst hx
                cases r with
                | nil => simpa using hl
                | cons e' r => simpa [nextE] using hS e' (by simp)
            · exact ih (fun z hz => hS z (List.mem_cons_of_mem _ hz)) x hx
        have := hall S (fun e he => hy e (by simp [he])) x hx2
        unfold visT
        rw [this]
        simp
      rw [this, List.nil_append]
      by_cases h1 : l.2 < 0
      · rw [if_pos h1]; rfl
      · rw [if_neg h1]; simp [visT, hl, h0]
    have hm : ((A.vs 1 y).filter fun p => visB T own a m p.2).map (fun p => oneN p.2) = ((specE (X ++ (S ++ [l]))).filter (visT (affB T own a m))).map (fun x => x.2.1) := by rw [filter_live, h.live]
    rw [hf, hvis] at hm
    by_cases h1 : l.2 < 0
    · rw [if_pos h1] at hm hv
      refine .inl ⟨?_, by rw [hv]; omega⟩
      rw [hs, List.map_eq_nil_iff.1 hm]
      rfl
    · rw [if_neg h1] at hm hv
      obtain ⟨p, hp⟩ : ∃ p, ((A.vs 1 y).filter fun p => visB T own a m p.2) = [p] := by
        have hlen := congrArg List.length hm
        simp only [List.length_map, List.length_singleton, List.map_cons, List.map_nil] at hlen
        exact List.length_eq_one_iff.1 hlen
      have hmem : p ∈ (A.vs 1 y).filter fun p => visB T own a m p.2 := by rw [hp]; exact List.mem_singleton.2 rfl
      obtain ⟨hp1, hp2⟩ := List.mem_filter.1 hmem
      rw [vis_live, Bool.and_eq_true] at hp2
      have hin := h.mem hp1 hp2.1
      have hin2 : (p.2.mn, oneN p.2, effB T p.2.mx) ∈ (specE (X ++ (S ++ [l]))).filter (visT (affB T own a m)) := List.mem_filter.2 ⟨hin, hp2.2⟩
      rw [hf, hvis, if_neg h1, List.mem_singleton] at hin2
      exact .inr ⟨p, X ++ S, l, by rw [List.append_assoc], by omega, by rw [hs, hp]; rfl, hp1, hp2.1, hin2⟩

end Go.Proofs.Ytbgnbaogclnpgaa

namespace Go.Proofs.Ytbgnbaogclnpgaa
set_option linter.unusedVariables false

theorem nd_eq {A : Ab} (hA : A.Ok) {p q : Nat × Tup} (hp : p ∈ A.pl) (hq : q ∈ A.pl) (e : p.1 = q.1) : p = q := by
  have h1 := (hA.tup p.1 p.2).2 hp
  have h2 := (hA.tup q.1 q.2).2 hq
  rw [e, h2] at h1
  exact Prod.ext e (Option.some.inj h1).symm
theorem vs_pl {A : Ab} {x y : Int} {p : Nat × Tup} (hp : p ∈ A.vs x y) : p ∈ A.pl ∧ p.2.no = x ∧ p.2.id = y := by
  obtain ⟨h1, h2⟩ := List.mem_filter.1 hp
  exact ⟨h1, of_decide_eq_true h2⟩
theorem kl_some {A : Ab} (hA : A.Ok) {p : Nat × Tup} (hp : p ∈ A.pl) (a c : Int) : A.kl (p.1 : Int) a c = A.kill p.1 a c := by
  unfold Ab.kl Ab.tupI
  rw [if_pos (show (0 : Int) ≤ (p.1 : Int) by omega), Int.toNat_natCast, (hA.tup p.1 p.2).2 hp]
  simp
theorem vs_nodup {A : Ab} (hA : A.Ok) (x y : Int) : ((A.vs x y).map Prod.fst).Nodup := (List.filter_sublist.map Prod.fst).nodup hA.nd
theorem kill_other {A : Ab} (hA : A.Ok) {y y' : Int} {p : Nat × Tup} (hp : p ∈ A.vs 1 y) (hne : y' ≠ y) (a c : Int) : (A.kill p.1 a c).vs 1 y' = A.vs 1 y' := by
  rw [vs_kill]
  refine killP_id fun hm => ?_
  obtain ⟨q, hq, e⟩ := List.mem_map.1 hm
  have h1 := nd_eq hA (vs_pl hq).1 (vs_pl hp).1 e
  subst h1
  exact hne ((vs_pl hq).2.2.symm.trans (vs_pl hp).2.2)
theorem kill_this {A : Ab} (hA : A.Ok) {y : Int} {p : Nat × Tup} (hp : p ∈ A.vs 1 y) (a c : Int) : ∃ L1 L2, A.vs 1 y = L1 ++ p :: L2 ∧ (A.kill p.1 a c).vs 1 y = L1 ++ (p.1, p.2.kill a c) :: L2 := by
  obtain ⟨L1, L2, e⟩ := List.append_of_mem hp
  refine ⟨L1, L2, e, ?_⟩
  have hnd := vs_nodup hA 1 y
  rw [e, List.map_append, List.map_cons] at hnd
  have h1 := List.nodup_append.1 hnd
  have hn1 : p.1 ∉ L1.map Prod.fst := fun hm => h1.2.2 p.1 hm p.1 (List.mem_cons_self ..) rfl
  have hn2 : p.1 ∉ L2.map Prod.fst := (List.nodup_cons.1 h1.2.1).1
  rw [vs_kill, e, List.map_append, List.map_cons, killP_id hn1, killP_id hn2]
  congr 2
  unfold killP
  rw [if_pos rfl]

theorem put_vs {A : Ab} {y sub n : Int} (hy : Most y) (y' : Int) : (A.pt (tupR 1 y sub n)).vs 1 y' = A.vs 1 y' ++ (if y = y' then [(A.slot, tupR 1 y sub n)] else []) := by
  have hg : goodT (tupR 1 y sub n) := ⟨⟨by show (1 : Int) ≤ 1; omega, by show (1 : Int) ≤ 2147483647; omega⟩, hy⟩
  unfold Ab.pt
  rw [if_pos hg, vs_put]
  congr 1
  show (if (1 : Int) = 1 ∧ y = y' then _ else _) = _
  by_cases h : y = y' <;> simp [h]

/-- A version is put behind the others. -/
theorem RowE.put {T : Tb} {L : List (Nat × Tup)} (hd : ∀ p ∈ L, T.cnt p.2.mx = true → T.cnt p.2.mn = true) (hl : ∀ p ∈ L, p.2.mn ≤ T.n ∧ p.2.mx ≤ T.n) {s : Nat} {y sub n : Int} (hc : T.cnt sub = true) (hs : sub ≤ T.n) :
    liveL T (L ++ [(s, tupR 1 y sub n)]) = liveL T L ++ [(sub, n, 0)] ∧ (∀ p ∈ L ++ [(s, tupR 1 y sub n)], T.cnt p.2.mx = true → T.cnt p.2.mn = true) ∧ ∀ p ∈ L ++ [(s, tupR 1 y sub n)], p.2.mn ≤ T.n ∧ p.2.mx ≤ T.n := by
  refine ⟨?_, fun p hp hcm => ?_, fun p hp => ?_⟩
  · rw [live_app, live_one (show T.cnt (tupR 1 y sub n).mn = true from hc)]
    show _ ++ [(sub, n, effB T 0)] = _
    unfold effB
    rw [cnt_zero]
    rfl
  · rcases List.mem_append.1 hp with hp | hp
    · exact hd p hp hcm
    · rw [List.mem_singleton.1 hp]; exact hc
  · rcases List.mem_append.1 hp with hp | hp
    · exact hl p hp
    · rw [List.mem_singleton.1 hp]
      exact ⟨hs, by show (0 : Int) ≤ _; omega⟩

theorem wf_snoc {E : List Wt} {e : Wt} (h : ∀ X e Y, E = X ++ e :: Y → e.2 < 0 → 0 ≤ valE X) (he : e.2 < 0 → 0 ≤ valE E) : ∀ X f Y, E ++ [e] = X ++ f :: Y → f.2 < 0 → 0 ≤ valE X := by
  intro X f Y hx hf
  rcases List.eq_nil_or_concat Y with hY | ⟨Y', b, hY⟩
  · subst hY
    have := List.append_inj' hx rfl
    rw [← this.1]
    have e2 : e = f := (List.cons.inj this.2).1
    exact he (by rw [e2]; exact hf)
  · rw [List.concat_eq_append] at hY
    subst hY
    have : E ++ [e] = (X ++ f :: Y') ++ [b] := by rw [hx]; simp
    exact h X f Y' (List.append_inj' this rfl).1 hf

/-- One more writing. -/
theorem RowE.write {T : Tb} {A : Ab} {y : Int} {X Y : List Wt} (hA : A.Ok) (h : RowE T (A.vs 1 y) (X ++ Y)) (hy : Most y) (top sub n : Int) (hc : T.cnt sub = true) (hsn : sub ≤ T.n) {own : Bool} (ho : ownR T top (A.vs 1 y) = own) (hx : ∀ e ∈ X, affB T own T.last top e.1 = false) (hyy : ∀ e ∈ Y, affB T own T.last top e.1 = true) (hxy : Y = [] → X = []) (hlock : lockB T A top y = false) :
    wrB T A top y n = decide (0 ≤ valE (X ++ Y) ∨ 0 ≤ n) ∧ (wrB T A top y n = true → RowE T ((wrA T A top sub y n).vs 1 y) (X ++ Y ++ [(sub, n)])) ∧ ∀ y', y' ≠ y → (wrA T A top sub y n).vs 1 y' = A.vs 1 y' := by
  obtain ⟨E, hE⟩ : ∃ E, X ++ Y = E := ⟨_, rfl⟩
  have hop := h.open T.last top ho hx hyy hxy
  rw [hE] at h hop ⊢
  have hcnt : ∀ e ∈ E ++ [(sub, n)], T.cnt e.1 = true := fun e he => (List.mem_append.1 he).elim (h.cnt e) (fun q => by rw [List.mem_singleton.1 q]; exact hc)
  rcases hop with ⟨hs, hv⟩ | ⟨p, S, l, hS, hl, hs, hp, hcp, hpe⟩
  · have hsb : seenB T A T.last top 1 y = false := by unfold seenB; rw [hs]; rfl
    have hw : wrB T A top y n = !decide (n < 0) := by unfold wrB; rw [hlock, hsb]; rfl
    by_cases hn : n < 0
    · have hwf : wrB T A top y n = false := by rw [hw, decide_eq_true hn]; rfl
      refine ⟨by rw [hwf]; symm; exact decide_eq_false (fun q => q.elim hv (fun q => by omega)), fun q => (by rw [hwf] at q; cases q), fun y' _ => ?_⟩
      unfold wrA
      rw [hwf]
      rfl
    · have hwt : wrB T A top y n = true := by rw [hw, decide_eq_false hn]; rfl
      have hwa : wrA T A top sub y n = A.pt (tupR 1 y sub n) := by
        unfold wrA
        rw [if_pos hwt, hsb]
        simp only [Bool.false_eq_true, if_false]
        rw [if_neg hn]
      have hto : specTo E sub = specE E := by
        rcases List.eq_nil_or_concat E with hE0 | ⟨S, l, hE0⟩
        · rw [hE0]; rfl
        · rw [List.concat_eq_append] at hE0
          rw [hE0, specTo_snoc, spec_snoc]
          have : l.2 < 0 := by
            have h9 : valE E = if l.2 < 0 then -1 else l.2 := by unfold valE; rw [hE0, List.getLast?_concat]
            by_cases h1 : l.2 < 0
            · exact h1
            · rw [if_neg h1] at h9; omega
          rw [if_pos this, if_pos this]
      obtain ⟨r1, r2, r3⟩ := RowE.put h.dead h.lim (s := A.slot) (y := y) (n := n) hc hsn
      refine ⟨by rw [hwt]; symm; exact decide_eq_true (.inr (by omega)), fun _ => ?_, fun y' hne => ?_⟩
      · rw [hwa, put_vs hy, if_pos rfl]
        refine ⟨?_, r2, r3, hcnt, wf_snoc h.wf (fun q => absurd q hn)⟩
        rw [r1, h.live, spec_snoc, if_neg hn, hto]
      · rw [hwa, put_vs hy, if_neg (fun e => hne e.symm), List.append_nil]
  · have hsb : seenB T A T.last top 1 y = true := by unfold seenB; rw [hs]; rfl
    have hsv : seenV T A T.last top 1 y = (p.1 : Int) := by unfold seenV; rw [hs]; rfl
    have hwt : wrB T A top y n = true := by unfold wrB; rw [hlock, hsb]; rfl
    have hve : 0 ≤ valE E := by
      unfold valE
      rw [hS, List.getLast?_concat]
      show 0 ≤ if l.2 < 0 then -1 else l.2
      rw [if_neg (by omega)]
      exact hl
    obtain ⟨L1, L2, e1, e2⟩ := kill_this hA hp sub 0
    have hwa : wrA T A top sub y n = if n < 0 then A.kill p.1 sub 0 else (A.kill p.1 sub 0).pt (tupR 1 y sub n) := by
      unfold wrA
      rw [if_pos hwt, hsb, hsv, kl_some hA (vs_pl hp).1]
      rfl
    have hlive := h.live
    rw [e1, live_app, live_one hcp, hpe, hS, spec_snoc, if_neg (by omega)] at hlive
    have hne : ∀ e ∈ E, e.1 ≠ 0 := fun e he => cnt_nz (h.cnt e he)
    obtain ⟨f1, f2⟩ := last_one hlive.symm (fun hm => specTo_ne (fun e he => hne e (by rw [hS]; simp [he])) (hne l (by rw [hS]; simp)) _ hm rfl)
    have hm1 : p.2.mn = l.1 := congrArg (fun x => x.1) hpe
    have hm2 : oneN p.2 = l.2 := congrArg (fun x => x.2.1) hpe
    have hliveB : liveL T (L1 ++ (p.1, p.2.kill sub 0) :: L2) = specTo S l.1 ++ [(l.1, l.2, sub)] := by
      rw [live_app, live_one (p := (p.1, p.2.kill sub 0)) hcp, f1, f2]
      show _ ++ [(p.2.mn, oneN p.2, effB T sub)] = _
      rw [hm1, hm2, eff_on hc]
    have hdB : ∀ q ∈ L1 ++ (p.1, p.2.kill sub 0) :: L2, T.cnt q.2.mx = true → T.cnt q.2.mn = true := fun q hq hcm => by
      rcases List.mem_append.1 hq with hq | hq
      · exact h.dead q (by rw [e1]; simp [hq]) hcm
      · rcases List.mem_cons.1 hq with hq | hq
        · rw [hq]; exact hcp
        · exact h.dead q (by rw [e1]; simp [hq]) hcm
    have hlB : ∀ q ∈ L1 ++ (p.1, p.2.kill sub 0) :: L2, q.2.mn ≤ T.n ∧ q.2.mx ≤ T.n := fun q hq => by
      rcases List.mem_append.1 hq with hq | hq
      · exact h.lim q (by rw [e1]; simp [hq])
      · rcases List.mem_cons.1 hq with hq | hq
        · rw [hq]; exact ⟨(h.lim p hp).1, hsn⟩
        · exact h.lim q (by rw [e1]; simp [hq])
    refine ⟨by rw [hwt]; symm; exact decide_eq_true (.inl hve), fun _ => ?_, fun y' hne => ?_⟩
    · by_cases hn : n < 0
      · rw [hwa, if_pos hn, e2]
        refine ⟨?_, hdB, hlB, hcnt, wf_snoc h.wf (fun _ => hve)⟩
        rw [hliveB, hS, spec_snoc, if_pos hn, specTo_snoc, if_neg (by omega), List.append_nil]
      · rw [hwa, if_neg hn, put_vs hy, if_pos rfl, e2]
        obtain ⟨r1, r2, r3⟩ := RowE.put hdB hlB (s := (A.kill p.1 sub 0).slot) (y := y) (n := n) hc hsn
        refine ⟨?_, r2, r3, hcnt, wf_snoc h.wf (fun _ => hve)⟩
        rw [r1, hliveB, hS, spec_snoc, if_neg hn, specTo_snoc, if_neg (by omega)]
    · by_cases hn : n < 0
      · rw [hwa, if_pos hn, kill_other hA hp hne]
      · rw [hwa, if_neg hn, put_vs hy, if_neg (fun e => hne e.symm), List.append_nil, kill_other hA hp hne]

/-- What begins or is committed leaves the row as it is. -/
theorem RowE.same {T T' : Tb} {L : List (Nat × Tup)} {E : List Wt} (h : RowE T L E) (hn : T.n ≤ T'.n) (hs : ∀ x : Int, x ≤ T.n → T'.cnt x = T.cnt x) : RowE T' L E := by
  have hin : ∀ e ∈ E, e.1 ≤ T.n := fun e he => by
    have hc := h.cnt e he
    by_cases hg : 1 ≤ e.1 ∧ e.1 ≤ T.n
    · exact hg.2
    · unfold Tb.cnt at hc
      rw [Tb.g_out hg] at hc
      simp at hc
  have h1 := RowE.cut (E1 := E) (E2 := []) (by rw [List.append_nil]; exact h) hn (fun x hx hc => by rw [← hs x hx]; exact hc) (fun e he => by rw [hs _ (hin e he)]; exact h.cnt e he) (fun _ he => by cases he)
  exact h1

end Go.Proofs.Ytbgnbaogclnpgaa

namespace Go.Proofs.Ytbgnbaogclnpgaa
set_option linter.unusedVariables false

theorem add_g {T : Tb} {p : Nat} {f f' : Nat → Nat} (h : ∀ k, k ≠ T.n + 1 → f' k = f k) {x : Int} (hx : x ≤ T.n) : (T.add p).g f' x = T.g f x := by
  by_cases h1 : 1 ≤ x
  · rw [Tb.g_in (T := T.add p) ⟨h1, by show x ≤ ((T.n + 1 : Nat) : Int); omega⟩, Tb.g_in ⟨h1, hx⟩, h _ (by omega)]
  · rw [Tb.g_out (T := T.add p) (by omega), Tb.g_out (by omega)]

/-- Behind a beginning, of those that were there. -/
theorem beg_old {T : Tb} (hok : T.Ok) {p : Int} (he : T.begE p = 0) : (T.begT p).n = T.n + 1 ∧ T.begI p = T.n + 1 ∧ (T.begT p).last = T.last ∧ ∀ x : Int, x ≤ T.n → (T.begT p).cnt x = T.cnt x ∧ (T.begT p).numI x = T.numI x ∧ (T.begT p).g (T.begT p).top x = T.g T.top x := by
  unfold Tb.begT Tb.begI
  rw [if_pos he, if_pos he]
  refine ⟨rfl, rfl, rfl, fun x hx => ?_⟩
  have hst : (T.add p.toNat).g (T.add p.toNat).st x = T.g T.st x := add_g (fun k hk => upd_ne _ _ _ hk) hx
  have htp : (T.add p.toNat).g (T.add p.toNat).top x = T.g T.top x := add_g (fun k hk => upd_ne _ _ _ hk) hx
  have hc : (T.add p.toNat).cnt x = T.cnt x := by unfold Tb.cnt; rw [hst]
  have ht : T.g T.top x ≤ T.n := by
    by_cases h1 : 1 ≤ x
    · rw [Tb.g_in ⟨h1, hx⟩]
      have := (hok.top_in x.toNat (by omega) (by omega)).2.1
      omega
    · rw [Tb.g_out (by omega)]; omega
  refine ⟨hc, ?_, htp⟩
  have hnm : (T.add p.toNat).g (T.add p.toNat).num (T.g T.top x) = T.g T.num (T.g T.top x) := add_g (fun k hk => upd_ne _ _ _ hk) ht
  unfold Tb.numI
  rw [hc, htp, hnm]

/-- Behind a beginning, of the new one. -/
theorem beg_new {T : Tb} (hok : T.Ok) {p : Int} (he : T.begE p = 0) : (T.begT p).cnt ((T.n : Int) + 1) = true ∧ (T.begT p).g (T.begT p).st ((T.n : Int) + 1) = 1 ∧ (T.begT p).g (T.begT p).top ((T.n : Int) + 1) = if p = 0 then (T.n : Int) + 1 else T.g T.top p := by
  have hp0 : p ≠ 0 → 1 ≤ p ∧ p ≤ T.n := fun h0 => by
    unfold Tb.begE at he
    rw [if_neg h0] at he
    have := Tb.err_ok he
    exact ⟨this.1, this.2.1⟩
  unfold Tb.begT
  rw [if_pos he]
  have hin : 1 ≤ ((T.n : Int) + 1) ∧ ((T.n : Int) + 1) ≤ ((T.add p.toNat).n : Int) := ⟨by omega, by show _ ≤ ((T.n + 1 : Nat) : Int); omega⟩
  have ht : ((T.n : Int) + 1).toNat = T.n + 1 := by omega
  have hst : (T.add p.toNat).g (T.add p.toNat).st ((T.n : Int) + 1) = 1 := by
    rw [Tb.g_in hin, ht]
    show ((upd T.st (T.n + 1) 1 (T.n + 1) : Nat) : Int) = 1
    simp [upd]
  refine ⟨by unfold Tb.cnt; rw [hst]; rfl, hst, ?_⟩
  rw [Tb.g_in hin, ht]
  show ((upd T.top (T.n + 1) (if p.toNat = 0 then T.n + 1 else T.top p.toNat) (T.n + 1) : Nat) : Int) = _
  by_cases h0 : p = 0
  · subst h0
    simp [upd]
  · have := hp0 h0
    rw [if_neg h0, Tb.g_in this]
    have h1 : p.toNat ≠ 0 := by omega
    simp [upd, h1]

end Go.Proofs.Ytbgnbaogclnpgaa

namespace Go.Proofs.Ytbgnbaogclnpgaa
set_option linter.unusedVariables false

/-- Three sessions (ss: the transactions of each, the deepest one last), the writings of committed ones (C) and of those that run (P), row by row. -/
structure Inv (T : Tb) (A : Ab) (ss : Nat → List Int) (C P : Int → List Wt) : Prop where
  ok : T.Ok
  nums : T.Nums
  aok : A.Ok
  one : ∀ p ∈ A.pl, p.2.row.length = 1
  row : ∀ y, RowE T (A.vs 1 y) (C y ++ P y)
  cn : ∀ y, ∀ e ∈ C y, 0 < T.numI e.1
  cs : ∀ y, (C y).Pairwise fun e f => T.numI e.1 ≤ T.numI f.1
  pn : ∀ y, P y = [] ∨ ∃ k, k < 3 ∧ ∀ e ∈ P y, e.1 ∈ ss k
  ps : ∀ y, (P y).Pairwise fun e f => e.1 ≤ f.1
  run : ∀ k, k < 3 → ∀ s ∈ ss k, T.g T.st s = 1 ∧ T.g T.top s = (ss k).headD 0
  up : ∀ k, k < 3 → (ss k).Pairwise (· < ·)
  ne : ∀ j k, j < 3 → k < 3 → j ≠ k → ss j ≠ [] → ss k ≠ [] → (ss j).headD 0 ≠ (ss k).headD 0

theorem runs_in {T : Tb} {s : Int} (h : T.g T.st s = 1) : 1 ≤ s ∧ s ≤ T.n := by
  by_cases h1 : 1 ≤ s ∧ s ≤ T.n
  · exact h1
  · rw [Tb.g_out h1] at h; omega
theorem run_num {T : Tb} (hok : T.Ok) (hn : T.Nums) {s : Int} (h : T.g T.st s = 1) : T.numI s = 0 := by
  have h1 := runs_in h
  obtain ⟨k, rfl⟩ : ∃ k : Nat, s = (k : Int) := ⟨s.toNat, by omega⟩
  rw [Tb.g_in h1, Int.toNat_natCast] at h
  exact numI_run hok hn (by omega) (by omega) (by omega)
theorem run_cnt {T : Tb} {s : Int} (h : T.g T.st s = 1) : T.cnt s = true := by unfold Tb.cnt; rw [h]; rfl
theorem num_last {T : Tb} (hok : T.Ok) (hn : T.Nums) (x : Int) (h : 0 < T.numI x) : T.numI x ≤ T.last := by
  by_cases h1 : 1 ≤ x ∧ x ≤ T.n
  · obtain ⟨k, rfl⟩ : ∃ k : Nat, x = (k : Int) := ⟨x.toNat, by omega⟩
    obtain ⟨v, h2, h3, -⟩ := num_facts hok hn (k := k) (by omega) (by omega)
    rw [h2]
    omega
  · unfold Tb.numI Tb.cnt at h
    rw [Tb.g_out h1] at h
    simp at h

section
variable {T : Tb} {A : Ab} {ss : Nat → List Int} {C P : Int → List Wt}
theorem Inv.pend (H : Inv T A ss C P) {y : Int} {e : Wt} (he : e ∈ P y) : ∃ k, k < 3 ∧ e.1 ∈ ss k ∧ T.g T.st e.1 = 1 ∧ T.g T.top e.1 = (ss k).headD 0 := by
  rcases H.pn y with h | ⟨k, hk, h⟩
  · rw [h] at he; cases he
  · exact ⟨k, hk, h e he, H.run k hk _ (h e he)⟩
theorem Inv.pend0 (H : Inv T A ss C P) {y : Int} {e : Wt} (he : e ∈ P y) : T.numI e.1 = 0 := by
  obtain ⟨k, -, -, h, -⟩ := H.pend he
  exact run_num H.ok H.nums h
theorem Inv.aff0 (H : Inv T A ss C P) {y : Int} {e : Wt} (he : e ∈ P y) (a : Int) : affB T false a 0 e.1 = false := by
  unfold affB
  simp only [Bool.false_eq_true, if_false]
  rw [sees_none H.ok]
  unfold Tb.reachB
  rw [H.pend0 he]
  rfl
/-- Who looks now sees what is left by the committed ones. -/
theorem Inv.now (H : Inv T A ss C P) (y : Int) : wsV T A T.last 0 y = valE (C y) := by
  refine RowE.seen (X := []) (Y := C y) (Z := P y) H.aok (H.row y) T.last 0 (ownR_none H.ok _) (fun e he => by cases he) (fun e he => ?_) (fun e he => H.aff0 he _)
  unfold affB
  simp only [Bool.false_eq_true, if_false]
  rw [sees_none H.ok]
  unfold Tb.reachB
  have h1 := H.cn y e he
  rw [decide_eq_true h1, decide_eq_true (num_last H.ok H.nums _ h1)]
  rfl

/-- A list that doesn't fall, cut where it rises above a. -/
theorem cut_sorted {f : Wt → Int} (a : Int) : ∀ {l : List Wt}, l.Pairwise (fun e g => f e ≤ f g) → l = l.filter (fun e => decide (f e ≤ a)) ++ l.filter (fun e => !decide (f e ≤ a))
  | [], _ => rfl
  | e :: l, h => by
    obtain ⟨h1, h2⟩ := List.pairwise_cons.1 h
    have ih := cut_sorted a h2
    by_cases hc : f e ≤ a
    · rw [List.filter_cons, List.filter_cons]
      simp only [hc, decide_true, if_true, Bool.not_true, Bool.false_eq_true, if_false]
      rw [List.cons_append, ← ih]
    · have hn : l.filter (fun e => decide (f e ≤ a)) = [] := by
        rw [List.filter_eq_nil_iff]
        intro x hx hx2
        have := h1 x hx
        have := of_decide_eq_true hx2
        omega
      rw [hn, List.nil_append] at ih
      rw [List.filter_cons, List.filter_cons]
      simp only [hc, decide_false, Bool.false_eq_true, if_false, Bool.not_false, if_true]
      rw [hn, List.nil_append, ← ih]
/-- A snapshot sees what is left by those that were committed by then. -/
theorem Inv.at (H : Inv T A ss C P) (a y : Int) : wsV T A a 0 y = valE ((C y).filter fun e => decide (T.numI e.1 ≤ a)) := by
  have hrow := H.row y
  rw [cut_sorted (f := fun e => T.numI e.1) a (H.cs y), List.append_assoc] at hrow
  refine RowE.seen (X := []) H.aok hrow a 0 (ownR_none H.ok _) (fun e he => by cases he) (fun e he => ?_) (fun e he => ?_)
  · obtain ⟨h1, h2⟩ := List.mem_filter.1 he
    unfold affB
    simp only [Bool.false_eq_true, if_false]
    rw [sees_none H.ok]
    unfold Tb.reachB
    rw [decide_eq_true (H.cn y e h1), h2]
    rfl
  · rcases List.mem_append.1 he with he | he
    · obtain ⟨h1, h2⟩ := List.mem_filter.1 he
      unfold affB
      simp only [Bool.false_eq_true, if_false]
      rw [sees_none H.ok]
      unfold Tb.reachB
      have h3 : decide (T.numI e.1 ≤ a) = false := by simpa using h2
      rw [h3, Bool.and_false]
    · exact H.aff0 he a

theorem Inv.head (H : Inv T A ss C P) {k : Nat} (hk : k < 3) (hs : ss k ≠ []) : T.g T.st ((ss k).headD 0) = 1 := by
  cases h : ss k with
  | nil => exact absurd h hs
  | cons s r => exact (H.run k hk s (by rw [h]; simp)).1
/-- A committed one is nobody's own. -/
theorem Inv.notown (H : Inv T A ss C P) {k : Nat} (hk : k < 3) (hs : ss k ≠ []) {y : Int} {e : Wt} (he : e ∈ C y) : T.ownB ((ss k).headD 0) e.1 = false := by
  have hc := (H.row y).cnt e (List.mem_append_left _ he)
  have h1 := num_top H.ok hc
  have h2 := H.cn y e he
  unfold Tb.ownB
  rw [hc, Bool.true_and]
  refine decide_eq_false fun e2 => ?_
  rw [e2, run_num H.ok H.nums (H.head hk hs)] at h1
  omega
/-- A session that has written a row sees what it wrote. -/
theorem Inv.mine (H : Inv T A ss C P) {k : Nat} (hk : k < 3) (hs : ss k ≠ []) {y : Int} (hp : P y ≠ []) (hm : ∀ e ∈ P y, e.1 ∈ ss k) : wsV T A T.last ((ss k).headD 0) y = valE (P y) := by
  have hown : ∀ e ∈ P y, T.ownB ((ss k).headD 0) e.1 = true := fun e he => by
    obtain ⟨h1, h2⟩ := H.run k hk _ (hm e he)
    unfold Tb.ownB
    rw [run_cnt h1, h2, decide_eq_true rfl]
    rfl
  have hrow := H.row y
  rw [← List.append_nil (P y)] at hrow
  refine RowE.seen (X := C y) (Y := P y) (Z := []) H.aok hrow T.last _ (own := true) ?_ (fun e he => ?_) (fun e he => ?_) (fun e he => by cases he)
  · rw [(H.row y).own]
    obtain ⟨e, r, h⟩ := List.exists_cons_of_ne_nil hp
    have he : e ∈ P y := by rw [h]; simp
    exact List.any_eq_true.2 ⟨e, List.mem_append_right _ he, hown e he⟩
  · unfold affB
    rw [if_pos rfl]
    exact H.notown hk hs he
  · unfold affB
    rw [if_pos rfl]
    exact hown e he
/-- One that hasn't sees what is left by the committed ones. -/
theorem Inv.others (H : Inv T A ss C P) {k : Nat} (hk : k < 3) (hs : ss k ≠ []) {y : Int} (hm : ∀ e ∈ P y, e.1 ∉ ss k) : wsV T A T.last ((ss k).headD 0) y = valE (C y) := by
  have hno : ∀ e ∈ P y, T.ownB ((ss k).headD 0) e.1 = false := fun e he => by
    obtain ⟨j, hj, h1, h2, h3⟩ := H.pend he
    have hjk : j ≠ k := fun e2 => hm e he (by rw [← e2]; exact h1)
    have hjs : ss j ≠ [] := fun e2 => by rw [e2] at h1; cases h1
    unfold Tb.ownB
    rw [h3, decide_eq_false (H.ne j k hj hk hjk hjs hs), Bool.and_false]
  refine RowE.seen (X := []) (Y := C y) (Z := P y) H.aok (H.row y) T.last _ (own := false) ?_ (fun e he => by cases he) (fun e he => ?_) (fun e he => ?_)
  · rw [(H.row y).own, List.any_eq_false]
    intro e he
    rcases List.mem_append.1 he with he | he
    · rw [H.notown hk hs he]; decide
    · rw [hno e he]; decide
  · unfold affB
    simp only [Bool.false_eq_true, if_false]
    unfold Tb.seesB Tb.reachB
    have h1 := H.cn y e he
    rw [decide_eq_true h1, decide_eq_true (num_last H.ok H.nums _ h1)]
    simp
  · unfold affB
    simp only [Bool.false_eq_true, if_false]
    unfold Tb.seesB Tb.reachB
    rw [hno e he, H.pend0 he]
    rfl
end

end Go.Proofs.Ytbgnbaogclnpgaa

namespace Go.Proofs.Ytbgnbaogclnpgaa
set_option linter.unusedVariables false

def updS (ss : Nat → List Int) (k : Nat) (l : List Int) : Nat → List Int := fun j => if j = k then l else ss j
theorem updS_at (ss : Nat → List Int) (k : Nat) (l : List Int) : updS ss k l k = l := by unfold updS; rw [if_pos rfl]
theorem updS_ne (ss : Nat → List Int) {k j : Nat} (l : List Int) (h : j ≠ k) : updS ss k l j = ss j := by unfold updS; rw [if_neg h]

theorem beg_st {T : Tb} {p : Int} (he : T.begE p = 0) {x : Int} (hx : x ≤ T.n) : (T.begT p).g (T.begT p).st x = T.g T.st x := by
  unfold Tb.begT
  rw [if_pos he]
  exact add_g (fun k hk => upd_ne _ _ _ hk) hx
theorem cnt_in {T : Tb} {x : Int} (h : T.cnt x = true) : 1 ≤ x ∧ x ≤ T.n := by
  by_cases h1 : 1 ≤ x ∧ x ≤ T.n
  · exact h1
  · unfold Tb.cnt at h
    rw [Tb.g_out h1] at h
    simp at h

section
variable {T : Tb} {A : Ab} {ss : Nat → List Int} {C P : Int → List Wt}
/-- What a beginning makes of the sessions: the new one is the deepest of its session. -/
theorem Inv.beg (H : Inv T A ss C P) {k : Nat} (hk : k < 3) {p : Int} (hp : (ss k = [] ∧ p = 0) ∨ p ∈ ss k) (hok : (T.begT p).Ok) (hnu : (T.begT p).Nums) : T.begE p = 0 ∧ T.begI p = (T.n : Int) + 1 ∧ Inv (T.begT p) A (updS ss k (ss k ++ [(T.n : Int) + 1])) C P := by
  have he : T.begE p = 0 := by
    rcases hp with ⟨-, rfl⟩ | hp
    · rfl
    · have h1 := (H.run k hk p hp).1
      have h2 := runs_in h1
      unfold Tb.begE Tb.err
      rw [Tb.g_in h2] at h1
      rw [if_neg (by omega), if_pos h2, if_pos (by omega)]
  obtain ⟨hn, hi, hla, hold⟩ := beg_old H.ok he
  obtain ⟨nc, nst, ntop⟩ := beg_new H.ok he
  have hlim : ∀ j, j < 3 → ∀ s ∈ ss j, s ≤ T.n := fun j hj s hs => (runs_in (H.run j hj s hs).1).2
  have hcl : ∀ y, ∀ e ∈ C y, e.1 ≤ T.n := fun y e he => (cnt_in ((H.row y).cnt e (List.mem_append_left _ he))).2
  have hnew : (T.begT p).g (T.begT p).top ((T.n : Int) + 1) = (ss k ++ [(T.n : Int) + 1]).headD 0 := by
    rw [ntop]
    rcases hp with ⟨h1, rfl⟩ | hp
    · rw [h1]; rfl
    · have h2 := H.run k hk p hp
      have h3 := runs_in h2.1
      rw [if_neg (by omega), h2.2]
      cases h : ss k with
      | nil => rw [h] at hp; cases hp
      | cons s r => rfl
  have hhead : ss k ≠ [] → (ss k ++ [(T.n : Int) + 1]).headD 0 = (ss k).headD 0 := fun h => by
    cases h2 : ss k with
    | nil => exact absurd h2 h
    | cons s r => rfl
  have hhl : ∀ j, j < 3 → ss j ≠ [] → (ss j).headD 0 ≤ T.n := fun j hj h => by
    cases h2 : ss j with
    | nil => exact absurd h2 h
    | cons s r => exact hlim j hj s (by rw [h2]; simp)
  refine ⟨he, hi, hok, hnu, H.aok, H.one, fun y => (H.row y).same (by omega) (fun x hx => (hold x hx).1), fun y e hm => by rw [(hold _ (hcl y e hm)).2.1]; exact H.cn y e hm, fun y => (H.cs y).imp_of_mem (fun {a b} ha hb h => by rw [(hold _ (hcl y a ha)).2.1, (hold _ (hcl y b hb)).2.1]; exact h), fun y => ?_, H.ps, fun j hj s hs => ?_, fun j hj => ?_, fun i j hi hj hne h1 h2 => ?_⟩
  · rcases H.pn y with h | ⟨j, hj, h⟩
    · exact .inl h
    · refine .inr ⟨j, hj, fun e he => ?_⟩
      by_cases e2 : j = k
      · subst e2; rw [updS_at]; exact List.mem_append_left _ (h e he)
      · rw [updS_ne _ _ e2]; exact h e he
  · by_cases e2 : j = k
    · subst e2
      rw [updS_at] at hs ⊢
      rcases List.mem_append.1 hs with hs | hs
      · have h1 := H.run j hj s hs
        have h2 := hlim j hj s hs
        rw [beg_st he h2, (hold s h2).2.2, hhead (fun e => by rw [e] at hs; cases hs)]
        exact h1
      · rw [List.mem_singleton.1 hs]
        exact ⟨nst, hnew⟩
    · rw [updS_ne _ _ e2] at hs ⊢
      have h2 := hlim j hj s hs
      rw [beg_st he h2, (hold s h2).2.2]
      exact H.run j hj s hs
  · by_cases e2 : j = k
    · subst e2
      rw [updS_at]
      refine List.pairwise_append.2 ⟨H.up j hj, List.pairwise_singleton _ _, fun a ha b hb => ?_⟩
      rw [List.mem_singleton.1 hb]
      have := hlim j hj a ha
      omega
    · rw [updS_ne _ _ e2]
      exact H.up j hj
  · by_cases e1 : i = k
    · subst e1
      have e2 : j ≠ i := fun e => hne e.symm
      rw [updS_ne _ _ e2] at h2 ⊢
      rw [updS_at]
      by_cases h3 : ss i = []
      · rw [h3]
        have := hhl j hj h2
        show (T.n : Int) + 1 ≠ _
        omega
      · rw [hhead h3]
        exact H.ne i j hi hj hne h3 h2
    · rw [updS_ne _ _ e1] at h1 ⊢
      by_cases e2 : j = k
      · subst e2
        rw [updS_at]
        by_cases h3 : ss j = []
        · rw [h3]
          have := hhl i hi h1
          show _ ≠ (T.n : Int) + 1
          omega
        · rw [hhead h3]
          exact H.ne i j hi hj hne h1 h3
      · rw [updS_ne _ _ e2] at h2 ⊢
        exact H.ne i j hi hj hne h1 h2
end

end Go.Proofs.Ytbgnbaogclnpgaa

namespace Go.Proofs.Ytbgnbaogclnpgaa
set_option linter.unusedVariables false

section
variable {T : Tb} {A : Ab} {ss : Nat → List Int} {C P : Int → List Wt}
theorem Inv.notin (H : Inv T A ss C P) {j k : Nat} (hj : j < 3) (hk : k < 3) (hne : j ≠ k) {s : Int} (h1 : s ∈ ss j) (h2 : s ∈ ss k) : False := by
  have e1 := (H.run j hj s h1).2
  have e2 := (H.run k hk s h2).2
  exact H.ne j k hj hk hne (fun e => by rw [e] at h1; cases h1) (fun e => by rw [e] at h2; cases h2) (e1.symm.trans e2)

/-- The writings of a session's deepest ones stand last. -/
theorem Inv.split (H : Inv T A ss C P) {k : Nat} (hk : k < 3) {l r : List Int} (hl : ss k = l ++ r) (y : Int) : P y = (P y).filter (fun e => decide (e.1 ∉ r)) ++ (P y).filter (fun e => decide (e.1 ∈ r)) := by
  have hall : (∀ e ∈ P y, e.1 ∉ r) → P y = (P y).filter (fun e => decide (e.1 ∉ r)) ++ (P y).filter (fun e => decide (e.1 ∈ r)) := fun h => by
    rw [List.filter_eq_self.2 (fun e he => decide_eq_true (h e he)), List.filter_eq_nil_iff.2 (fun e he q => h e he (of_decide_eq_true q)), List.append_nil]
  rcases H.pn y with h | ⟨j, hj, h⟩
  · exact hall (fun e he => by rw [h] at he; cases he)
  · by_cases e2 : j = k
    · subst e2
      cases r with
      | nil => exact hall (fun e he => List.not_mem_nil)
      | cons s0 r =>
        have hup := H.up j hj
        rw [hl] at hup
        obtain ⟨u1, u2, u3⟩ := List.pairwise_append.1 hup
        obtain ⟨u4, u5⟩ := List.pairwise_cons.1 u2
        have hc := cut_sorted (f := fun e => e.1) (s0 - 1) (H.ps y)
        have hiff : ∀ e ∈ P y, (e.1 ≤ s0 - 1 ↔ e.1 ∉ s0 :: r) := fun e he => by
          have hm := h e he
          rw [hl, List.mem_append] at hm
          constructor
          · intro hle hin
            rcases List.mem_cons.1 hin with q | q
            · omega
            · have := u4 _ q; omega
          · intro hno
            rcases hm with q | q
            · have := u3 _ q s0 (List.mem_cons_self ..); omega
            · exact absurd q hno
        rw [List.filter_congr (q := fun e => decide (e.1 ∉ s0 :: r)) (fun e he => decide_eq_decide.2 (hiff e he)), List.filter_congr (p := fun e : Wt => !decide (e.1 ≤ s0 - 1)) (q := fun e : Wt => decide (e.1 ∈ s0 :: r)) (fun e he => by
          have := hiff e he
          by_cases q : e.1 ∈ s0 :: r
          · have q2 : ¬ e.1 ≤ s0 - 1 := fun q3 => (this.1 q3) q
            rw [decide_eq_true q, decide_eq_false q2]; rfl
          · rw [decide_eq_false q, decide_eq_true (this.2 q)]; rfl)] at hc
        exact hc
    · exact hall (fun e he hr => H.notin hj hk e2 (h e he) (by rw [hl]; exact List.mem_append_right _ hr))

/-- The transactions r of a session, its deepest ones, don't count any more. -/
theorem Inv.drop (H : Inv T A ss C P) {k : Nat} (hk : k < 3) {l r : List Int} (hl : ss k = l ++ r) {U : Tb} (hUn : U.n = T.n) (hok : U.Ok) (hnu : U.Nums) (h1 : ∀ x : Int, x ≤ T.n → U.cnt x = true → T.cnt x = true) (h2 : ∀ x ∈ r, U.cnt x = false) (h3 : ∀ y, ∀ e ∈ C y, U.cnt e.1 = true ∧ U.numI e.1 = T.numI e.1) (h4 : ∀ j, j < 3 → ∀ s ∈ ss j, (j = k → s ∈ l) → U.cnt s = true ∧ U.g U.st s = T.g T.st s ∧ U.g U.top s = T.g T.top s) :
    Inv U A (updS ss k l) C (fun y => (P y).filter fun e => decide (e.1 ∉ r)) := by
  have hhead : l ≠ [] → (ss k).headD 0 = l.headD 0 := fun h => by
    rw [hl]
    cases l with
    | nil => exact absurd rfl h
    | cons s t => rfl
  have hin : ∀ y, ∀ e ∈ (P y).filter (fun e => decide (e.1 ∉ r)), e ∈ P y ∧ e.1 ∉ r := fun y e he => by
    obtain ⟨q1, q2⟩ := List.mem_filter.1 he
    exact ⟨q1, of_decide_eq_true q2⟩
  have hcu : ∀ y, ∀ e ∈ (P y).filter (fun e => decide (e.1 ∉ r)), U.cnt e.1 = true := fun y e he => by
    obtain ⟨q1, q2⟩ := hin y e he
    obtain ⟨j, hj, q3, -⟩ := H.pend q1
    refine (h4 j hj e.1 q3 (fun ej => ?_)).1
    subst ej
    rw [hl, List.mem_append] at q3
    exact q3.elim id (fun q => absurd q q2)
  refine ⟨hok, hnu, H.aok, H.one, fun y => ?_, fun y e he => by rw [(h3 y e he).2]; exact H.cn y e he, fun y => (H.cs y).imp_of_mem (fun {a b} ha hb h => by rw [(h3 y a ha).2, (h3 y b hb).2]; exact h), fun y => ?_, fun y => (H.ps y).filter _, fun j hj s hs => ?_, fun j hj => ?_, fun i j hi hj hne q1 q2 => ?_⟩
  · have hr := H.row y
    rw [H.split hk hl y, ← List.append_assoc] at hr
    refine hr.cut (by omega) h1 (fun e he => ?_) (fun e he => h2 _ (of_decide_eq_true (List.mem_filter.1 he).2))
    rcases List.mem_append.1 he with he | he
    · exact (h3 y e he).1
    · exact hcu y e he
  · rcases H.pn y with h | ⟨j, hj, h⟩
    · exact .inl (by rw [h]; rfl)
    · refine .inr ⟨j, hj, fun e he => ?_⟩
      obtain ⟨q1, q2⟩ := hin y e he
      by_cases e2 : j = k
      · subst e2
        rw [updS_at]
        have := h e q1
        rw [hl, List.mem_append] at this
        exact this.elim id (fun q => absurd q q2)
      · rw [updS_ne _ _ e2]
        exact h e q1
  · by_cases e2 : j = k
    · subst e2
      rw [updS_at] at hs ⊢
      have hm : s ∈ ss j := by rw [hl]; exact List.mem_append_left _ hs
      obtain ⟨-, q1, q2⟩ := h4 j hj s hm (fun _ => hs)
      rw [q1, q2, ← hhead (fun e => by rw [e] at hs; cases hs)]
      exact H.run j hj s hm
    · rw [updS_ne _ _ e2] at hs ⊢
      obtain ⟨-, q1, q2⟩ := h4 j hj s hs (fun e => absurd e e2)
      rw [q1, q2]
      exact H.run j hj s hs
  · by_cases e2 : j = k
    · subst e2
      rw [updS_at]
      have := H.up j hj
      rw [hl] at this
      exact (List.pairwise_append.1 this).1
    · rw [updS_ne _ _ e2]
      exact H.up j hj
  · have hnn : ∀ j, updS ss k l j ≠ [] → ss j ≠ [] ∧ (updS ss k l j).headD 0 = (ss j).headD 0 := fun j q => by
      by_cases e2 : j = k
      · subst e2
        rw [updS_at] at q ⊢
        exact ⟨fun e => by rw [hl] at e; exact q (List.append_eq_nil_iff.1 e).1, (hhead q).symm⟩
      · rw [updS_ne _ _ e2] at q ⊢
        exact ⟨q, rfl⟩
    rw [(hnn i q1).2, (hnn j q2).2]
    exact H.ne i j hi hj hne (hnn i q1).1 (hnn j q2).1
end

end Go.Proofs.Ytbgnbaogclnpgaa

namespace Go.Proofs.Ytbgnbaogclnpgaa
set_option linter.unusedVariables false

section
variable {T : Tb} {A : Ab} {ss : Nat → List Int} {C P : Int → List Wt}
/-- A row's running writings are all a session's, or none. -/
theorem Inv.whose (H : Inv T A ss C P) {k : Nat} (hk : k < 3) (y : Int) : ((P y).filter (fun e => decide (e.1 ∈ ss k)) = P y ∧ (P y).filter (fun e => decide (e.1 ∉ ss k)) = []) ∨ ((P y).filter (fun e => decide (e.1 ∈ ss k)) = [] ∧ (P y).filter (fun e => decide (e.1 ∉ ss k)) = P y) := by
  have hno : (∀ e ∈ P y, e.1 ∉ ss k) → (P y).filter (fun e => decide (e.1 ∈ ss k)) = [] ∧ (P y).filter (fun e => decide (e.1 ∉ ss k)) = P y := fun h =>
    ⟨List.filter_eq_nil_iff.2 (fun e he q => h e he (of_decide_eq_true q)), List.filter_eq_self.2 (fun e he => decide_eq_true (h e he))⟩
  rcases H.pn y with h | ⟨j, hj, h⟩
  · exact .inr (hno (fun e he => by rw [h] at he; cases he))
  · by_cases e2 : j = k
    · subst e2
      exact .inl ⟨List.filter_eq_self.2 (fun e he => decide_eq_true (h e he)), List.filter_eq_nil_iff.2 (fun e he q => (of_decide_eq_true q) (h e he))⟩
    · exact .inr (hno (fun e he hr => H.notin hj hk e2 (h e he) hr))

theorem Inv.com (H : Inv T A ss C P) {k : Nat} (hk : k < 3) {U : Tb} (hUn : U.n = T.n) (hok : U.Ok) (hnu : U.Nums) (hc : ∀ x : Int, x ≤ T.n → U.cnt x = T.cnt x) (h3 : ∀ y, ∀ e ∈ C y, U.numI e.1 = T.numI e.1) (hr : ∀ s ∈ ss k, U.numI s = U.last) (hla : T.last < U.last) (h4 : ∀ j, j < 3 → j ≠ k → ∀ s ∈ ss j, U.g U.st s = T.g T.st s ∧ U.g U.top s = T.g T.top s) :
    Inv U A (updS ss k []) (fun y => C y ++ (P y).filter fun e => decide (e.1 ∈ ss k)) (fun y => (P y).filter fun e => decide (e.1 ∉ ss k)) := by
  have hmem : ∀ y, ∀ e ∈ (P y).filter (fun e => decide (e.1 ∈ ss k)), e.1 ∈ ss k := fun y e he => of_decide_eq_true (List.mem_filter.1 he).2
  refine ⟨hok, hnu, H.aok, H.one, fun y => ?_, fun y e he => ?_, fun y => ?_, fun y => ?_, fun y => (H.ps y).filter _, fun j hj s hs => ?_, fun j hj => ?_, fun i j hi hj hne q1 q2 => ?_⟩
  · have h := (H.row y).same (by omega) hc
    rcases H.whose hk y with ⟨e1, e2⟩ | ⟨e1, e2⟩
    · rw [e1, e2, List.append_nil]; exact h
    · rw [e1, e2, List.append_nil]; exact h
  · rcases List.mem_append.1 he with he | he
    · rw [h3 y e he]; exact H.cn y e he
    · rw [hr _ (hmem y e he)]; omega
  · refine List.pairwise_append.2 ⟨(H.cs y).imp_of_mem (fun {a b} ha hb h => by rw [h3 y a ha, h3 y b hb]; exact h), ((H.ps y).filter _).imp_of_mem (fun {a b} ha hb h => by rw [hr _ (hmem y a ha), hr _ (hmem y b hb)]; exact Int.le_refl _), fun a ha b hb => ?_⟩
    rw [h3 y a ha, hr _ (hmem y b hb)]
    have := num_last H.ok H.nums _ (H.cn y a ha)
    omega
  · rcases H.whose hk y with ⟨e1, e2⟩ | ⟨e1, e2⟩
    · exact .inl e2
    · rcases H.pn y with h | ⟨j, hj, h⟩
      · exact .inl (by rw [e2]; exact h)
      · by_cases e3 : j = k
        · subst e3
          refine .inl ?_
          rw [List.filter_eq_nil_iff]
          intro e he q
          exact (of_decide_eq_true q) (h e he)
        · refine .inr ⟨j, hj, fun e he => ?_⟩
          rw [updS_ne _ _ e3]
          exact h e (List.mem_filter.1 he).1
  · by_cases e2 : j = k
    · subst e2
      rw [updS_at] at hs
      cases hs
    · rw [updS_ne _ _ e2] at hs ⊢
      obtain ⟨q1, q2⟩ := h4 j hj e2 s hs
      rw [q1, q2]
      exact H.run j hj s hs
  · by_cases e2 : j = k
    · subst e2
      rw [updS_at]
      exact List.Pairwise.nil
    · rw [updS_ne _ _ e2]
      exact H.up j hj
  · have hnn : ∀ j, updS ss k [] j ≠ [] → j ≠ k ∧ updS ss k [] j = ss j := fun j q => by
      by_cases e2 : j = k
      · subst e2
        rw [updS_at] at q
        exact absurd rfl q
      · exact ⟨e2, updS_ne _ _ e2⟩
    have r1 := (hnn i q1).2
    have r2 := (hnn j q2).2
    rw [r1] at q1 ⊢
    rw [r2] at q2 ⊢
    exact H.ne i j hi hj hne q1 q2
end

end Go.Proofs.Ytbgnbaogclnpgaa

namespace Go.Proofs.Ytbgnbaogclnpgaa
set_option linter.unusedVariables false

theorem RowE.by {T : Tb} {L : List (Nat × Tup)} {E : List Wt} (h : RowE T L E) {p : Nat × Tup} (hp : p ∈ L) {x : Int} (hx : x = p.2.mn ∨ x = p.2.mx) (hc : T.cnt x = true) : ∃ e ∈ E, e.1 = x := by
  rcases hx with hx | hx
  · subst hx
    obtain ⟨X, e, Y, h3, h4, -⟩ := spec_mem (h.mem hp hc)
    exact ⟨e, by rw [h3]; simp, h4.symm⟩
  · subst hx
    obtain ⟨X, e, Y, h3, -, -, -, h5⟩ := spec_mem (h.mem hp (h.dead p hp hc))
    simp only at h5
    rw [eff_on hc] at h5
    cases Y with
    | nil => exact absurd h5 (cnt_nz hc)
    | cons e' Y => exact ⟨e', by rw [h3]; simp, h5.symm⟩

section
variable {T : Tb} {A : Ab} {ss : Nat → List Int} {C P : Int → List Wt}
theorem Inv.free (H : Inv T A ss C P) {k : Nat} (hk : k < 3) {y : Int} (hm : ∀ e ∈ P y, e.1 ∈ ss k) : lockB T A ((ss k).headD 0) y = false := by
  have hlk : ∀ p ∈ A.vs 1 y, ∀ x, (x = p.2.mn ∨ x = p.2.mx) → lkB T ((ss k).headD 0) x = false := fun p hp x hx => by
    unfold lkB
    cases hc : T.cnt x with
    | false => simp
    | true =>
      obtain ⟨e, he, rfl⟩ := (H.row y).by hp hx hc
      rcases List.mem_append.1 he with he | he
      · have h1 := num_top H.ok hc
        have h2 := H.cn y e he
        have h3 : decide (T.numI (T.g T.top e.1) = 0) = false := decide_eq_false (by omega)
        rw [h3]; simp
      · have h1 := (H.run k hk _ (hm e he)).2
        rw [h1]; simp
  unfold lockB
  rw [List.any_eq_false]
  intro p hp
  rw [hlk p hp _ (.inl rfl), hlk p hp _ (.inr rfl)]
  decide
theorem Inv.locked (H : Inv T A ss C P) {k : Nat} (hk : k < 3) (hs : ss k ≠ []) {y : Int} {e : Wt} (he : e ∈ P y) (hm : e.1 ∉ ss k) : lockB T A ((ss k).headD 0) y = true := by
  obtain ⟨j, hj, h1, h2, h3⟩ := H.pend he
  have hjk : j ≠ k := fun e2 => hm (by rw [← e2]; exact h1)
  have hjs : ss j ≠ [] := fun e2 => by rw [e2] at h1; cases h1
  have ho : ownR T ((ss j).headD 0) (A.vs 1 y) = true := by
    rw [(H.row y).own]
    refine List.any_eq_true.2 ⟨e, List.mem_append_right _ he, ?_⟩
    unfold Tb.ownB
    rw [run_cnt h2, h3, decide_eq_true rfl]
    rfl
  unfold ownR at ho
  obtain ⟨p, hp, hpo⟩ := List.any_eq_true.1 ho
  have hlk : ∀ x, T.ownB ((ss j).headD 0) x = true → lkB T ((ss k).headD 0) x = true := fun x hx => by
    unfold Tb.ownB at hx
    obtain ⟨c1, c2⟩ := Bool.and_eq_true_iff.1 hx
    have c3 := of_decide_eq_true c2
    unfold lkB
    rw [decide_eq_true (cnt_nz c1), c1, c3, decide_eq_true (H.ne j k hj hk hjk hjs hs), run_num H.ok H.nums (H.head hj hjs)]
    rfl
  unfold lockB
  refine List.any_eq_true.2 ⟨p, hp, ?_⟩
  unfold ownP at hpo
  rw [Bool.or_eq_true] at hpo ⊢
  exact hpo.imp (hlk _) (hlk _)

/-- A session writes a row that no other one holds. -/
theorem Inv.wr (H : Inv T A ss C P) {k : Nat} (hk : k < 3) {y : Int} (hy : Most y) (hm : ∀ e ∈ P y, e.1 ∈ ss k) {sub n : Int} (hsub : sub ∈ ss k) (hlast : ∀ s ∈ ss k, s ≤ sub) {A' : Ab} (hA' : wrA T A ((ss k).headD 0) sub y n = A') (hok : A'.Ok) (hone : ∀ p ∈ A'.pl, p.2.row.length = 1) :
    wrB T A ((ss k).headD 0) y n = decide (0 ≤ valE (C y ++ P y) ∨ 0 ≤ n) ∧ (wrB T A ((ss k).headD 0) y n = true → Inv T A' ss C (fun y' => if y' = y then P y ++ [(sub, n)] else P y')) := by
  have hs : ss k ≠ [] := fun e => by rw [e] at hsub; cases hsub
  have hr := H.run k hk sub hsub
  have hW : wrB T A ((ss k).headD 0) y n = decide (0 ≤ valE (C y ++ P y) ∨ 0 ≤ n) ∧ (wrB T A ((ss k).headD 0) y n = true → RowE T (A'.vs 1 y) (C y ++ P y ++ [(sub, n)])) ∧ ∀ y', y' ≠ y → A'.vs 1 y' = A.vs 1 y' := by
    rw [← hA']
    by_cases hp : P y = []
    · have hrow := H.row y
      have ho : ownR T ((ss k).headD 0) (A.vs 1 y) = false := by
        rw [(H.row y).own, List.any_eq_false, hp, List.append_nil]
        intro e he
        rw [H.notown hk hs he]
        decide
      have := RowE.write (X := []) (Y := C y) H.aok (by rw [hp, List.append_nil] at hrow; exact hrow) hy _ sub n (run_cnt hr.1) (runs_in hr.1).2 ho (fun e he => by cases he) (fun e he => by
        unfold affB
        simp only [Bool.false_eq_true, if_false]
        unfold Tb.seesB Tb.reachB
        have h1 := H.cn y e he
        rw [decide_eq_true h1, decide_eq_true (num_last H.ok H.nums _ h1)]
        simp) (fun _ => rfl) (H.free hk hm)
      rw [hp, List.append_nil]
      exact this
    · have hown : ∀ e ∈ P y, T.ownB ((ss k).headD 0) e.1 = true := fun e he => by
        obtain ⟨h1, h2⟩ := H.run k hk _ (hm e he)
        unfold Tb.ownB
        rw [run_cnt h1, h2, decide_eq_true rfl]
        rfl
      have ho : ownR T ((ss k).headD 0) (A.vs 1 y) = true := by
        rw [(H.row y).own]
        obtain ⟨e, r, h⟩ := List.exists_cons_of_ne_nil hp
        have he : e ∈ P y := by rw [h]; simp
        exact List.any_eq_true.2 ⟨e, List.mem_append_right _ he, hown e he⟩
      exact RowE.write (X := C y) (Y := P y) H.aok (H.row y) hy _ sub n (run_cnt hr.1) (runs_in hr.1).2 ho (fun e he => by unfold affB; rw [if_pos rfl]; exact H.notown hk hs he) (fun e he => by unfold affB; rw [if_pos rfl]; exact hown e he) (fun q => absurd q hp) (H.free hk hm)
  refine ⟨hW.1, fun hb => ⟨H.ok, H.nums, hok, hone, fun y' => ?_, H.cn, H.cs, fun y' => ?_, fun y' => ?_, H.run, H.up, H.ne⟩⟩
  · by_cases e : y' = y
    · subst e
      simp only [if_true]
      rw [← List.append_assoc]
      exact hW.2.1 hb
    · simp only [e, if_false]
      rw [hW.2.2 y' e]
      exact H.row y'
  · by_cases e : y' = y
    · subst e
      simp only [if_true]
      refine .inr ⟨k, hk, fun e he => ?_⟩
      rcases List.mem_append.1 he with he | he
      · exact hm e he
      · rw [List.mem_singleton.1 he]; exact hsub
    · simp only [e, if_false]
      exact H.pn y'
  · by_cases e : y' = y
    · subst e
      simp only [if_true]
      refine List.pairwise_append.2 ⟨H.ps y', List.pairwise_singleton _ _, fun a ha b hb => ?_⟩
      rw [List.mem_singleton.1 hb]
      exact hlast _ (hm a ha)
    · simp only [e, if_false]
      exact H.ps y'
end

end Go.Proofs.Ytbgnbaogclnpgaa

namespace Go.Proofs.Ytbgnbaogclnpgaa
set_option linter.unusedVariables false

theorem run_err {T : Tb} {s : Int} (h : T.g T.st s = 1) : T.err s = 0 := by
  have h2 := runs_in h
  rw [Tb.g_in h2] at h
  unfold Tb.err
  rw [if_pos h2, if_pos (by omega)]
theorem comT_n (T : Tb) (id : Int) : (T.comT id).n = T.n := by
  unfold Tb.comT Tb.com
  split
  · split <;> rfl
  · rfl
theorem aboT_n (T : Tb) (id : Int) : (T.aboT id).n = T.n := by
  unfold Tb.aboT
  split <;> rfl

/-- What a commit or an abort of s makes of x: nothing, where x isn't below s. -/
theorem back_int {T : Tb} (hok : T.Ok) (hn : T.Nums) (com : Bool) {s : Int} (hr : T.g T.st s = 1) {U : Tb} (hU : (if com = true then T.comT s else T.aboT s) = U) (x : Int) (hx : 1 ≤ x ∧ x ≤ T.n) :
    (¬ Und T.par s.toNat x.toNat ∧ U.g U.st x = T.g T.st x ∧ U.g U.top x = T.g T.top x ∧ U.numI x = T.numI x ∧ U.cnt x = T.cnt x) ∨
    (Und T.par s.toNat x.toNat ∧ com = false ∧ U.cnt x = false) ∨
    (Und T.par s.toNat x.toNat ∧ com = true ∧ U.cnt x = T.cnt x ∧ (T.par s.toNat = 0 → T.cnt x = true → U.numI x = U.last)) := by
  obtain ⟨k, rfl⟩ : ∃ k : Nat, x = (k : Int) := ⟨x.toNat, by omega⟩
  rw [Int.toNat_natCast]
  rcases back_facts hok hn com s (run_err hr) hU (k := k) (by omega) (by omega) with h | ⟨h1, h2, h3, h4, h5⟩ | ⟨h1, h2, h3, h4, h5, h6⟩
  · exact .inl h
  · exact .inr (.inl ⟨h1, h2, h5⟩)
  · exact .inr (.inr ⟨h1, h2, h3, h5⟩)
theorem und_same {T : Tb} (hok : T.Ok) {s x : Int} (hs : 1 ≤ s ∧ s ≤ T.n) (hx : 1 ≤ x ∧ x ≤ T.n) (h : Und T.par s.toNat x.toNat) : T.g T.top x = T.g T.top s := by
  rw [Tb.g_in hx, Tb.g_in hs]
  have := hok.und_top x.toNat h (by omega) (by omega)
  omega

section
variable {T : Tb} {A : Ab} {ss : Nat → List Int} {C P : Int → List Wt}
theorem Inv.headin (H : Inv T A ss C P) {k : Nat} (hk : k < 3) (hs : ss k ≠ []) : (ss k).headD 0 ∈ ss k := by
  cases h : ss k with
  | nil => exact absurd h hs
  | cons s r => exact List.mem_cons_self ..
theorem Inv.par0 (H : Inv T A ss C P) {k : Nat} (hk : k < 3) (hs : ss k ≠ []) : T.par ((ss k).headD 0).toNat = 0 := by
  have h1 := H.run k hk _ (H.headin hk hs)
  have h2 := runs_in h1.1
  have h3 := h1.2
  rw [Tb.g_in h2] at h3
  have h4 := (H.ok.top_in ((ss k).headD 0).toNat (by omega) (by omega)).2.2
  have h5 : T.top ((ss k).headD 0).toNat = ((ss k).headD 0).toNat := by omega
  rw [h5] at h4
  exact h4
/-- A session's head is committed. -/
theorem Inv.comH (H : Inv T A ss C P) {k : Nat} (hk : k < 3) (hs : ss k ≠ []) (hok : (T.comT ((ss k).headD 0)).Ok) (hnu : (T.comT ((ss k).headD 0)).Nums) : T.err ((ss k).headD 0) = 0 ∧ (T.comT ((ss k).headD 0)).last = T.last + 1 ∧ Inv (T.comT ((ss k).headD 0)) A (updS ss k []) (fun y => C y ++ (P y).filter fun e => decide (e.1 ∈ ss k)) (fun y => (P y).filter fun e => decide (e.1 ∉ ss k)) ∧ (∀ y, ∀ e ∈ C y, (T.comT ((ss k).headD 0)).numI e.1 = T.numI e.1) ∧ (∀ s ∈ ss k, (T.comT ((ss k).headD 0)).numI s = (T.comT ((ss k).headD 0)).last) := by
  have hr := H.head hk hs
  have hin := runs_in hr
  have he := run_err hr
  have hp := H.par0 hk hs
  have hht := (H.run k hk _ (H.headin hk hs)).2
  have hl : (T.comT ((ss k).headD 0)).last = T.last + 1 := by
    unfold Tb.comT Tb.com
    rw [if_pos he, if_pos hp]
    rfl
  have hb := fun x hx => back_int H.ok H.nums true hr (U := T.comT ((ss k).headD 0)) (by rw [if_pos rfl]) x hx
  have hC : ∀ y, ∀ e ∈ C y, (T.comT ((ss k).headD 0)).numI e.1 = T.numI e.1 := fun y e hm => by
    have hc := (H.row y).cnt e (List.mem_append_left _ hm)
    have hx := cnt_in hc
    have hno := H.notown hk hs hm
    unfold Tb.ownB at hno
    rw [hc, Bool.true_and] at hno
    have hne := of_decide_eq_false hno
    rcases hb e.1 hx with h | ⟨h, -⟩ | ⟨h, -⟩
    · exact h.2.2.2.1
    · exact absurd ((und_same H.ok hin hx h).trans hht) hne
    · exact absurd ((und_same H.ok hin hx h).trans hht) hne
  have hS : ∀ s ∈ ss k, (T.comT ((ss k).headD 0)).numI s = (T.comT ((ss k).headD 0)).last := fun s hm => by
    have h1 := H.run k hk s hm
    have hx := runs_in h1.1
    have hu : Und T.par ((ss k).headD 0).toNat s.toNat := by
      have h2 := H.ok.top_und s.toNat (by omega) (by omega)
      have h3 := h1.2
      rw [Tb.g_in hx] at h3
      have h4 : T.top s.toNat = ((ss k).headD 0).toNat := by omega
      rwa [h4] at h2
    rcases hb s hx with h | ⟨-, h, -⟩ | ⟨-, -, -, h⟩
    · exact absurd hu h.1
    · cases h
    · exact h hp (run_cnt h1.1)
  refine ⟨he, hl, H.com hk (comT_n _ _) hok hnu (fun x hx => ?_) hC hS (by omega) (fun j hj hne s hm => ?_), hC, hS⟩
  · by_cases h1 : 1 ≤ x
    · rcases hb x ⟨h1, hx⟩ with h | ⟨-, h, -⟩ | ⟨-, -, h, -⟩
      · exact h.2.2.2.2
      · cases h
      · exact h
    · unfold Tb.cnt
      rw [Tb.g_out (by omega), Tb.g_out (by omega)]
  · have h1 := H.run j hj s hm
    have hx := runs_in h1.1
    have hjs : ss j ≠ [] := fun e => by rw [e] at hm; cases hm
    have hdiff := H.ne j k hj hk hne hjs hs
    rcases hb s hx with h | ⟨h, -⟩ | ⟨h, -⟩
    · exact ⟨h.2.1, h.2.2.1⟩
    · exact absurd (h1.2.symm.trans ((und_same H.ok hin hx h).trans hht)) hdiff
    · exact absurd (h1.2.symm.trans ((und_same H.ok hin hx h).trans hht)) hdiff
end

end Go.Proofs.Ytbgnbaogclnpgaa

namespace Go.Proofs.Ytbgnbaogclnpgaa
set_option linter.unusedVariables false

section
variable {T : Tb} {A : Ab} {ss : Nat → List Int} {C P : Int → List Wt}
theorem Inv.undhead (H : Inv T A ss C P) {k : Nat} (hk : k < 3) {s : Int} (hm : s ∈ ss k) : Und T.par ((ss k).headD 0).toNat s.toNat := by
  have hs : ss k ≠ [] := fun e => by rw [e] at hm; cases hm
  have hin := runs_in (H.head hk hs)
  have h1 := H.run k hk s hm
  have hx := runs_in h1.1
  have h2 := H.ok.top_und s.toNat (by omega) (by omega)
  have h3 := h1.2
  rw [Tb.g_in hx] at h3
  have h4 : T.top s.toNat = ((ss k).headD 0).toNat := by omega
  rwa [h4] at h2
/-- Whose top one is not the session's isn't below one of the session's. -/
theorem Inv.apart (H : Inv T A ss C P) {k : Nat} (hk : k < 3) {s : Int} (hm : s ∈ ss k) {x : Int} (hx : 1 ≤ x ∧ x ≤ T.n) (hne : T.g T.top x ≠ (ss k).headD 0) : ¬ Und T.par s.toNat x.toNat := fun h => by
  have h1 := H.run k hk s hm
  exact hne ((und_same H.ok (runs_in h1.1) hx h).trans h1.2)
/-- A session's deepest ones r are taken back with s, if those below s are just these. -/
theorem Inv.aboR (H : Inv T A ss C P) {k : Nat} (hk : k < 3) {l r : List Int} (hl : ss k = l ++ r) {s : Int} (hs : s ∈ r) (hr : ∀ x ∈ r, Und T.par s.toNat x.toNat) (hno : ∀ x ∈ l, ¬ Und T.par s.toNat x.toNat) (hok : (T.aboT s).Ok) (hnu : (T.aboT s).Nums) : T.err s = 0 ∧ (T.aboT s).last = T.last ∧ Inv (T.aboT s) A (updS ss k l) C (fun y => (P y).filter fun e => decide (e.1 ∉ r)) ∧ ∀ y, ∀ e ∈ C y, (T.aboT s).numI e.1 = T.numI e.1 := by
  have hsk : s ∈ ss k := by rw [hl]; exact List.mem_append_right _ hs
  have hrun := (H.run k hk s hsk).1
  have hin := runs_in hrun
  have he := run_err hrun
  have hla : (T.aboT s).last = T.last := by unfold Tb.aboT; rw [if_pos he]; rfl
  have hb := fun x hx => back_int H.ok H.nums false hrun (U := T.aboT s) (by simp) x hx
  have hC : ∀ y, ∀ e ∈ C y, (T.aboT s).cnt e.1 = true ∧ (T.aboT s).numI e.1 = T.numI e.1 := fun y e hm => by
    have hc := (H.row y).cnt e (List.mem_append_left _ hm)
    have hx := cnt_in hc
    have hs2 : ss k ≠ [] := fun e => by rw [e] at hsk; cases hsk
    have hno := H.notown hk hs2 hm
    unfold Tb.ownB at hno
    rw [hc, Bool.true_and] at hno
    have hap := H.apart hk hsk hx (of_decide_eq_false hno)
    rcases hb e.1 hx with h | ⟨h, -⟩ | ⟨h, -⟩
    · exact ⟨h.2.2.2.2.trans hc, h.2.2.2.1⟩
    · exact absurd h hap
    · exact absurd h hap
  refine ⟨he, hla, H.drop hk hl (aboT_n _ _) hok hnu (fun x hx hc => ?_) (fun x hm => ?_) hC (fun j hj x hm hjk => ?_), fun y e hm => (hC y e hm).2⟩
  · by_cases h1 : 1 ≤ x
    · rcases hb x ⟨h1, hx⟩ with h | ⟨-, -, h⟩ | ⟨-, h, -⟩
      · rw [← h.2.2.2.2]; exact hc
      · rw [h] at hc; cases hc
      · cases h
    · have := cnt_in hc
      omega
  · have hxk : x ∈ ss k := by rw [hl]; exact List.mem_append_right _ hm
    have hx := runs_in (H.run k hk x hxk).1
    rcases hb x hx with h | ⟨-, -, h⟩ | ⟨-, h, -⟩
    · exact absurd (hr x hm) h.1
    · exact h
    · cases h
  · have h1 := H.run j hj x hm
    have hx := runs_in h1.1
    have hap : ¬ Und T.par s.toNat x.toNat := by
      by_cases e2 : j = k
      · exact hno x (hjk e2)
      · refine H.apart hk hsk hx ?_
        rw [h1.2]
        exact H.ne j k hj hk e2 (fun e => by rw [e] at hm; cases hm) (fun e => by rw [e] at hsk; cases hsk)
    rcases hb x hx with h | ⟨h, -⟩ | ⟨h, -⟩
    · exact ⟨h.2.2.2.2.trans (run_cnt h1.1), h.2.1, h.2.2.1⟩
    · exact absurd h hap
    · exact absurd h hap
/-- A session is taken back. -/
theorem Inv.aboH (H : Inv T A ss C P) {k : Nat} (hk : k < 3) (hs : ss k ≠ []) (hok : (T.aboT ((ss k).headD 0)).Ok) (hnu : (T.aboT ((ss k).headD 0)).Nums) : T.err ((ss k).headD 0) = 0 ∧ (T.aboT ((ss k).headD 0)).last = T.last ∧ Inv (T.aboT ((ss k).headD 0)) A (updS ss k []) C (fun y => (P y).filter fun e => decide (e.1 ∉ ss k)) ∧ ∀ y, ∀ e ∈ C y, (T.aboT ((ss k).headD 0)).numI e.1 = T.numI e.1 :=
  H.aboR hk (l := []) (r := ss k) rfl (H.headin hk hs) (fun x hx => H.undhead hk hx) (fun x hx => by cases hx) hok hnu
/-- A session's deepest one is taken back. -/
theorem Inv.aboD (H : Inv T A ss C P) {k : Nat} (hk : k < 3) {l : List Int} {s : Int} (hl : ss k = l ++ [s]) (hok : (T.aboT s).Ok) (hnu : (T.aboT s).Nums) : T.err s = 0 ∧ (T.aboT s).last = T.last ∧ Inv (T.aboT s) A (updS ss k l) C (fun y => (P y).filter fun e => decide (e.1 ∉ [s])) ∧ ∀ y, ∀ e ∈ C y, (T.aboT s).numI e.1 = T.numI e.1 := by
  refine H.aboR hk hl (List.mem_singleton.2 rfl) (fun x hx => ?_) (fun x hx hu => ?_) hok hnu
  · rw [List.mem_singleton.1 hx]
    exact .self
  · have hup := H.up k hk
    rw [hl] at hup
    have h1 := (List.pairwise_append.1 hup).2.2 x hx s (List.mem_singleton.2 rfl)
    have h2 := runs_in (H.run k hk x (by rw [hl]; exact List.mem_append_left _ hx)).1
    have h3 := runs_in (H.run k hk s (by rw [hl]; simp)).1
    have := H.ok.und_le x.toNat hu (by omega) (by omega)
    omega
end

end Go.Proofs.Ytbgnbaogclnpgaa

namespace Go.Proofs.Ytbgnbaogclnpgaa
set_option linter.unusedVariables false

/-- What s left of writings. -/
def lastBy (s : Int) (E : List Wt) : Option Int := ((E.filter fun e => decide (e.1 = s)).getLast?).map fun e => e.2
/-- The last one of what is there, over c. -/
def overO (c : Int) (l : List (Option Int)) : Int := l.foldl (fun a o => o.getD a) c

theorem lastBy_snoc (s : Int) (E : List Wt) (e : Wt) : lastBy s (E ++ [e]) = if e.1 = s then some e.2 else lastBy s E := by
  unfold lastBy
  rw [List.filter_append]
  by_cases h : e.1 = s
  · rw [if_pos h, show [e].filter (fun e => decide (e.1 = s)) = [e] by simp [h], List.getLast?_append]
    rfl
  · rw [if_neg h, show [e].filter (fun e => decide (e.1 = s)) = [] by simp [h], List.append_nil]
theorem lastBy_filter (s : Int) (E : List Wt) {q : Wt → Bool} (h : ∀ e ∈ E, e.1 = s → q e = true) : lastBy s (E.filter q) = lastBy s E := by
  unfold lastBy
  rw [List.filter_filter]
  congr 2
  refine List.filter_congr fun e he => ?_
  by_cases h1 : e.1 = s
  · rw [h e he h1]; simp
  · simp [h1]
theorem lastBy_none {s : Int} {E : List Wt} (h : ∀ e ∈ E, e.1 ≠ s) : lastBy s E = none := by
  unfold lastBy
  rw [List.filter_eq_nil_iff.2 (fun e he q => h e he (of_decide_eq_true q))]
  rfl
theorem over_last : ∀ {l : List Int} {E : List Wt} (c : Int), E.Pairwise (fun e f => e.1 ≤ f.1) → l.Pairwise (· < ·) → (∀ e ∈ E, e.1 ∈ l) → overO c (l.map fun s => lastBy s E) = (E.getLast?.map fun e => e.2).getD c
  | [], E, c, hs, hl, hm => by
    cases E with
    | nil => rfl
    | cons e E => exact absurd (hm e (List.mem_cons_self ..)) List.not_mem_nil
  | s :: l, E, c, hs, hl, hm => by
    obtain ⟨u1, u2⟩ := List.pairwise_cons.1 hl
    have hc := cut_sorted (f := fun e => e.1) s hs
    have hle : ∀ e ∈ E, (e.1 ≤ s ↔ e.1 = s) := fun e he => by
      rcases List.mem_cons.1 (hm e he) with h | h
      · omega
      · have := u1 _ h; omega
    obtain ⟨E2, h2⟩ : ∃ E2, E.filter (fun e => !decide (e.1 ≤ s)) = E2 := ⟨_, rfl⟩
    obtain ⟨E1, h1⟩ : ∃ E1, E.filter (fun e => decide (e.1 ≤ s)) = E1 := ⟨_, rfl⟩
    rw [h1, h2] at hc
    have e1 : lastBy s E = E1.getLast?.map fun e => e.2 := by
      unfold lastBy
      rw [← h1, List.filter_congr (fun e he => decide_eq_decide.2 (hle e he).symm)]
    have e2 : (l.map fun s' => lastBy s' E) = l.map fun s' => lastBy s' E2 := by
      refine List.map_congr_left fun s' hs' => ?_
      rw [← h2]
      refine (lastBy_filter s' E fun e he h => ?_).symm
      have := u1 _ hs'
      rw [decide_eq_false (by omega)]
      rfl
    have ih := over_last (l := l) (E := E2) ((lastBy s E).getD c) (by rw [← h2]; exact hs.filter _) u2 (fun e he => by
      rw [← h2] at he
      obtain ⟨q1, q2⟩ := List.mem_filter.1 he
      rcases List.mem_cons.1 (hm e q1) with h | h
      · exfalso
        rw [h] at q2
        simp at q2
      · exact h)
    unfold overO at ih ⊢
    rw [List.map_cons, List.foldl_cons, e2, ih, e1]
    rw [hc, List.getLast?_append]
    cases E2.getLast? with
    | none => cases E1.getLast? <;> rfl
    | some e => rfl
theorem valE_over {E : List Wt} (C : List Wt) (h : ∀ e ∈ E, -1 ≤ e.2) : valE (C ++ E) = (E.getLast?.map fun e => e.2).getD (valE C) := by
  unfold valE
  rw [List.getLast?_append]
  cases hE : E.getLast? with
  | none => rfl
  | some e =>
    have := h e (List.mem_of_getLast? hE)
    show (if e.2 < 0 then -1 else e.2) = e.2
    by_cases h1 : e.2 < 0
    · rw [if_pos h1]; omega
    · rw [if_neg h1]

theorem Inv.new : Inv Tb.new Ab.new (fun _ => []) (fun _ => []) (fun _ => []) := by
  refine ⟨Tb.new_ok, Tb.new_nums, Ab.Ok.new, fun p hp => (by cases hp), fun y => ⟨rfl, fun p hp => (by cases hp), fun p hp => (by cases hp), fun e he => (by cases he), fun X e Y h => by simp at h⟩, fun y e he => (by cases he), fun y => List.Pairwise.nil, fun y => .inl rfl, fun y => List.Pairwise.nil, fun k hk s hs => (by cases hs), fun k hk => List.Pairwise.nil, fun j k hj hk hne h => absurd rfl h⟩

/-- What is kept: the state of the law's own books. -/
structure Bk (T : Tb) (A : Ab) (ss : Nat → List Int) (C P : Int → List Wt) : Prop where
  inv : Inv T A ss C P
  low : ∀ y, ∀ e ∈ P y, -1 ≤ e.2
/-- What a snapshot keeps. -/
structure Kp (T : Tb) (C : Int → List Wt) (a : Int) (kept : Int → Int) : Prop where
  le : a ≤ T.last
  is : ∀ y, kept y = valE ((C y).filter fun e => decide (T.numI e.1 ≤ a))

theorem Bk.new : Bk Tb.new Ab.new (fun _ => []) (fun _ => []) (fun _ => []) := ⟨Inv.new, fun y e he => by cases he⟩

section
variable {T : Tb} {A : Ab} {ss : Nat → List Int} {C P : Int → List Wt}
/-- The row's own writings of a session, over what is committed. -/
theorem Bk.want (H : Bk T A ss C P) {k : Nat} (hk : k < 3) (y : Int) : overO (valE (C y)) ((ss k).map fun s => lastBy s (P y)) = valE (C y ++ (P y).filter fun e => decide (e.1 ∈ ss k)) := by
  rw [valE_over _ (fun e he => H.low y e (List.mem_filter.1 he).1)]
  rw [← over_last (l := ss k) (valE (C y)) ((H.inv.ps y).filter _) (H.inv.up k hk) (fun e he => of_decide_eq_true (List.mem_filter.1 he).2)]
  congr 1
  refine List.map_congr_left fun s hs => ?_
  exact (lastBy_filter s (P y) fun e he h => by rw [h]; exact decide_eq_true hs).symm
/-- What a session sees of a row. -/
theorem Bk.see (H : Bk T A ss C P) {k : Nat} (hk : k < 3) (hs : ss k ≠ []) (y : Int) : wsV T A T.last ((ss k).headD 0) y = overO (valE (C y)) ((ss k).map fun s => lastBy s (P y)) := by
  rw [H.want hk]
  rcases H.inv.whose hk y with ⟨e1, e2⟩ | ⟨e1, e2⟩
  · rw [e1]
    have hm : ∀ e ∈ P y, e.1 ∈ ss k := fun e he => by
      rw [← e1] at he
      exact of_decide_eq_true (List.mem_filter.1 he).2
    by_cases hp : P y = []
    · rw [hp, List.append_nil]
      exact H.inv.others hk hs (fun e he => by rw [hp] at he; cases he)
    · rw [H.inv.mine hk hs hp hm]
      obtain ⟨e, he⟩ := Option.isSome_iff_exists.1 (show (P y).getLast?.isSome = true by cases h : P y with
        | nil => exact absurd h hp
        | cons a l => simp)
      unfold valE
      rw [List.getLast?_append, he]
      rfl
  · rw [e1, List.append_nil]
    exact H.inv.others hk hs (fun e he => by
      rw [← e2] at he
      exact of_decide_eq_true (List.mem_filter.1 he).2)
theorem Bk.now (H : Bk T A ss C P) (y : Int) : wsV T A T.last 0 y = valE (C y) := H.inv.now y
theorem Kp.at (H : Bk T A ss C P) {a : Int} {kept : Int → Int} (K : Kp T C a kept) (y : Int) : wsV T A a 0 y = kept y := by rw [H.inv.at, K.is]
theorem Kp.now (H : Bk T A ss C P) : Kp T C T.last (fun y => valE (C y)) :=
  ⟨Int.le_refl _, fun y => by rw [List.filter_eq_self.2 fun e he => decide_eq_true (num_last H.inv.ok H.inv.nums _ (H.inv.cn y e he))]⟩
theorem Kp.same {U : Tb} {a : Int} {kept : Int → Int} (K : Kp T C a kept) (hl : T.last ≤ U.last) (hn : ∀ y, ∀ e ∈ C y, U.numI e.1 = T.numI e.1) : Kp U C a kept :=
  ⟨by have := K.le; omega, fun y => by rw [K.is]; congr 1; exact List.filter_congr fun e he => by rw [hn y e he]⟩

/-- A session begins, or makes a savepoint. -/
theorem Bk.beg (H : Bk T A ss C P) {k : Nat} (hk : k < 3) {p : Int} (hp : (ss k = [] ∧ p = 0) ∨ p ∈ ss k) : T.begE p = 0 ∧ T.begI p = (T.n : Int) + 1 ∧ (T.begT p).n = T.n + 1 ∧ (T.begT p).last = T.last ∧ Bk (T.begT p) A (updS ss k (ss k ++ [(T.n : Int) + 1])) C P ∧ (∀ a kept, Kp T C a kept → Kp (T.begT p) C a kept) ∧ ∀ y, lastBy ((T.n : Int) + 1) (P y) = none := by
  have hnu : (T.begT p).Nums := H.inv.nums.stp H.inv.ok 0 p
  have hok : (T.begT p).Ok := H.inv.ok.stp 0 p
  obtain ⟨h1, h2, h3⟩ := H.inv.beg hk hp hok hnu
  obtain ⟨hn, hi, hla, hold⟩ := beg_old H.inv.ok h1
  refine ⟨h1, h2, hn, hla, ⟨h3, H.low⟩, fun a kept K => K.same (by omega) fun y e he => ?_, fun y => lastBy_none fun e he => ?_⟩
  · have := (cnt_in ((H.inv.row y).cnt e (List.mem_append_left _ he))).2
    exact (hold _ this).2.1
  · have := (cnt_in ((H.inv.row y).cnt e (List.mem_append_right _ he))).2
    omega
/-- A session is committed. -/
theorem Bk.com (H : Bk T A ss C P) {k : Nat} (hk : k < 3) (hs : ss k ≠ []) {U : Tb} (hU : T.comT ((ss k).headD 0) = U) : T.err ((ss k).headD 0) = 0 ∧ U.n = T.n ∧ U.last = T.last + 1 ∧ Bk U A (updS ss k []) (fun y => C y ++ (P y).filter fun e => decide (e.1 ∈ ss k)) (fun y => (P y).filter fun e => decide (e.1 ∉ ss k)) ∧ ∀ a kept, Kp T C a kept → Kp U (fun y => C y ++ (P y).filter fun e => decide (e.1 ∈ ss k)) a kept := by
  subst hU
  have hnu : (T.comT ((ss k).headD 0)).Nums := H.inv.nums.stp H.inv.ok 1 _
  have hok : (T.comT ((ss k).headD 0)).Ok := H.inv.ok.stp 1 _
  obtain ⟨h1, h2, h3, h4, h5⟩ := H.inv.comH hk hs hok hnu
  refine ⟨h1, comT_n _ _, h2, ⟨h3, fun y e he => H.low y e (List.mem_filter.1 he).1⟩, fun a kept K => ⟨by have := K.le; omega, fun y => ?_⟩⟩
  rw [K.is, List.filter_append]
  have e1 : ((P y).filter fun e => decide (e.1 ∈ ss k)).filter (fun e => decide ((T.comT ((ss k).headD 0)).numI e.1 ≤ a)) = [] := by
    rw [List.filter_eq_nil_iff]
    intro e he q
    have h6 := h5 e.1 (of_decide_eq_true (List.mem_filter.1 he).2)
    have h7 := of_decide_eq_true q
    have := K.le
    omega
  rw [e1, List.append_nil]
  congr 1
  exact List.filter_congr fun e he => by rw [h4 y e he]
/-- A session is taken back, or goes back behind its deepest one. -/
theorem Bk.abo (H : Bk T A ss C P) {k : Nat} (hk : k < 3) {l r : List Int} {s : Int} (hl : ss k = l ++ r) (hr : (l = [] ∧ s = (ss k).headD 0 ∧ r ≠ []) ∨ r = [s]) {U : Tb} (hU : T.aboT s = U) : T.err s = 0 ∧ U.n = T.n ∧ U.last = T.last ∧ Bk U A (updS ss k l) C (fun y => (P y).filter fun e => decide (e.1 ∉ r)) ∧ (∀ a kept, Kp T C a kept → Kp U C a kept) ∧ ∀ j, j < 3 → ∀ s' ∈ updS ss k l j, ∀ y, lastBy s' ((P y).filter fun e => decide (e.1 ∉ r)) = lastBy s' (P y) := by
  subst hU
  have hnu : (T.aboT s).Nums := H.inv.nums.stp H.inv.ok 2 s
  have hok : (T.aboT s).Ok := H.inv.ok.stp 2 s
  have h : T.err s = 0 ∧ (T.aboT s).last = T.last ∧ Inv (T.aboT s) A (updS ss k l) C (fun y => (P y).filter fun e => decide (e.1 ∉ r)) ∧ ∀ y, ∀ e ∈ C y, (T.aboT s).numI e.1 = T.numI e.1 := by
    rcases hr with ⟨h1, h2, h3⟩ | h1
    · subst h1 h2
      have h4 : r = ss k := hl.symm
      subst h4
      exact H.inv.aboH hk h3 hok hnu
    · subst h1
      exact H.inv.aboD hk hl hok hnu
  obtain ⟨h1, h2, h3, h4⟩ := h
  refine ⟨h1, aboT_n _ _, h2, ⟨h3, fun y e he => H.low y e (List.mem_filter.1 he).1⟩, fun a kept K => K.same (by omega) h4, fun j hj s' hs' y => lastBy_filter s' (P y) fun e he q => ?_⟩
  rw [q]
  refine decide_eq_true fun hin => ?_
  by_cases e2 : j = k
  · subst e2
    rw [updS_at] at hs'
    have hup := H.inv.up j hj
    rw [hl] at hup
    have := (List.pairwise_append.1 hup).2.2 s' hs' s' hin
    omega
  · rw [updS_ne _ _ e2] at hs'
    exact H.inv.notin hj hk e2 hs' (by rw [hl]; exact List.mem_append_right _ hin)
theorem wrA_one {T : Tb} {A : Ab} (h : ∀ p ∈ A.pl, p.2.row.length = 1) (top sub y n : Int) : ∀ p ∈ (wrA T A top sub y n).pl, p.2.row.length = 1 := by
  have hk : ∀ x a c, ∀ p ∈ (A.kl x a c).pl, p.2.row.length = 1 := fun x a c p hp => by
    unfold Ab.kl at hp
    cases hx : A.tupI x with
    | none => rw [hx] at hp; exact h p hp
    | some t =>
      rw [hx] at hp
      unfold Ab.kill at hp
      obtain ⟨q, hq, rfl⟩ := List.mem_map.1 hp
      have := h q hq
      unfold killP
      split
      · exact this
      · exact this
  have hp : ∀ B : Ab, (∀ p ∈ B.pl, p.2.row.length = 1) → ∀ p ∈ (B.pt (tupR 1 y sub n)).pl, p.2.row.length = 1 := fun B hB p hp => by
    unfold Ab.pt at hp
    split at hp
    · unfold Ab.put at hp
      rcases List.mem_append.1 hp with hp | hp
      · exact hB p hp
      · rw [List.mem_singleton.1 hp]; rfl
    · exact hB p hp
  unfold wrA
  split
  · have hB : ∀ p ∈ (if seenB T A T.last top 1 y then A.kl (seenV T A T.last top 1 y) sub 0 else A).pl, p.2.row.length = 1 := by
      split
      · exact hk _ _ _
      · exact h
    simp only
    split
    · exact hB
    · exact hp _ hB
  · exact h
/-- A session writes a row, or doesn't. -/
theorem Bk.wr (H : Bk T A ss C P) {k : Nat} (hk : k < 3) {l : List Int} {sub : Int} (hl : ss k = l ++ [sub]) {y n : Int} (hy : Most y) (hn : -1 ≤ n) {b : Bool} (hb : wrB T A ((ss k).headD 0) y n = b) {A' : Ab} (hA : wrA T A ((ss k).headD 0) sub y n = A') (hok : A'.Ok) :
    (b = false ∧ Bk T A' ss C P) ∨ (b = true ∧ Bk T A' ss C (fun y' => if y' = y then P y ++ [(sub, n)] else P y') ∧ ∀ j, j < 3 → ∀ s ∈ ss j, ∀ y', lastBy s (if y' = y then P y ++ [(sub, n)] else P y') = if s = sub ∧ y' = y then some n else lastBy s (P y')) := by
  cases b with
  | false =>
    refine .inl ⟨rfl, ?_⟩
    have : wrA T A ((ss k).headD 0) sub y n = A := by unfold wrA; rw [hb]; rfl
    rw [← hA, this]
    exact H
  | true =>
    have hm : ∀ e ∈ P y, e.1 ∈ ss k := fun e he => by
      by_cases h : e.1 ∈ ss k
      · exact h
      · have := (wr_locked (sub := sub) (n := n) (H.inv.locked hk (by rw [hl]; simp) he h)).1
        rw [hb] at this
        cases this
    have hsub : sub ∈ ss k := by rw [hl]; simp
    have hlast : ∀ s ∈ ss k, s ≤ sub := fun s hs => by
      have hup := H.inv.up k hk
      rw [hl] at hup hs
      rcases List.mem_append.1 hs with h | h
      · have := (List.pairwise_append.1 hup).2.2 s h sub (List.mem_singleton.2 rfl); omega
      · rw [List.mem_singleton.1 h]; exact Int.le_refl _
    have hw := (H.inv.wr hk hy hm hsub hlast (n := n) hA hok (by rw [← hA]; exact wrA_one H.inv.one _ _ _ _)).2 hb
    refine .inr ⟨rfl, ⟨hw, fun y' e he => ?_⟩, fun j hj s hs y' => ?_⟩
    · by_cases h : y' = y
      · rw [if_pos h] at he
        rcases List.mem_append.1 he with he | he
        · exact H.low y e he
        · rw [List.mem_singleton.1 he]; exact hn
      · rw [if_neg h] at he
        exact H.low y' e he
    · by_cases h : y' = y
      · subst h
        rw [if_pos rfl, lastBy_snoc]
        show (if sub = s then some n else _) = _
        by_cases h2 : sub = s
        · rw [if_pos h2, if_pos ⟨h2.symm, rfl⟩]
        · rw [if_neg h2, if_neg (fun q => h2 q.1.symm)]
      · rw [if_neg h, if_neg (fun q => h q.2)]
end

end Go.Proofs.Ytbgnbaogclnpgaa
