/-
  One lock as lists: who holds it, who waits; what is asked, let go, and settled (stage 14).
-/
import Derived.Test.YtjjhmfpdbjflmaaOMath
namespace Go.Proofs.Ytjjhmfpdbjflmaa
open Go.RowKit
set_option linter.unusedVariables false
set_option linter.unusedSimpArgs false

abbrev PL := List (Int × Int)

/-- A lock: its class, who holds it (by rising numbers; by which modes), who waits (in the queue's order; in which mode). -/
structure Lk where
  c : Int
  hd : PL
  wt : PL

/-- What somebody holds. -/
def heldL : PL → Int → Int
  | [], _ => 0
  | p :: l, x => if p.1 = x then p.2 else heldL l x
theorem held_cons (p : Int × Int) (l : PL) (x : Int) : heldL (p :: l) x = if p.1 = x then p.2 else heldL l x := rfl
def fsts (l : PL) : List Int := l.map Prod.fst
def without (l : PL) (x : Int) : PL := l.filter fun p => !decide (p.1 = x)
/-- A mode more for somebody. -/
def giveL : PL → Int → Int → PL
  | [], x, m => [(x, withN 0 m)]
  | p :: l, x, m => if p.1 = x then (x, withN p.2 m) :: l else if x < p.1 then (x, withN 0 m) :: p :: l else p :: giveL l x m
/-- Who of the holders is in the way; who of those ahead. -/
def blkH (c : Int) (hd : PL) (x m : Int) : List Int := fsts (hd.filter fun p => !decide (p.1 = x) && !goB c p.2 m)
def blkW (c : Int) (bef : PL) (x m : Int) : List Int := fsts (bef.filter fun p => !decide (p.1 = x) && !goB c (withN 0 p.2) m)
/-- A number more in a list that rises. -/
def putR : List Int → Int → List Int
  | [], n => [n]
  | y :: l, n => if y < n then y :: putR l n else if y = n then y :: l else n :: y :: l
/-- All who are in the way. -/
def allB (c : Int) (hd bef : PL) (x m : Int) : List Int := blkH c hd x m ++ if heldL hd x = 0 then blkW c bef x m else []
def forL (c : Int) (hd bef : PL) (x m : Int) : List Int := (allB c hd bef x m).foldl putR []

/-! ### Lists that rise -/

def RiseL (l : List Int) : Prop := l.Pairwise (· < ·)

theorem mem_putR : ∀ {l : List Int} {n y : Int}, y ∈ putR l n ↔ y = n ∨ y ∈ l
  | [], n, y => by simp [putR]
  | a :: l, n, y => by
    unfold putR
    split
    · rw [List.mem_cons, mem_putR, List.mem_cons]; exact ⟨fun h => by rcases h with h | h | h <;> simp [h], fun h => by rcases h with h | h | h <;> simp [h]⟩
    · split
      · rename_i h1 h2; subst h2; simp
      · simp
theorem rise_putR : ∀ {l : List Int} {n : Int}, RiseL l → RiseL (putR l n)
  | [], n, _ => by simp [putR, RiseL]
  | a :: l, n, h => by
    have h' := List.pairwise_cons.1 h
    unfold putR
    split
    · rename_i h1
      refine List.pairwise_cons.2 ⟨fun y hy => ?_, rise_putR h'.2⟩
      rcases mem_putR.1 hy with rfl | hy
      · exact h1
      · exact h'.1 y hy
    · split
      · exact h
      · rename_i h1 h2
        refine List.pairwise_cons.2 ⟨fun y hy => ?_, h⟩
        rcases List.mem_cons.1 hy with rfl | hy
        · omega
        · have := h'.1 y hy; omega
theorem fold_put : ∀ (l a : List Int), RiseL a → RiseL (l.foldl putR a) ∧ ∀ y, y ∈ l.foldl putR a ↔ y ∈ l ∨ y ∈ a
  | [], a, h => ⟨h, fun y => by simp⟩
  | n :: l, a, h => by
    obtain ⟨h1, h2⟩ := fold_put l (putR a n) (rise_putR h)
    refine ⟨h1, fun y => ?_⟩
    rw [List.foldl_cons, h2, mem_putR, List.mem_cons]
    exact ⟨fun h => by rcases h with h | h | h <;> simp [h], fun h => by rcases h with (h | h) | h <;> simp [h]⟩
theorem forL_rise (c : Int) (hd bef : PL) (x m : Int) : RiseL (forL c hd bef x m) := (fold_put _ [] List.Pairwise.nil).1
theorem mem_forL {c : Int} {hd bef : PL} {x m y : Int} : y ∈ forL c hd bef x m ↔ y ∈ allB c hd bef x m := by
  unfold forL
  rw [(fold_put _ [] List.Pairwise.nil).2]
  simp
theorem forL_nil {c : Int} {hd bef : PL} {x m : Int} : forL c hd bef x m = [] ↔ allB c hd bef x m = [] := by
  rw [List.eq_nil_iff_forall_not_mem, List.eq_nil_iff_forall_not_mem]
  exact ⟨fun h y hy => h y (mem_forL.2 hy), fun h y hy => h y (mem_forL.1 hy)⟩
theorem mem_blkH {c : Int} {hd : PL} {x m y : Int} : y ∈ blkH c hd x m ↔ ∃ p ∈ hd, p.1 = y ∧ y ≠ x ∧ goB c p.2 m = false := by
  unfold blkH fsts
  simp only [List.mem_map, List.mem_filter, Bool.and_eq_true, Bool.not_eq_true', decide_eq_false_iff_not]
  exact ⟨fun ⟨p, ⟨h1, h2, h3⟩, h4⟩ => ⟨p, h1, h4, by rw [← h4]; exact h2, h3⟩, fun ⟨p, h1, h2, h3, h4⟩ => ⟨p, ⟨h1, by rw [h2]; exact h3, h4⟩, h2⟩⟩
theorem mem_blkW {c : Int} {bef : PL} {x m y : Int} : y ∈ blkW c bef x m ↔ ∃ p ∈ bef, p.1 = y ∧ y ≠ x ∧ goB c (withN 0 p.2) m = false := by
  unfold blkW fsts
  simp only [List.mem_map, List.mem_filter, Bool.and_eq_true, Bool.not_eq_true', decide_eq_false_iff_not]
  exact ⟨fun ⟨p, ⟨h1, h2, h3⟩, h4⟩ => ⟨p, h1, h4, by rw [← h4]; exact h2, h3⟩, fun ⟨p, h1, h2, h3, h4⟩ => ⟨p, ⟨h1, by rw [h2]; exact h3, h4⟩, h2⟩⟩
/-- Nobody is in the way. -/
def Free (c : Int) (hd bef : PL) (x m : Int) : Prop := (∀ p ∈ hd, p.1 ≠ x → goB c p.2 m = true) ∧ (heldL hd x = 0 → ∀ p ∈ bef, p.1 ≠ x → goB c (withN 0 p.2) m = true)
theorem forL_free {c : Int} {hd bef : PL} {x m : Int} : forL c hd bef x m = [] ↔ Free c hd bef x m := by
  rw [forL_nil, List.eq_nil_iff_forall_not_mem]
  unfold Free allB
  constructor
  · intro h
    refine ⟨fun p hp hne => ?_, fun h0 p hp hne => ?_⟩
    · cases hg : goB c p.2 m with
      | true => rfl
      | false => exact (h p.1 (List.mem_append.2 (.inl (mem_blkH.2 ⟨p, hp, rfl, hne, hg⟩)))).elim
    · cases hg : goB c (withN 0 p.2) m with
      | true => rfl
      | false => exact (h p.1 (List.mem_append.2 (.inr (by rw [if_pos h0]; exact mem_blkW.2 ⟨p, hp, rfl, hne, hg⟩)))).elim
  · rintro ⟨h1, h2⟩ y hy
    rcases List.mem_append.1 hy with hy | hy
    · obtain ⟨p, hp, rfl, hne, hg⟩ := mem_blkH.1 hy
      rw [h1 p hp hne] at hg; cases hg
    · split at hy
      · rename_i h0
        obtain ⟨p, hp, rfl, hne, hg⟩ := mem_blkW.1 hy
        rw [h2 h0 p hp hne] at hg; cases hg
      · cases hy

/-! ### Who holds what -/

theorem held_give : ∀ (l : PL) (x m y : Int), RiseL (fsts l) → heldL (giveL l x m) y = if y = x then withN (heldL l x) m else heldL l y
  | [], x, m, y, _ => by
    unfold giveL heldL
    by_cases h : y = x
    · subst h; simp [heldL]
    · rw [if_neg (fun e => h e.symm), if_neg h]; simp [heldL]
  | p :: l, x, m, y, hr => by
    have hr' := List.pairwise_cons.1 hr
    unfold giveL
    split
    · rename_i h1
      by_cases h : y = x
      · subst h; simp [heldL, h1]
      · have h' : ¬ x = y := fun e => h e.symm
        simp [heldL, h, h1, h']
    · rename_i h1
      split
      · rename_i h2
        have h0 : heldL (p :: l) x = 0 := by
          have : ∀ l : PL, (∀ q ∈ fsts l, x < q) → heldL l x = 0 := by
            intro l
            induction l with
            | nil => intro _; rfl
            | cons q l ih =>
              intro hq
              unfold heldL
              rw [if_neg (by have := hq q.1 (by simp [fsts]); omega)]
              exact ih fun z hz => hq z (by simp only [fsts, List.map_cons] at hz ⊢; exact List.mem_cons_of_mem _ hz)
          refine this _ fun q hq => ?_
          rcases List.mem_cons.1 hq with rfl | hq
          · exact h2
          · have := hr'.1 q hq; omega
        by_cases h : y = x
        · subst h; rw [if_pos rfl, h0]; simp [heldL]
        · rw [if_neg h]
          rw [held_cons, if_neg (fun e => h e.symm)]
      · have ih := held_give l x m y hr'.2
        by_cases h : y = x
        · subst h
          rw [if_pos rfl] at ih ⊢
          simp [heldL, h1, ih]
        · rw [if_neg h] at ih ⊢
          simp only [heldL, ih]
theorem held_without : ∀ (l : PL) (x y : Int), heldL (without l x) y = if y = x then 0 else heldL l y
  | [], x, y => by simp [without, heldL]
  | p :: l, x, y => by
    have ih := held_without l x y
    unfold without at ih ⊢
    by_cases h : p.1 = x
    · rw [List.filter_cons_of_neg (by simp [h]), ih]
      by_cases hy : y = x
      · simp [hy]
      · simp [hy, heldL, show ¬ p.1 = y from fun e => hy (e.symm.trans h)]
    · rw [List.filter_cons_of_pos (by simp [h])]
      by_cases hy : y = x
      · subst hy
        rw [if_pos rfl] at ih ⊢
        simp [heldL, h, ih]
      · rw [if_neg hy] at ih ⊢
        simp only [heldL, ih]
theorem held_mem : ∀ {l : PL} {x : Int}, heldL l x ≠ 0 → (x, heldL l x) ∈ l
  | [], x, h => (h rfl).elim
  | p :: l, x, h => by
    unfold heldL at h ⊢
    split at h
    · rename_i e; rw [if_pos e]; rw [show (x, p.2) = p by rw [← e]]; exact List.mem_cons_self
    · rename_i e; rw [if_neg e]; exact List.mem_cons_of_mem _ (held_mem h)
theorem held_of : ∀ {l : PL} {p : Int × Int}, RiseL (fsts l) → p ∈ l → heldL l p.1 = p.2
  | [], p, _, h => by cases h
  | q :: l, p, hr, h => by
    have hr' := List.pairwise_cons.1 hr
    unfold heldL
    rcases List.mem_cons.1 h with rfl | h
    · simp
    · have := hr'.1 p.1 (List.mem_map.2 ⟨p, h, rfl⟩)
      rw [if_neg (by omega)]
      exact held_of hr'.2 h
theorem mem_give : ∀ {l : PL} {x m : Int} {p : Int × Int}, RiseL (fsts l) → p ∈ giveL l x m → p = (x, withN (heldL l x) m) ∨ (p ∈ l ∧ p.1 ≠ x)
  | [], x, m, p, _, h => by
    simp only [giveL, List.mem_singleton] at h
    exact .inl h
  | q :: l, x, m, p, hr, h => by
    have hr' := List.pairwise_cons.1 hr
    unfold giveL at h
    split at h
    · rename_i e
      rcases List.mem_cons.1 h with rfl | h
      · left; simp [heldL, e]
      · right
        have := hr'.1 p.1 (List.mem_map.2 ⟨p, h, rfl⟩)
        exact ⟨List.mem_cons_of_mem _ h, by omega⟩
    · rename_i e
      split at h
      · rename_i e2
        rcases List.mem_cons.1 h with rfl | h
        · left
          have := held_give (q :: l) x m x hr
          unfold giveL at this
          rw [if_neg e, if_pos e2, if_pos rfl] at this
          rw [← this]
          simp [heldL]
        · right
          refine ⟨h, ?_⟩
          rcases List.mem_cons.1 h with rfl | h
          · exact e
          · have := hr'.1 p.1 (List.mem_map.2 ⟨p, h, rfl⟩); omega
      · rcases List.mem_cons.1 h with rfl | h
        · right; exact ⟨List.mem_cons_self, e⟩
        · rcases mem_give hr'.2 h with h | ⟨h, h2⟩
          · left; rw [h]; simp [heldL, e]
          · right; exact ⟨List.mem_cons_of_mem _ h, h2⟩
theorem fsts_give : ∀ {l : PL} {x m y : Int}, y ∈ fsts (giveL l x m) ↔ y = x ∨ y ∈ fsts l
  | [], x, m, y => by simp [giveL, fsts]
  | q :: l, x, m, y => by
    unfold giveL
    split
    · rename_i e; subst e; simp [fsts]
    · split
      · simp [fsts]
      · have := fsts_give (l := l) (x := x) (m := m) (y := y)
        simp only [fsts, List.map_cons, List.mem_cons] at this ⊢
        rw [this]
        exact ⟨fun h => by rcases h with h | h | h <;> simp [h], fun h => by rcases h with h | h | h <;> simp [h]⟩
theorem rise_give : ∀ {l : PL} {x m : Int}, RiseL (fsts l) → RiseL (fsts (giveL l x m))
  | [], x, m, _ => by simp [giveL, fsts, RiseL]
  | q :: l, x, m, hr => by
    have hr' := List.pairwise_cons.1 hr
    unfold giveL
    split
    · rename_i e
      subst e
      exact hr
    · rename_i e
      split
      · rename_i e2
        refine List.pairwise_cons.2 ⟨fun y hy => ?_, hr⟩
        rcases List.mem_cons.1 hy with rfl | hy
        · exact e2
        · have : q.1 < y := hr'.1 y hy
          show x < y
          omega
      · rename_i e2
        refine List.pairwise_cons.2 ⟨fun y hy => ?_, rise_give hr'.2⟩
        rcases fsts_give.1 hy with rfl | hy
        · show q.1 < y
          omega
        · exact hr'.1 y hy
theorem give_len : ∀ (l : PL) (x m : Int), (giveL l x m).length ≤ l.length + 1
  | [], x, m => by simp [giveL]
  | q :: l, x, m => by
    unfold giveL
    split
    · simp
    · split
      · simp
      · have := give_len l x m; simp; omega
theorem mem_without {l : PL} {x : Int} {p : Int × Int} : p ∈ without l x ↔ p ∈ l ∧ p.1 ≠ x := by
  unfold without
  simp
theorem without_len (l : PL) (x : Int) : (without l x).length ≤ l.length := List.length_filter_le _ _
theorem fsts_without {l : PL} {x y : Int} : y ∈ fsts (without l x) ↔ y ∈ fsts l ∧ y ≠ x := by
  unfold fsts
  simp only [List.mem_map, mem_without]
  exact ⟨fun ⟨p, ⟨h1, h2⟩, h3⟩ => ⟨⟨p, h1, h3⟩, by rw [← h3]; exact h2⟩, fun ⟨⟨p, h1, h3⟩, h2⟩ => ⟨p, ⟨h1, by rw [h3]; exact h2⟩, h3⟩⟩
theorem sub_without (l : PL) (x : Int) : (without l x).Sublist l := List.filter_sublist
theorem rise_without {l : PL} {x : Int} (h : RiseL (fsts l)) : RiseL (fsts (without l x)) := h.sublist ((sub_without l x).map _)
theorem nodup_without {l : PL} {x : Int} (h : (fsts l).Nodup) : (fsts (without l x)).Nodup := h.sublist ((sub_without l x).map _)
theorem without_none {l : PL} {x : Int} (h : x ∉ fsts l) : without l x = l := by
  unfold without
  rw [List.filter_eq_self]
  intro p hp
  have : p.1 ≠ x := fun e => h (by rw [← e]; exact List.mem_map.2 ⟨p, hp, rfl⟩)
  simp [this]

/-! ### What is asked, and let go -/

/-- The first one who is not in anybody's way. -/
def firstU (c : Int) (hd : PL) : PL → PL → Option (PL × (Int × Int) × PL)
  | _, [] => none
  | bef, r :: l => if forL c hd bef r.1 r.2 = [] then some (bef, r, l) else firstU c hd (bef ++ [r]) l
theorem firstU_cons (c : Int) (hd bef : PL) (r : Int × Int) (l : PL) : firstU c hd bef (r :: l) = if forL c hd bef r.1 r.2 = [] then some (bef, r, l) else firstU c hd (bef ++ [r]) l := rfl
def settleL (c : Int) : Nat → PL → PL → PL × PL × List Int
  | 0, hd, wt => (hd, wt, [])
  | n + 1, hd, wt => match firstU c hd [] wt with
    | none => (hd, wt, [])
    | some (bef, r, l) => ((settleL c n (giveL hd r.1 r.2) (bef ++ l)).1, (settleL c n (giveL hd r.1 r.2) (bef ++ l)).2.1, r.1 :: (settleL c n (giveL hd r.1 r.2) (bef ++ l)).2.2)

def Lk.dropS (A : Lk) (x : Int) : PL × PL × List Int := settleL A.c (without A.wt x).length (without A.hd x) (without A.wt x)
def Lk.drop (A : Lk) (x : Int) : Lk := if x < 1 then A else ⟨A.c, (A.dropS x).1, (A.dropS x).2.1⟩
def Lk.dropG (A : Lk) (x : Int) : List Int := if x < 1 then [] else (A.dropS x).2.2
def Lk.dropE (x : Int) : Int := if x < 1 then 1 else 0
def Lk.ask (A : Lk) (x m : Int) : Lk :=
  if x < 1 ∨ mayB A.c m = false then A
  else if covB A.c (heldL A.hd x) m = true then A
  else if x ∈ fsts A.wt then A
  else if forL A.c A.hd A.wt x m = [] then ⟨A.c, giveL A.hd x m, A.wt⟩
  else ⟨A.c, A.hd, A.wt ++ [(x, m)]⟩
def Lk.askB (A : Lk) (x m : Int) : Bool :=
  if x < 1 ∨ mayB A.c m = false then false
  else if covB A.c (heldL A.hd x) m = true then true
  else if x ∈ fsts A.wt then false
  else decide (forL A.c A.hd A.wt x m = [])
def Lk.askE (A : Lk) (x m : Int) : Int := if x < 1 ∨ mayB A.c m = false then 1 else 0
def Lk.new (c : Int) : Lk := ⟨c, [], []⟩

theorem firstU_none {c : Int} {hd : PL} : ∀ {bef wt : PL}, firstU c hd bef wt = none → ∀ pre r post, wt = pre ++ r :: post → forL c hd (bef ++ pre) r.1 r.2 ≠ []
  | bef, [], _, pre, r, post, e => by simp at e
  | bef, q :: l, h, pre, r, post, e => by
    unfold firstU at h
    split at h
    · cases h
    · rename_i hq
      cases pre with
      | nil =>
        simp at e
        obtain ⟨rfl, rfl⟩ := e
        rw [List.append_nil]; exact hq
      | cons p pre =>
        simp at e
        obtain ⟨rfl, rfl⟩ := e
        have := firstU_none h pre r post rfl
        rwa [List.append_assoc, List.singleton_append] at this
theorem firstU_some {c : Int} {hd : PL} : ∀ {bef wt : PL} {b : PL} {r : Int × Int} {l : PL}, firstU c hd bef wt = some (b, r, l) → bef ++ wt = b ++ r :: l ∧ forL c hd b r.1 r.2 = []
  | bef, [], b, r, l, h => by cases h
  | bef, q :: t, b, r, l, h => by
    unfold firstU at h
    split at h
    · rename_i hq
      simp only [Option.some.injEq, Prod.mk.injEq] at h
      obtain ⟨rfl, rfl, rfl⟩ := h
      exact ⟨rfl, hq⟩
    · have := firstU_some h
      rwa [List.append_assoc, List.singleton_append] at this
/-- One who is blocked is passed. -/
theorem firstU_skip {c : Int} {hd : PL} : ∀ {pre : PL} {bef l : PL}, (∀ a r b, pre = a ++ r :: b → forL c hd (bef ++ a) r.1 r.2 ≠ []) → firstU c hd bef (pre ++ l) = firstU c hd (bef ++ pre) l
  | [], bef, l, _ => by simp
  | q :: pre, bef, l, h => by
    rw [List.cons_append]
    rw [firstU_cons, if_neg (by have := h [] q pre rfl; rwa [List.append_nil] at this), firstU_skip (fun a r b e => by have := h (q :: a) r b (by rw [e]; rfl); rwa [List.append_assoc, List.singleton_append]), List.append_assoc, List.singleton_append]

end Go.Proofs.Ytjjhmfpdbjflmaa
