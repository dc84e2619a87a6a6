/-
  The walk over all that stands below a transaction, as mathematics (stage 9).
-/
import Derived.Test.YtbgnbaogclnpgaaYPush
namespace Go.Proofs.Ytbgnbaogclnpgaa
open Go.RowKit
set_option linter.unusedVariables false

/-- The transactions of p have the state s. -/
def Tb.put (T : Tb) (p : List Nat) (s : Nat) : Tb := { T with st := fun k => if k ∈ p then s else T.st k }
theorem Tb.put_in {T : Tb} {p : List Nat} {s k : Nat} (h : k ∈ p) : (T.put p s).st k = s := by simp only [Tb.put]; rw [if_pos h]
theorem Tb.put_out {T : Tb} {p : List Nat} {s k : Nat} (h : k ∉ p) : (T.put p s).st k = T.st k := by simp only [Tb.put]; rw [if_neg h]

theorem filter_less {α : Type} {P Q : α → Bool} : ∀ (l : List α), (∀ a ∈ l, Q a = true → P a = true) → ∀ x ∈ l, P x = true → Q x = false → (l.filter Q).length + 1 ≤ (l.filter P).length
  | [], _, x, hx, _, _ => absurd hx List.not_mem_nil
  | y :: l, h, x, hx, hp, hq => by
    have hle : ∀ l : List α, (∀ a ∈ l, Q a = true → P a = true) → (l.filter Q).length ≤ (l.filter P).length := fun l => by
      induction l with
      | nil => intro _; exact Nat.le_refl _
      | cons z l ih =>
        intro h
        have h1 := ih (fun a ha => h a (List.mem_cons_of_mem _ ha))
        cases hz : Q z with
        | true =>
          have := h z (List.mem_cons_self ..) hz
          simp only [List.filter_cons, hz, this, if_true, List.length_cons]
          omega
        | false =>
          simp only [List.filter_cons, hz, Bool.false_eq_true, if_false]
          split
          · simp only [List.length_cons]; omega
          · exact h1
    rcases List.mem_cons.1 hx with rfl | hx
    · have h1 := hle l (fun a ha => h a (List.mem_cons_of_mem _ ha))
      simp only [List.filter_cons, hp, hq, if_true, Bool.false_eq_true, if_false, List.length_cons]
      omega
    · have h1 := filter_less l (fun a ha => h a (List.mem_cons_of_mem _ ha)) x hx hp hq
      cases hy : Q y with
      | true =>
        have := h y (List.mem_cons_self ..) hy
        simp only [List.filter_cons, hy, this, if_true, List.length_cons]
        omega
      | false =>
        simp only [List.filter_cons, hy, Bool.false_eq_true, if_false]
        split
        · simp only [List.length_cons]; omega
        · exact h1

/-- How many are still to be come to. -/
def left (T : Tb) (id s : Nat) (p : List Nat) : Nat := ((List.range T.n).filter fun k => decide (T.st (k + 1) < s ∧ k + 1 ∉ id :: p)).length

theorem left_le (T : Tb) (id s : Nat) (p : List Nat) : left T id s p ≤ T.n := by
  have := List.length_filter_le (fun k => decide (T.st (k + 1) < s ∧ k + 1 ∉ id :: p)) (List.range T.n)
  rw [List.length_range] at this
  exact this

theorem left_less {T : Tb} {id s x : Nat} {p : List Nat} (h1 : 1 ≤ x) (h2 : x ≤ T.n) (hs : T.st x < s) (hx : x ∉ id :: p) : left T id s (p ++ [x]) + 1 ≤ left T id s p := by
  have e : x - 1 + 1 = x := by omega
  refine filter_less (List.range T.n) (fun a _ ha => ?_) (x - 1) (List.mem_range.2 (by omega)) (decide_eq_true (by rw [e]; exact ⟨hs, hx⟩)) (decide_eq_false (by rw [e]; intro h; exact h.2 (by simp)))
  have ha := of_decide_eq_true ha
  refine decide_eq_true ⟨ha.1, fun h => ha.2 ?_⟩
  rcases List.mem_cons.1 h with h | h
  · exact List.mem_cons.2 (.inl h)
  · exact List.mem_cons.2 (.inr (List.mem_append.2 (.inl h)))

attribute [irreducible] left

/-- Ahead of a round: p has been told, q is still to be looked below. -/
structure Walk (T : Tb) (id s : Nat) (p q : List Nat) : Prop where
  inp : ∀ x ∈ p, 1 ≤ x ∧ x ≤ T.n ∧ x ≠ id ∧ Und T.par id x ∧ T.st x < s
  inq : ∀ x ∈ q, x = id ∨ x ∈ p
  done : ∀ k, k = id ∨ k ∈ p → k ∈ q ∨ ∀ c, 1 ≤ c → c ≤ T.n → T.par c = k → T.st c < s → c ∈ p

/-- In a round: k is looked below, c is the next one there. -/
structure WalkI (T : Tb) (id s : Nat) (p q : List Nat) (k c : Nat) : Prop where
  inp : ∀ x ∈ p, 1 ≤ x ∧ x ≤ T.n ∧ x ≠ id ∧ Und T.par id x ∧ T.st x < s
  inq : ∀ x ∈ q, x = id ∨ x ∈ p
  kin : k = id ∨ k ∈ p
  done : ∀ j, j = id ∨ j ∈ p → j ∈ q ∨ j = k ∨ ∀ c, 1 ≤ c → c ≤ T.n → T.par c = j → T.st c < s → c ∈ p
  kids : ∀ d, 1 ≤ d → d ≤ T.n → T.par d = k → T.st d < s → d ∈ p ∨ d ≤ c
  cur : c ≠ 0 → c ≤ T.n ∧ T.par c = k

section
variable {T : Tb} {id s : Nat} {p q : List Nat} {k c : Nat}

theorem Walk.start (T : Tb) (id s : Nat) : Walk T id s [] [id] :=
  ⟨fun _ h => absurd h List.not_mem_nil, fun x hx => .inl (by simpa using hx), fun k hk => .inl (hk.elim (fun e => by simp [e]) (fun h => absurd h List.not_mem_nil))⟩

theorem WalkI.k_in (h : WalkI T id s p q k c) (hid : 1 ≤ id ∧ id ≤ T.n) : 1 ≤ k ∧ k ≤ T.n := by
  rcases h.kin with rfl | hk
  · exact hid
  · exact ⟨(h.inp k hk).1, (h.inp k hk).2.1⟩

theorem WalkI.k_und (h : WalkI T id s p q k c) : Und T.par id k := by
  rcases h.kin with rfl | hk
  · exact .self
  · exact (h.inp k hk).2.2.2.1

theorem Walk.pop (hok : T.Ok) (hid : 1 ≤ id ∧ id ≤ T.n) (h : Walk T id s p (q ++ [k])) : WalkI T id s p q k (T.y k) := by
  have hk : k = id ∨ k ∈ p := h.inq k (by simp)
  have hkn : 1 ≤ k ∧ k ≤ T.n := by
    rcases hk with rfl | hk
    · exact hid
    · exact ⟨(h.inp k hk).1, (h.inp k hk).2.1⟩
  refine ⟨h.inp, fun x hx => h.inq x (by simp [hx]), hk, fun j hj => ?_, fun d d1 d2 hd _ => .inr ?_, fun hy => hok.y_is k hkn.1 hkn.2 hy⟩
  · rcases h.done j hj with hm | hd
    · rcases List.mem_append.1 hm with hm | hm
      · exact .inl hm
      · exact .inr (.inl (by simpa using hm))
    · exact .inr (.inr hd)
  · have := hok.kid d d1 d2 (by omega)
    rw [hd] at this
    exact this

/-- TOne that is not told. -/
theorem WalkI.skip (hok : T.Ok) (hid : 1 ≤ id ∧ id ≤ T.n) (h : WalkI T id s p q k c) (hc : c ≠ 0) (hs : s ≤ (T.put (id :: p) s).st c) : WalkI T id s p q k (T.old c) := by
  obtain ⟨c1, c2⟩ := h.cur hc
  have hk := h.k_in hid
  refine ⟨h.inp, h.inq, h.kin, h.done, fun d d1 d2 hd hds => ?_, fun ho => ?_⟩
  · rcases h.kids d d1 d2 hd hds with hp | hle
    · exact .inl hp
    · by_cases he : d = c
      · subst he
        by_cases hm : d ∈ id :: p
        · rcases List.mem_cons.1 hm with rfl | hm
          · have h1 := hok.und_le k h.k_und hk.2 hk.1
            have h2 := hok.par_lt d hid.1 hid.2
            omega
          · exact .inl hm
        · rw [Tb.put_out hm] at hs
          omega
      · exact .inr (hok.sib c d d1 d2 (by omega) c1 (by omega) (by omega) (by omega))
  · obtain ⟨h1, h2, _⟩ := hok.old_is c (by omega) c1 ho
    exact ⟨by omega, by omega⟩

/-- TOne that is told. -/
theorem WalkI.take (hok : T.Ok) (hid : 1 ≤ id ∧ id ≤ T.n) (h : WalkI T id s p q k c) (hc : c ≠ 0) (hs : (T.put (id :: p) s).st c < s) :
    WalkI T id s (p ++ [c]) (q ++ [c]) k (T.old c) ∧ 1 ≤ c ∧ c ≤ T.n ∧ T.st c < s ∧ c ∉ id :: p := by
  obtain ⟨c1, c2⟩ := h.cur hc
  have hk := h.k_in hid
  have hm : c ∉ id :: p := fun hm => by rw [Tb.put_in hm] at hs; omega
  rw [Tb.put_out hm] at hs
  have hc1 : 1 ≤ c := by omega
  refine ⟨⟨fun x hx => ?_, fun x hx => ?_, ?_, fun j hj => ?_, fun d d1 d2 hd hds => ?_, fun ho => ?_⟩, hc1, c1, hs, hm⟩
  · rcases List.mem_append.1 hx with hx | hx
    · exact h.inp x hx
    · obtain rfl : x = c := by simpa using hx
      exact ⟨hc1, c1, fun e => hm (by rw [e]; exact List.mem_cons_self ..), .up (by omega) (by rw [c2]; exact h.k_und), hs⟩
  · rcases List.mem_append.1 hx with hx | hx
    · exact (h.inq x hx).imp (fun h => h) (fun hx => List.mem_append.2 (.inl hx))
    · exact .inr (List.mem_append.2 (.inr hx))
  · exact h.kin.imp (fun h => h) (fun hx => List.mem_append.2 (.inl hx))
  · have hj' : (j = id ∨ j ∈ p) ∨ j = c := by
      rcases hj with hj | hj
      · exact .inl (.inl hj)
      · rcases List.mem_append.1 hj with hj | hj
        · exact .inl (.inr hj)
        · exact .inr (by simpa using hj)
    rcases hj' with hj | rfl
    · rcases h.done j hj with hq | hk | hd
      · exact .inl (List.mem_append.2 (.inl hq))
      · exact .inr (.inl hk)
      · exact .inr (.inr fun c h1 h2 h3 h4 => List.mem_append.2 (.inl (hd c h1 h2 h3 h4)))
    · exact .inl (by simp)
  · rcases h.kids d d1 d2 hd hds with hp | hle
    · exact .inl (List.mem_append.2 (.inl hp))
    · by_cases he : d = c
      · exact .inl (by simp [he])
      · exact .inr (hok.sib c d d1 d2 hc1 c1 (by omega) (by omega) (by omega))
  · obtain ⟨h1, h2, _⟩ := hok.old_is c hc1 c1 ho
    exact ⟨by omega, by omega⟩

/-- None is left there. -/
theorem WalkI.over (h : WalkI T id s p q k 0) : Walk T id s p q := by
  refine ⟨h.inp, h.inq, fun j hj => ?_⟩
  rcases h.done j hj with hq | rfl | hd
  · exact .inl hq
  · exact .inr fun c c1 c2 hc hcs => (h.kids c c1 c2 hc hcs).elim (fun x => x) (fun h => absurd h (by omega))
  · exact .inr hd

/-- What has been told behind the walk. -/
theorem Walk.all (hok : T.Ok) (hid : 1 ≤ id ∧ id ≤ T.n) (h : Walk T id s p []) : ∀ x, 1 ≤ x → x ≤ T.n → Und T.par id x → T.st x < s → x ∈ id :: p := by
  intro x
  induction x using Nat.strongRecOn with
  | ind x ih =>
    intro h1 h2 hu hs
    rcases hu.cases' with rfl | ⟨h0, hu'⟩
    · exact List.mem_cons_self ..
    · have hl := hok.par_lt x h1 h2
      have hm := hok.mono x h1 h2 h0
      have hp := ih (T.par x) hl (by omega) (by omega) hu' (by omega)
      rcases h.done (T.par x) (List.mem_cons.1 hp) with hq | hd
      · exact absurd hq List.not_mem_nil
      · exact List.mem_cons_of_mem _ (hd x h1 h2 rfl hs)

/-- So the table is as it should be. -/
theorem Walk.fin (hok : T.Ok) (hid : 1 ≤ id ∧ id ≤ T.n) (hs : T.st id < s) (h : Walk T id s p []) : ∀ x, 1 ≤ x → x ≤ T.n → (T.put (id :: p) s).st x = (T.fin id s).st x := by
  intro x h1 h2
  rcases Tb.fin_st hok h1 h2 id s with ⟨hu, hl, e⟩ | ⟨hn, e⟩
  · rw [e, Tb.put_in (h.all hok hid x h1 h2 hu hl)]
  · rw [e, Tb.put_out]
    intro hm
    rcases List.mem_cons.1 hm with rfl | hm
    · exact hn ⟨.self, hs⟩
    · exact hn ⟨(h.inp x hm).2.2.2.1, (h.inp x hm).2.2.2.2⟩
end

end Go.Proofs.Ytbgnbaogclnpgaa
