/-
  Which version of a row is visible, as plain mathematics (stage 12).
-/
import Derived.Test.YtbgnbaogclnpgaaHStd
import Derived.Test.YtbgnbaogclnpgaaNLaw
namespace Go.Proofs.Ytbgnbaogclnpgaa
set_option linter.unusedVariables false

/-- The versions of a row, with their slots, in the order in which they were put. -/
def Ab.vs (A : Ab) (x y : Int) : List (Nat × Tup) := A.pl.filter fun p => decide (p.2.no = x ∧ p.2.id = y)
theorem Ab.vs_slots (A : Ab) (x y : Int) : (A.vs x y).map Prod.fst = A.slots x y := rfl

/-- A row is the viewer's own; who affects the viewer; a version is visible. -/
def ownP (T : Tb) (m : Int) (t : Tup) : Bool := T.ownB m t.mn || T.ownB m t.mx
def ownR (T : Tb) (m : Int) (l : List (Nat × Tup)) : Bool := l.any fun p => ownP T m p.2
def affB (T : Tb) (own : Bool) (a m id : Int) : Bool := if own then T.ownB m id else T.seesB a m id
def endB (T : Tb) (own : Bool) (a m : Int) (t : Tup) : Bool := decide (t.mx ≠ 0) && affB T own a m t.mx
def visB (T : Tb) (own : Bool) (a m : Int) (t : Tup) : Bool := affB T own a m t.mn && !endB T own a m t
def seenL (T : Tb) (own : Bool) (a m : Int) (l : List (Nat × Tup)) : Option (Nat × Tup) := l.reverse.find? fun p => visB T own a m p.2
def seenO (T : Tb) (A : Ab) (a m x y : Int) : Option (Nat × Tup) := seenL T (ownR T m (A.vs x y)) a m (A.vs x y)
def slotO : Option (Nat × Tup) → Int | some p => (p.1 : Int) | none => 0
def seenV (T : Tb) (A : Ab) (a m x y : Int) : Int := slotO (seenO T A a m x y)
def seenB (T : Tb) (A : Ab) (a m x y : Int) : Bool := (seenO T A a m x y).isSome
def freshB (T : Tb) (A : Ab) (a m x y : Int) : Bool := ownR T m (A.vs x y) || (decide (seenB T A a m x y = seenB T A T.last 0 x y) && decide (seenV T A a m x y = seenV T A T.last 0 x y))
def deadT (T : Tb) (a : Int) (t : Tup) : Bool := !T.cnt t.mn || endB T false a 0 t
def deadB (T : Tb) (A : Ab) (a slot : Int) : Bool := match A.tupI slot with | some t => deadT T a t | none => false

theorem cnt_zero (T : Tb) : T.cnt 0 = false := by unfold Tb.cnt; rw [Tb.g_out (by omega)]; rfl
theorem num_zero (T : Tb) : T.numI 0 = 0 := by unfold Tb.numI; rw [cnt_zero]; rfl
theorem own_zero (T : Tb) (m : Int) : T.ownB m 0 = false := by unfold Tb.ownB; rw [cnt_zero]; rfl
theorem sees_zero' (T : Tb) (a m : Int) : T.seesB a m 0 = false := by unfold Tb.seesB Tb.reachB; rw [own_zero, num_zero]; rfl
theorem aff_zero (T : Tb) (own : Bool) (a m : Int) : affB T own a m 0 = false := by unfold affB; cases own <;> simp [own_zero, sees_zero']
theorem endB_is (T : Tb) (own : Bool) (a m : Int) (t : Tup) : endB T own a m t = affB T own a m t.mx := by
  unfold endB
  by_cases h : t.mx = 0
  · rw [h, aff_zero, Bool.and_false]
  · rw [decide_eq_true h, Bool.true_and]

/-- Nobody's transaction is none. -/
theorem own_none {T : Tb} (hok : T.Ok) (id : Int) : T.ownB 0 id = false := by
  unfold Tb.ownB
  cases h : T.cnt id with
  | false => rfl
  | true =>
    have := cnt_top hok h
    rw [Bool.true_and]
    exact decide_eq_false (by omega)
theorem ownR_none {T : Tb} (hok : T.Ok) (l : List (Nat × Tup)) : ownR T 0 l = false := by
  unfold ownR
  rw [List.any_eq_false]
  intro p _
  unfold ownP
  rw [own_none hok, own_none hok]
  decide
theorem sees_none {T : Tb} (hok : T.Ok) (a id : Int) : T.seesB a 0 id = T.reachB a id := by unfold Tb.seesB; rw [own_none hok, Bool.false_or]

/-- What is seen of a row. -/
theorem seenO_some {T : Tb} {A : Ab} {a m x y : Int} {p : Nat × Tup} (h : seenO T A a m x y = some p) : p ∈ A.pl ∧ p.2.no = x ∧ p.2.id = y ∧ visB T (ownR T m (A.vs x y)) a m p.2 = true := by
  unfold seenO seenL at h
  have h1 := List.mem_of_find?_eq_some h
  have h2 := List.find?_some h
  rw [List.mem_reverse] at h1
  unfold Ab.vs at h1
  obtain ⟨h3, h4⟩ := List.mem_filter.1 h1
  have h5 := of_decide_eq_true h4
  exact ⟨h3, h5.1, h5.2, h2⟩

theorem reach_mono {T : Tb} {a b : Int} (h : a ≤ b) {id : Int} (h1 : T.reachB a id = true) : T.reachB b id = true := by
  unfold Tb.reachB at h1 ⊢
  simp only [Bool.and_eq_true, decide_eq_true_eq] at h1 ⊢
  omega
theorem dead_mono {T : Tb} (hok : T.Ok) {a b : Int} (h : a ≤ b) {t : Tup} (h1 : deadT T a t = true) : deadT T b t = true := by
  unfold deadT at h1 ⊢
  rw [endB_is] at h1 ⊢
  unfold affB at h1 ⊢
  simp only [Bool.false_eq_true, if_false] at h1 ⊢
  rw [sees_none hok] at h1 ⊢
  rw [Bool.or_eq_true] at h1 ⊢
  exact h1.imp id (reach_mono h)
theorem dead_vis {T : Tb} (hok : T.Ok) {b : Int} {t : Tup} (h1 : deadT T b t = true) : visB T false b 0 t = false := by
  unfold deadT at h1
  unfold visB
  rw [Bool.or_eq_true] at h1
  rcases h1 with h1 | h1
  · have hc : T.cnt t.mn = false := by simpa using h1
    have : affB T false b 0 t.mn = false := by
      unfold affB
      simp only [Bool.false_eq_true, if_false]
      rw [sees_none hok]
      unfold Tb.reachB Tb.numI
      rw [hc]
      rfl
    rw [this, Bool.false_and]
  · rw [h1]; simp

/-- What is dead is not seen. -/
theorem dead_seen {T : Tb} {A : Ab} (hok : T.Ok) (hA : A.Ok) {slot : Int} {t : Tup} (ht : A.tupI slot = some t) {b : Int} (h1 : deadT T b t = true) : ¬ (seenB T A b 0 t.no t.id = true ∧ seenV T A b 0 t.no t.id = slot) := by
  rintro ⟨h2, h3⟩
  unfold seenB at h2
  unfold seenV at h3
  obtain ⟨p, hp⟩ := Option.isSome_iff_exists.1 h2
  rw [hp] at h3
  obtain ⟨q1, q2, q3, q4⟩ := seenO_some hp
  unfold Ab.tupI at ht
  have h4 : (p.1 : Int) = slot := h3
  rw [if_pos (by omega), show slot.toNat = p.1 by omega] at ht
  have h5 := (hA.tup _ _).1 ht
  have h6 : p.2 = t := mem_same hA.nd (i := p.1) (by exact q1) h5
  rw [ownR_none hok, h6, dead_vis hok h1] at q4
  cases q4

/-- A row that is not one's own: who looks now sees of it what is seen now. -/
theorem seen_other {T : Tb} {A : Ab} (hok : T.Ok) {a m x y : Int} (h : ownR T m (A.vs x y) = false) : seenO T A a m x y = seenO T A a 0 x y := by
  unfold seenO
  rw [ownR_none hok, h]
  unfold seenL
  have hall : ∀ p ∈ (A.vs x y).reverse, visB T false a m p.2 = visB T false a 0 p.2 := fun p hp => by
    unfold ownR at h
    rw [List.any_eq_false] at h
    have h1 := h p (List.mem_reverse.1 hp)
    unfold ownP at h1
    rw [Bool.or_eq_true, not_or] at h1
    have e1 : T.ownB m p.2.mn = false := by simpa using h1.1
    have e2 : T.ownB m p.2.mx = false := by simpa using h1.2
    unfold visB
    rw [endB_is, endB_is]
    unfold affB
    simp only [Bool.false_eq_true, if_false]
    rw [sees_none hok, sees_none hok]
    unfold Tb.seesB
    rw [e1, e2, Bool.false_or, Bool.false_or]
  generalize (A.vs x y).reverse = l at hall ⊢
  induction l with
  | nil => rfl
  | cons p l ih =>
    rw [List.find?_cons, List.find?_cons, hall p (List.mem_cons_self ..), ih (fun q hq => hall q (List.mem_cons_of_mem _ hq))]

theorem fresh_none {T : Tb} (A : Ab) (hok : T.Ok) (x y : Int) : freshB T A T.last 0 x y = true := by
  unfold freshB
  simp
theorem fresh_own {T : Tb} {A : Ab} {a m x y : Int} (h : ownR T m (A.vs x y) = true) : freshB T A a m x y = true := by
  unfold freshB
  rw [h, Bool.true_or]
theorem fresh_now {T : Tb} (A : Ab) (hok : T.Ok) (m x y : Int) : freshB T A T.last m x y = true := by
  cases h : ownR T m (A.vs x y) with
  | true => exact fresh_own h
  | false =>
    unfold freshB seenB seenV
    rw [seen_other hok h]
    simp

end Go.Proofs.Ytbgnbaogclnpgaa
