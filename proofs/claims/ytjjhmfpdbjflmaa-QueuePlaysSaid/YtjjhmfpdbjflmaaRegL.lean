/-
  A law for regions that draw their order and end in a chain each of which waits for all the others (a nil check, an address, a store): what the others leave may be said as in RegX, of worlds in which that chain has not come up yet; it comes last.
-/
import Derived.Test.YtjjhmfpdbjflmaaRegX
import Derived.Tactics
import Derived.OrdersHeld
namespace Go.Proofs.Ytjjhmfpdbjflmaa.RX

section
variable {P : Program} {Q : Exit → Act → World → Prop} {R : World → World → Prop}

/-- Behind all but the chain: the chain. -/
def lastQ (P : Program) (ops : Array Oper) (o : List Oper) (Q : Exit → Act → World → Prop) : Exit → Act → World → Prop
  | .normal, a, w => wpList P ops Q o a w
  | e, a, w => Q e a w

theorem wp_monoQ {Q1 Q2 : Exit → Act → World → Prop} {o1 : Oper} {a : Act} {w : World} {K K' : Act → World → Prop} (hQ : ∀ e a w, e ≠ .normal → Q1 e a w → Q2 e a w) (h : ∀ a w, K a w → K' a w) (hh : o1.wp P a w K Q1) : o1.wp P a w K' Q2 := by
  have hL : LetsOut Q1 → LetsOut Q2 := fun ⟨a, w, h⟩ => ⟨a, w, hQ _ _ _ (by simp) h⟩
  unfold Oper.wp at *
  generalize (execOp a.eval o1).run P w = r at *
  cases r with
  | ok n w' =>
    cases n <;> simp only [Oper.upon] at hh ⊢ <;>
      first
        | exact h _ _ hh
        | exact Calls.mono hh (fun e w'' he => by cases e <;> first | exact h _ _ he | exact hQ _ _ _ (by simp) he | exact hL he)
        | exact Rows.mono hh (fun _ _ he => h _ _ he)
  | halt x w' =>
    cases x <;> simp only [Oper.upon] at hh ⊢ <;> first | exact hh | exact hQ _ _ _ (by simp) hh

theorem any_monoQ {md : Region.Mode} {ops : Array Oper} {Q1 Q2 : Exit → Act → World → Prop} (hQ : ∀ e a w, Q1 e a w → Q2 e a w) : ∀ (f : Nat) (listed : Array Bool) (a : Act) (w : World), wpAny P md ops Q1 f listed a w → wpAny P md ops Q2 f listed a w
  | 0, _, _, _, h => ⟨h.1, hQ _ _ _ h.2⟩
  | f + 1, listed, a, w, h => by
      refine ⟨fun h0 => hQ _ _ _ (h.1 h0), fun i hi => ?_⟩
      have h1 := h.2 i hi
      unfold wpOp at h1 ⊢
      split
      · next ho => rw [ho] at h1; exact any_monoQ hQ f _ _ _ h1
      · next o ho =>
        rw [ho] at h1
        dsimp only at h1
        split
        · next hw =>
          rw [if_pos hw] at h1
          exact h1.imp (wp_monoQ (fun e a w _ => hQ e a w) (fun a' w' h' => any_monoQ hQ f _ _ _ h')) (fun ⟨x, ⟨a0, w0, y⟩⟩ => ⟨x, ⟨a0, w0, hQ _ _ _ y⟩⟩)
        · next hw =>
          rw [if_neg hw] at h1
          exact any_monoQ hQ f _ _ _ h1

def backOk (l : List Oper) : Prop := ∀ (i : Nat) (o : Oper), l[i]? = some o → ∀ e ∈ o.after, Region.binds .any e = true → e.on < i

theorem getD_push {listed : Array Bool} {n j : Nat} (hs : listed.size = n) (hj : j < n) (d : Bool) : (listed.push false).getD j d = listed.getD j d := by
  subst hs
  simp [Array.getD, Array.getElem_push_lt, hj, show j < listed.size + 1 by omega]

theorem ready_all {l : List Oper} (hok : backOk l) {listed : Array Bool} (hs : listed.size = l.length) (h : Region.ready .any l.toArray listed = []) : ∀ j, j < l.length → listed.getD j false = true := by
  intro j hj
  induction j using Nat.strongRecOn with
  | _ j ihj =>
    cases hb : listed.getD j false with
    | true => rfl
    | false =>
      have hmem : j ∈ Region.ready .any l.toArray listed := mem_ready.2 ⟨by simp [Array.getD, hs, hj] at hb ⊢; exact hb, l[j], by simp [hj], fun e he hbd => by
        have hlt := hok j l[j] (by simp [hj]) e he hbd
        exact ihj e.on hlt (by omega)⟩
      rw [h] at hmem
      cases hmem

theorem all_ready {l : List Oper} {listed : Array Bool} (hs : listed.size = l.length) (h : ∀ j, j < l.length → listed.getD j false = true) : Region.ready .any l.toArray listed = [] := by
  rw [List.eq_nil_iff_forall_not_mem]
  intro i hi
  obtain ⟨h0, o, ho, _⟩ := mem_ready.1 hi
  have hlt : i < l.length := by have := (Array.getElem?_eq_some_iff.1 ho).1; simpa using this
  have h1 := h i hlt
  simp [Array.getD, hs, hlt] at h0 h1
  rw [h0] at h1
  cases h1

theorem wpAny_done {ops : Array Oper} {listed : Array Bool} {a : Act} {w : World} (h : Region.ready .any ops listed = []) (hq : Q .normal a w) : ∀ f, wpAny P .any ops Q f listed a w
  | 0 => ⟨h, hq⟩
  | f + 1 => ⟨fun _ => hq, fun i hi => by rw [h] at hi; cases hi⟩

/-- What has come up waited for nothing that has not. -/
def Closed (l : List Oper) (listed : Array Bool) : Prop := ∀ (j : Nat) (x : Oper), l[j]? = some x → listed.getD j false = true → ∀ e ∈ x.after, Region.binds .any e = true → listed.getD e.on false = true

theorem Closed.set {l : List Oper} {listed : Array Bool} (h : Closed l listed) {i : Nat} (hi : i ∈ Region.ready .any l.toArray listed) : Closed l (listed.setIfInBounds i true) := by
  obtain ⟨_, o, ho, hal⟩ := mem_ready.1 hi
  intro j x hx hd e he hb
  by_cases hij : i = j
  · subst hij
    have : x = o := by
      have : l[i]? = some o := by simpa using ho
      rw [hx] at this
      exact Option.some.inj this
    subst this
    exact getD_set_true (hal e he hb)
  · rw [getD_set_ne false hij] at hd
    exact getD_set_true (h j x hx hd e he hb)

theorem Closed.push {l : List Oper} {o : Oper} {listed : Array Bool} (h : Closed l listed) (hs : listed.size = l.length) (hok : backOk (l ++ [o])) : Closed (l ++ [o]) (listed.push false) := by
  intro j x hx hd e he hb
  have hj := (List.getElem?_eq_some_iff.1 hx).1
  by_cases hjl : j < l.length
  · have h1 := hok j x hx e he hb
    rw [getD_push hs hjl] at hd
    rw [getD_push hs (by omega)]
    rw [List.getElem?_append_left hjl] at hx
    exact h j x hx hd e he hb
  · have : j = l.length := by simp at hj; omega
    subst this
    simp [Array.getD, hs.symm] at hd

/-- One that waits for all the others comes last. -/
theorem any_last {l : List Oper} {o : Oper} (hok : backOk (l ++ [o])) (free : ∀ x ∈ l, x.guard = none) (hall : ∀ listed : Array Bool, listed.size = l.length → Closed l listed → (∀ e ∈ o.after, Region.binds .any e = true → listed.getD e.on false = true) → ∀ j, j < l.length → listed.getD j false = true) : ∀ (f : Nat) (listed : Array Bool) (a : Act) (w : World), listed.size = l.length → Closed l listed →
    wpAny P .any l.toArray (lastQ P (l ++ [o]).toArray [o] Q) f listed a w → wpAny P .any (l ++ [o]).toArray Q (f + 1) (listed.push false) a w := by
  have hget : ∀ j, j < l.length → (l ++ [o]).toArray[j]? = l[j]? := fun j hj => by simp [List.getElem?_append_left hj]
  have hgeto : (l ++ [o]).toArray[l.length]? = some o := by simp
  have hsz : (l ++ [o]).toArray.size = l.length + 1 := by simp
  have hback : backOk l := fun i x hx => hok i x (by rw [List.getElem?_append_left (List.getElem?_eq_some_iff.1 hx).1]; exact hx)
  have hafter : ∀ e ∈ o.after, Region.binds .any e = true → e.on < l.length := hok l.length o (by simp)
  have hlast : ∀ (listed : Array Bool), listed.size = l.length → Closed l listed → (l.length ∈ Region.ready .any (l ++ [o]).toArray (listed.push false) → ∀ j, j < l.length → listed.getD j false = true) := by
    intro listed hs hcl hr j hj
    obtain ⟨_, o', ho', hal⟩ := mem_ready.1 hr
    rw [hgeto, Option.some.injEq] at ho'
    subst ho'
    refine hall listed hs hcl (fun e he hb => ?_) j hj
    have := hal e he hb
    rwa [getD_push hs (hafter e he hb)] at this
  have hlast' : ∀ (listed : Array Bool), listed.size = l.length → Region.ready .any l.toArray listed = [] → Region.ready .any (l ++ [o]).toArray (listed.push false) ≠ [] := by
    intro listed hs hr h0
    have hal := ready_all hback hs hr
    have hmem : l.length ∈ Region.ready .any (l ++ [o]).toArray (listed.push false) := by
      refine mem_ready.2 ⟨by simp [Array.getD, hs.symm], o, hgeto, fun e he hb => ?_⟩
      have he' := hafter e he hb
      rw [getD_push hs he']; exact hal _ he'
    rw [h0] at hmem
    cases hmem
  have hin : ∀ (listed : Array Bool) (i : Nat), listed.size = l.length → i ∈ Region.ready .any (l ++ [o]).toArray (listed.push false) → i ≠ l.length → i < l.length ∧ i ∈ Region.ready .any l.toArray listed := by
    intro listed i hs hr hne
    obtain ⟨h0, o', ho', hal⟩ := mem_ready.1 hr
    have hi : i < l.length := by have := (Array.getElem?_eq_some_iff.1 ho').1; rw [hsz] at this; omega
    rw [hget i hi] at ho'
    refine ⟨hi, mem_ready.2 ⟨by rwa [getD_push hs hi] at h0, o', by simpa using ho', fun e he hb => ?_⟩⟩
    have := hback i o' ho' e he hb
    have h2 := hal e he hb
    rwa [getD_push hs (by omega)] at h2
  have hend : ∀ (f : Nat) (listed : Array Bool) (a : Act) (w : World), listed.size = l.length → (∀ j, j < l.length → listed.getD j false = true) → lastQ P (l ++ [o]).toArray [o] Q .normal a w →
      wpOp P (l ++ [o]).toArray Q l.length (wpAny P .any (l ++ [o]).toArray Q f ((listed.push false).setIfInBounds l.length true)) a w := by
    intro f listed a w hs hal hq
    have hr : Region.ready .any (l ++ [o]).toArray ((listed.push false).setIfInBounds l.length true) = [] := by
      refine all_ready (by simp [hs]) fun j hj => ?_
      by_cases hjn : j = l.length
      · subst hjn
        simp [Array.getD, hs]
      · have hj' : j < l.length := by simp at hj; omega
        rw [getD_set_ne false (Ne.symm hjn), getD_push hs hj']
        exact hal j hj'
    have hq' : wpList P (l ++ [o]).toArray Q [o] a w := hq
    unfold wpOp
    simp only [hgeto]
    unfold wpList at hq'
    split at hq'
    · next hw =>
      rw [if_pos hw]
      exact hq'.imp (Oper.wp_mono (fun a' w' h' => wpAny_done hr h' f)) id
    · next hw =>
      rw [if_neg hw]
      exact wpAny_done hr hq' f
  intro f
  induction f with
  | zero =>
    intro listed a w hs hcl h
    refine ⟨fun h0 => absurd h0 (hlast' listed hs h.1), fun i hi => ?_⟩
    by_cases hin' : i = l.length
    · subst hin'
      exact hend 0 listed a w hs (hlast listed hs hcl hi) h.2
    · have := (hin listed i hs hi hin').2
      rw [h.1] at this
      cases this
  | succ f ih =>
    intro listed a w hs hcl h
    have hne : Region.ready .any (l ++ [o]).toArray (listed.push false) ≠ [] := by
      intro h0
      by_cases hr : Region.ready .any l.toArray listed = []
      · exact hlast' listed hs hr h0
      · obtain ⟨i, hi⟩ := List.exists_mem_of_ne_nil _ hr
        obtain ⟨g0, o', ho', hal⟩ := mem_ready.1 hi
        have hi' : i < l.length := by have := (Array.getElem?_eq_some_iff.1 ho').1; simpa using this
        have hmem : i ∈ Region.ready .any (l ++ [o]).toArray (listed.push false) := by
          refine mem_ready.2 ⟨by rw [getD_push hs hi']; exact g0, o', by rw [hget i hi']; simpa using ho', fun e he hb => ?_⟩
          have := hback i o' (by simpa using ho') e he hb
          rw [getD_push hs (by omega)]
          exact hal e he hb
        rw [h0] at hmem
        cases hmem
    refine ⟨fun h0 => absurd h0 hne, fun i hi => ?_⟩
    by_cases hin' : i = l.length
    · subst hin'
      have hal := hlast listed hs hcl hi
      exact hend (f + 1) listed a w hs hal (h.1 (all_ready hs hal))
    · obtain ⟨hi', hr⟩ := hin listed i hs hi hin'
      have h1 := h.2 i hr
      have e1 : (listed.push false).setIfInBounds i true = (listed.setIfInBounds i true).push false := by
        apply Array.ext_getElem?
        intro j
        rw [Array.getElem?_setIfInBounds, Array.getElem?_push, Array.getElem?_push]
        simp only [Array.size_setIfInBounds, Array.size_push]
        by_cases hji : i = j
        · subst hji
          rw [if_pos rfl, if_pos (by omega), if_neg (by omega), Array.getElem?_setIfInBounds, if_pos rfl, if_pos (by omega)]
        · rw [if_neg hji, Array.getElem?_setIfInBounds, if_neg hji]
      rw [e1]
      obtain ⟨x, hx⟩ : ∃ x, l[i]? = some x := ⟨l[i], by simp [hi']⟩
      have hg := free x (List.mem_of_getElem? hx)
      have hw : ∀ (ops : Array Oper), Region.wanted x (yielded ops a.tmps) = true := fun ops => by simp [Region.wanted, hg]
      unfold wpOp at h1 ⊢
      rw [hget i hi', hx]
      have hx' : l.toArray[i]? = some x := by simpa using hx
      rw [hx'] at h1
      simp only [hw, if_true] at h1 ⊢
      exact h1.imp (wp_monoQ (fun e a w he h => by cases e <;> first | exact h | exact absurd rfl he) (fun a' w' h' => ih _ a' w' (by simpa using hs) (hcl.set hr) h')) id

/-- A chain comes last. -/
theorem any_tail : ∀ (t l L : List Oper), L = l ++ t → backOk L → (∀ x ∈ L, x.guard = none) → (∀ (m : Nat) (o : Oper), l.length ≤ m → L[m]? = some o → ∀ listed : Array Bool, listed.size = m → Closed (L.take m) listed → (∀ e ∈ o.after, Region.binds .any e = true → listed.getD e.on false = true) → ∀ j, j < m → listed.getD j false = true) → ∀ (f : Nat) (listed : Array Bool) (a : Act) (w : World), listed.size = l.length → Closed l listed →
    wpAny P .any l.toArray (lastQ P L.toArray t Q) f listed a w → wpAny P .any L.toArray Q (f + t.length) (listed ++ Array.replicate t.length false) a w
  | [], l, L, hL, _, _, _, f, listed, a, w, _, _, h => by
      have e : L = l := by simpa using hL
      subst e
      simp only [List.length_nil, Nat.add_zero, Array.replicate_zero, Array.append_empty]
      refine any_monoQ (fun e a w h => ?_) _ _ _ _ h
      cases e <;> exact h
  | o :: t, l, L, hL, hb, hg, hw, f, listed, a, w, hs, hcl, h => by
      have hL' : L = (l ++ [o]) ++ t := by rw [hL]; simp
      have hb' : backOk (l ++ [o]) := fun i x hx => hb i x (by rw [hL', List.getElem?_append_left (List.getElem?_eq_some_iff.1 hx).1]; exact hx)
      have hgo : o.guard = none := hg o (by rw [hL]; simp)
      have h1 : wpAny P .any l.toArray (lastQ P (l ++ [o]).toArray [o] (lastQ P L.toArray t Q)) f listed a w := by
        refine any_monoQ (fun e a w h => ?_) _ _ _ _ h
        cases e with
        | normal =>
          have h' : wpList P L.toArray Q (o :: t) a w := h
          show wpList P (l ++ [o]).toArray (lastQ P L.toArray t Q) [o] a w
          have hw' : ∀ (ops : Array Oper), Region.wanted o (yielded ops a.tmps) = true := fun ops => by simp [Region.wanted, hgo]
          unfold wpList at h' ⊢
          simp only [hw', if_true] at h' ⊢
          exact h'.imp (wp_monoQ (fun e a w he h => by cases e <;> first | exact h | exact absurd rfl he) (fun a' w' h' => h')) id
        | _ => exact h
      have h2 := any_last (Q := lastQ P L.toArray t Q) hb' (fun x hx => hg x (by rw [hL]; exact List.mem_append.2 (.inl hx))) (fun ld h1 h2 h3 j hj => hw l.length o (Nat.le_refl _) (by rw [hL]; simp) ld h1 (by rw [hL, List.take_left]; exact h2) h3 j hj) f listed a w hs hcl h1
      have h3 := any_tail t (l ++ [o]) L hL' hb hg (fun m x hm hx => hw m x (by simp at hm; omega) hx) (f + 1) (listed.push false) a w (by simp [hs]) (hcl.push hs hb') h2
      have e1 : f + 1 + t.length = f + (o :: t).length := by simp; omega
      have e2 : listed.push false ++ Array.replicate t.length false = listed ++ Array.replicate (o :: t).length false := by
        apply Array.ext'
        simp [List.replicate_succ]
      rw [e1, e2] at h3
      exact h3

/-- What is asked of the region's shape. -/
def shapeB (n : Nat) (l : List Oper) : Bool :=
  decide (n ≤ l.length) && planOk (l.take n) && l.all (fun x => x.guard.isNone) && (l.zipIdx.all fun x => x.1.after.all (fun e => !Region.binds .any e || decide (e.on < x.2)) && (decide (x.2 < n) || (List.range x.2).all fun j => (decide (n ≤ j) && decide (j + 1 < x.2)) || waits x.1 j))

theorem any_shape {n : Nat} {l : List Oper} {a : Act} {w : World} (hs : shapeB n l = true) (h : wpAny P .any (l.take n).toArray (lastQ P l.toArray (l.drop n) Q) n (Array.replicate n false) a w) : wpAny P .any l.toArray Q l.toArray.size (Array.replicate l.toArray.size false) a w := by
  unfold shapeB at hs
  simp only [Bool.and_eq_true, decide_eq_true_eq, List.all_eq_true] at hs
  obtain ⟨⟨⟨hn, _⟩, hg⟩, hz⟩ := hs
  have hln : (l.take n).length = n := by rw [List.length_take]; omega
  have hld : (l.drop n).length = l.length - n := by rw [List.length_drop]
  have mem : ∀ (i : Nat) (o : Oper), l[i]? = some o → (o, i) ∈ l.zipIdx := fun i o hi => by
    rw [List.mk_mem_zipIdx_iff_getElem?]; exact hi
  have := any_tail (Q := Q) (l.drop n) (l.take n) l (List.take_append_drop n l).symm (fun i o hi e he hb => by
      have := (hz _ (mem i o hi)).1
      rw [Array.all_eq_true_iff_forall_mem] at this
      have := this e he
      simpa [hb] using this) (fun x hx => by simpa using hg x hx) (fun m o hm ho listed hs hcl hd => by
      rw [hln] at hm
      have hdir : ∀ (m' : Nat) (o' : Oper), n ≤ m' → l[m']? = some o' → ∀ j, j < m' → (j < n ∨ j + 1 = m') → waits o' j = true := fun m' o' hm' ho' j hj hc => by
        have := (hz _ (mem m' o' ho')).2
        rw [Bool.or_eq_true, decide_eq_true_eq] at this
        rcases this with h1 | h1
        · dsimp at h1; omega
        · have h2 := List.all_eq_true.1 h1 j (List.mem_range.2 hj)
          rw [Bool.or_eq_true] at h2
          rcases h2 with h2 | h2
          · simp only [Bool.and_eq_true, decide_eq_true_eq] at h2; omega
          · exact h2
      -- downwards
      have key : ∀ d j, j + d + 1 = m → n ≤ j → listed.getD j false = true := by
        intro d
        induction d with
        | zero =>
          intro j hj hnj
          obtain ⟨e, he, hb, rfl⟩ := waits_iff.1 (hdir m o hm ho j (by omega) (.inr (by omega)))
          exact hd e he hb
        | succ d ihd =>
          intro j hj hnj
          have h1 := ihd (j + 1) (by omega) (by omega)
          have hlt : m < l.length := (List.getElem?_eq_some_iff.1 ho).1
          obtain ⟨x, hx⟩ : ∃ x, l[j + 1]? = some x := ⟨l[j + 1]'(by omega), by simp [show j + 1 < l.length by omega]⟩
          obtain ⟨e, he, hb, rfl⟩ := waits_iff.1 (hdir (j + 1) x (by omega) hx j (by omega) (.inr rfl))
          exact hcl (e.on + 1) x (by rw [List.getElem?_take, if_pos (by omega)]; exact hx) h1 e he hb
      intro j hj
      by_cases hjn : n ≤ j
      · exact key (m - j - 1) j (by omega) hjn
      · obtain ⟨e, he, hb, rfl⟩ := waits_iff.1 (hdir m o hm ho j hj (.inl (by omega)))
        exact hd e he hb) n (Array.replicate n false) a w (by simp [hln]) (fun j x _ hd => by simp [Array.getD] at hd) h
  have e1 : n + (l.drop n).length = l.toArray.size := by rw [hld, List.size_toArray]; omega
  have e2 : Array.replicate n false ++ Array.replicate (l.drop n).length false = Array.replicate l.toArray.size false := by
    apply Array.ext'
    rw [Array.toList_append, Array.toList_replicate, Array.toList_replicate, Array.toList_replicate, List.replicate_append_replicate, e1]
  rw [e1, e2] at this
  exact this

/-- THE LAW. -/
theorem wp_region_last (n : Nat) (R : World → World → Prop) (ps : List Plan) {id : Nat} {l : List Oper} {a : Act} {w : World} (hm : P.follows .mixedOrders = true) (hs : shapeB n l = true)
    (hrefl : ∀ w, R w w) (htr : ∀ w1 w2 w3, R w1 w2 → R w2 w3 → R w1 w3)
    (h : seqP P (l.take n).toArray (lastQ P l.toArray (l.drop n) Q) R w.drew (l.take n) ps 0 a [] (fun _ => undef) []) : (Code.region id l.toArray true).wp P Q a w := by
  have hs' := hs
  unfold shapeB at hs'
  simp only [Bool.and_eq_true, decide_eq_true_eq] at hs'
  obtain ⟨⟨⟨hn, hok⟩, _⟩, _⟩ := hs'
  have hln : (l.take n).length = n := by rw [List.length_take]; omega
  refine wp_region_any hm (any_shape hs ?_)
  have hrun := run_any (planOk_spec hok) hrefl htr h (l.take n).length (Array.replicate (l.take n).length false) (fun j => (ps[j]?.map Plan.dummy).getD undef) w.drew (by simp)
    (fun j o hj hd => by simp [Array.getD] at hd) (fun j p hp => ⟨by simp [hp, Plan.may_dummy], fun hd => by simp [Array.getD] at hd⟩) (hrefl _) (fun i _ j _ _ hd => by simp [Array.getD] at hd) (by simp)
  rw [state_none (l.take n) 0 _ _ a (fun j _ => by simp [Array.getD]), hln] at hrun
  exact hrun

/-- The same, where what reads is taken first (S holds till the chain comes). -/
theorem wp_region_lastH (n : Nat) (S : World → Prop) {id : Nat} {l : List Oper} {a : Act} {w : World} (hm : P.follows .mixedOrders = true) (hs : shapeB n l = true)
    (h : wpAnyH P .any (l.take n).toArray (lastQ P l.toArray (l.drop n) Q) S n (Array.replicate n false) a w.drew) : (Code.region id l.toArray true).wp P Q a w :=
  wp_region_any hm (any_shape hs (wpAny_of_held _ _ _ _ h))

section
variable {md : Region.Mode} {ops : Array Oper} {S : World → Prop}

/-- One comes next: it makes a value, or calls. -/
theorem anyH_val {i : Nat} {o : Oper} {fuel : Nat} {listed : Array Bool} {a : Act} {w w' : World} {v : Value} (hr : Region.ready md ops listed = [i]) (ho : ops[i]? = some o) (hw : Region.wanted o (yielded ops a.tmps) = true)
    (hrun : (execOp a.eval o).run P w = .ok (.value v) w') (hS : S w') (h : wpAnyH P md ops Q S fuel (listed.setIfInBounds i true) (a.put o.dst v) w') : wpAnyH P md ops Q S (fuel + 1) listed a w := by
  refine wpAnyH_all hr (by simp) fun j hj => ?_
  obtain rfl : j = i := by simpa using hj
  unfold wpOp
  simp only [ho, hw, if_true]
  left
  unfold Oper.wp
  rw [hrun]
  exact ⟨hS, h⟩

theorem anyH_call {i : Nat} {o : Oper} {fuel : Nat} {listed : Array Bool} {a : Act} {w : World} {f : FuncId} {args : Array Value} (hr : Region.ready md ops listed = [i]) (ho : ops[i]? = some o) (hw : Region.wanted o (yielded ops a.tmps) = true)
    (hrun : (execOp a.eval o).run P w = .ok (.enter f args) w) (h : Calls P f args w fun e w' => ∃ u, e = .returned u ∧ S w' ∧ wpAnyH P md ops Q S fuel (listed.setIfInBounds i true) (a.put o.dst u) w') : wpAnyH P md ops Q S (fuel + 1) listed a w := by
  refine wpAnyH_all hr (by simp) fun j hj => ?_
  obtain rfl : j = i := by simpa using hj
  unfold wpOp
  simp only [ho, hw, if_true]
  left
  unfold Oper.wp
  rw [hrun]
  exact Calls.mono h fun e w' he => by obtain ⟨u, rfl, h1, h2⟩ := he; exact ⟨h1, h2⟩
end
end
end Go.Proofs.Ytjjhmfpdbjflmaa.RX
