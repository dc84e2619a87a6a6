/-
  RegL's law for regions with guards whose tail waits for all the others, be it by way of what comes between.
-/
import Derived.Test.YtjjhmfpdbjflmaaRegL
namespace Go.Proofs.Ytjjhmfpdbjflmaa.RX

section
variable {P : Program} {Q : Exit → Act → World → Prop} {R : World → World → Prop}

/-- Guards point back. -/
def guardOk (l : List Oper) : Prop := ∀ (i : Nat) (o : Oper), l[i]? = some o → ∀ j b, o.guard = some (j, b) → j < i

theorem yielded_pre {l t : List Oper} {tmps : Array Value} {j : Nat} (hj : j < l.length) : yielded (l ++ t).toArray tmps j = yielded l.toArray tmps j := by
  unfold yielded
  simp [List.getElem?_append_left hj]

theorem wanted_pre {l t : List Oper} (hg : guardOk (l ++ t)) {i : Nat} {o : Oper} (hi : i ≤ l.length) (ho : (l ++ t)[i]? = some o) (tmps : Array Value) : Region.wanted o (yielded (l ++ t).toArray tmps) = Region.wanted o (yielded l.toArray tmps) := by
  unfold Region.wanted
  cases h : o.guard with
  | none => rfl
  | some x =>
    obtain ⟨j, b⟩ := x
    have := hg i o ho j b h
    dsimp only
    rw [yielded_pre (by omega)]

/-- One that waits for all the others comes last. -/
theorem any_lastG {l : List Oper} {o : Oper} (hok : backOk (l ++ [o])) (hgd : guardOk (l ++ [o])) (hall : ∀ listed : Array Bool, listed.size = l.length → Closed l listed → (∀ e ∈ o.after, Region.binds .any e = true → listed.getD e.on false = true) → ∀ j, j < l.length → listed.getD j false = true) : ∀ (f : Nat) (listed : Array Bool) (a : Act) (w : World), listed.size = l.length → Closed l listed →
    wpAny P .any l.toArray (lastQ P (l ++ [o]).toArray [o] Q) f listed a w → wpAny P .any (l ++ [o]).toArray Q (f + 1) (listed.push false) a w := by
  have hget : ∀ j, j < l.length → (l ++ [o]).toArray[j]? = l[j]? := fun j hj => by simp [List.getElem?_append_left hj]
  have hgeto : (l ++ [o]).toArray[l.length]? = some o := by simp
  have hsz : (l ++ [o]).toArray.size = l.length + 1 := by simp
  have hback : backOk l := fun i x hx => hok i x (by rw [List.getElem?_append_left (List.getElem?_eq_some_iff.1 hx).1]; exact hx)
  have hafter : ∀ e ∈ o.after, Region.binds .any e = true → e.on < l.length := hok l.length o (by simp)
  have hlast : ∀ (listed : Array Bool), listed.size = l.length → Closed l listed → (l.length ∈ Region.ready .any (l ++ [o]).toArray (listed.push false) → ∀ j, j < l.length → listed.getD j false = true) := by
    intro listed hs hcl hr j hj
    obtain ⟨_, o', ho', hal⟩ := mem_ready.1 hr
    rw [hgeto, Option.some.injEq] at ho'
    subst ho'
    refine hall listed hs hcl (fun e he hb => ?_) j hj
    have := hal e he hb
    rwa [getD_push hs (hafter e he hb)] at this
  have hlast' : ∀ (listed : Array Bool), listed.size = l.length → Region.ready .any l.toArray listed = [] → Region.ready .any (l ++ [o]).toArray (listed.push false) ≠ [] := by
    intro listed hs hr h0
    have hal := ready_all hback hs hr
    have hmem : l.length ∈ Region.ready .any (l ++ [o]).toArray (listed.push false) := by
      refine mem_ready.2 ⟨by simp [Array.getD, hs.symm], o, hgeto, fun e he hb => ?_⟩
      have he' := hafter e he hb
      rw [getD_push hs he']; exact hal _ he'
    rw [h0] at hmem
    cases hmem
  have hin : ∀ (listed : Array Bool) (i : Nat), listed.size = l.length → i ∈ Region.ready .any (l ++ [o]).toArray (listed.push false) → i ≠ l.length → i < l.length ∧ i ∈ Region.ready .any l.toArray listed := by
    intro listed i hs hr hne
    obtain ⟨h0, o', ho', hal⟩ := mem_ready.1 hr
    have hi : i < l.length := by have := (Array.getElem?_eq_some_iff.1 ho').1; rw [hsz] at this; omega
    rw [hget i hi] at ho'
    refine ⟨hi, mem_ready.2 ⟨by rwa [getD_push hs hi] at h0, o', by simpa using ho', fun e he hb => ?_⟩⟩
    have := hback i o' ho' e he hb
    have h2 := hal e he hb
    rwa [getD_push hs (by omega)] at h2
  have hend : ∀ (f : Nat) (listed : Array Bool) (a : Act) (w : World), listed.size = l.length → (∀ j, j < l.length → listed.getD j false = true) → lastQ P (l ++ [o]).toArray [o] Q .normal a w →
      wpOp P (l ++ [o]).toArray Q l.length (wpAny P .any (l ++ [o]).toArray Q f ((listed.push false).setIfInBounds l.length true)) a w := by
    intro f listed a w hs hal hq
    have hr : Region.ready .any (l ++ [o]).toArray ((listed.push false).setIfInBounds l.length true) = [] := by
      refine all_ready (by simp [hs]) fun j hj => ?_
      by_cases hjn : j = l.length
      · subst hjn
        simp [Array.getD, hs]
      · have hj' : j < l.length := by simp at hj; omega
        rw [getD_set_ne false (Ne.symm hjn), getD_push hs hj']
        exact hal j hj'
    have hq' : wpList P (l ++ [o]).toArray Q [o] a w := hq
    unfold wpOp
    simp only [hgeto]
    unfold wpList at hq'
    split at hq'
    · next hw =>
      rw [if_pos hw]
      exact hq'.imp (Oper.wp_mono (fun a' w' h' => wpAny_done hr h' f)) id
    · next hw =>
      rw [if_neg hw]
      exact wpAny_done hr hq' f
  intro f
  induction f with
  | zero =>
    intro listed a w hs hcl h
    refine ⟨fun h0 => absurd h0 (hlast' listed hs h.1), fun i hi => ?_⟩
    by_cases hin' : i = l.length
    · subst hin'
      exact hend 0 listed a w hs (hlast listed hs hcl hi) h.2
    · have := (hin listed i hs hi hin').2
      rw [h.1] at this
      cases this
  | succ f ih =>
    intro listed a w hs hcl h
    have hne : Region.ready .any (l ++ [o]).toArray (listed.push false) ≠ [] := by
      intro h0
      by_cases hr : Region.ready .any l.toArray listed = []
      · exact hlast' listed hs hr h0
      · obtain ⟨i, hi⟩ := List.exists_mem_of_ne_nil _ hr
        obtain ⟨g0, o', ho', hal⟩ := mem_ready.1 hi
        have hi' : i < l.length := by have := (Array.getElem?_eq_some_iff.1 ho').1; simpa using this
        have hmem : i ∈ Region.ready .any (l ++ [o]).toArray (listed.push false) := by
          refine mem_ready.2 ⟨by rw [getD_push hs hi']; exact g0, o', by rw [hget i hi']; simpa using ho', fun e he hb => ?_⟩
          have := hback i o' (by simpa using ho') e he hb
          rw [getD_push hs (by omega)]
          exact hal e he hb
        rw [h0] at hmem
        cases hmem
    refine ⟨fun h0 => absurd h0 hne, fun i hi => ?_⟩
    by_cases hin' : i = l.length
    · subst hin'
      have hal := hlast listed hs hcl hi
      exact hend (f + 1) listed a w hs hal (h.1 (all_ready hs hal))
    · obtain ⟨hi', hr⟩ := hin listed i hs hi hin'
      have h1 := h.2 i hr
      have e1 : (listed.push false).setIfInBounds i true = (listed.setIfInBounds i true).push false := by
        apply Array.ext_getElem?
        intro j
        rw [Array.getElem?_setIfInBounds, Array.getElem?_push, Array.getElem?_push]
        simp only [Array.size_setIfInBounds, Array.size_push]
        by_cases hji : i = j
        · subst hji
          rw [if_pos rfl, if_pos (by omega), if_neg (by omega), Array.getElem?_setIfInBounds, if_pos rfl, if_pos (by omega)]
        · rw [if_neg hji, Array.getElem?_setIfInBounds, if_neg hji]
      rw [e1]
      obtain ⟨x, hx⟩ : ∃ x, l[i]? = some x := ⟨l[i], by simp [hi']⟩
      have hw := wanted_pre hgd (Nat.le_of_lt hi') (by rw [List.getElem?_append_left hi']; exact hx) a.tmps
      unfold wpOp at h1 ⊢
      rw [hget i hi', hx]
      have hx' : l.toArray[i]? = some x := by simpa using hx
      rw [hx'] at h1
      dsimp only at h1 ⊢
      rw [hw]
      split
      · next hw1 =>
        rw [if_pos hw1] at h1
        exact h1.imp (wp_monoQ (fun e a w he h => by cases e <;> first | exact h | exact absurd rfl he) (fun a' w' h' => ih _ a' w' (by simpa using hs) (hcl.set hr) h')) id
      · next hw1 =>
        rw [if_neg hw1] at h1
        exact ih _ _ _ (by simpa using hs) (hcl.set hr) h1

/-- A chain comes last. -/
theorem any_tailG : ∀ (t l L : List Oper), L = l ++ t → backOk L → guardOk L → (∀ (m : Nat) (o : Oper), l.length ≤ m → L[m]? = some o → ∀ listed : Array Bool, listed.size = m → Closed (L.take m) listed → (∀ e ∈ o.after, Region.binds .any e = true → listed.getD e.on false = true) → ∀ j, j < m → listed.getD j false = true) → ∀ (f : Nat) (listed : Array Bool) (a : Act) (w : World), listed.size = l.length → Closed l listed →
    wpAny P .any l.toArray (lastQ P L.toArray t Q) f listed a w → wpAny P .any L.toArray Q (f + t.length) (listed ++ Array.replicate t.length false) a w
  | [], l, L, hL, _, _, _, f, listed, a, w, _, _, h => by
      have e : L = l := by simpa using hL
      subst e
      simp only [List.length_nil, Nat.add_zero, Array.replicate_zero, Array.append_empty]
      refine any_monoQ (fun e a w h => ?_) _ _ _ _ h
      cases e <;> exact h
  | o :: t, l, L, hL, hb, hg, hw, f, listed, a, w, hs, hcl, h => by
      have hL' : L = (l ++ [o]) ++ t := by rw [hL]; simp
      have pre : ∀ (i : Nat) (x : Oper), (l ++ [o])[i]? = some x → L[i]? = some x := fun i x hx => by rw [hL', List.getElem?_append_left (List.getElem?_eq_some_iff.1 hx).1]; exact hx
      have hb' : backOk (l ++ [o]) := fun i x hx => hb i x (pre i x hx)
      have hg' : guardOk (l ++ [o]) := fun i x hx => hg i x (pre i x hx)
      have hwo : ∀ tmps, Region.wanted o (yielded L.toArray tmps) = Region.wanted o (yielded (l ++ [o]).toArray tmps) := fun tmps => by
        have e1 := wanted_pre (l := l) (t := o :: t) (by rw [← hL]; exact hg) (Nat.le_refl _) (show (l ++ o :: t)[l.length]? = some o by simp) tmps
        have e2 := wanted_pre (l := l) (t := [o]) hg' (Nat.le_refl _) (show (l ++ [o])[l.length]? = some o by simp) tmps
        rw [← hL] at e1
        rw [e1, e2]
      have h1 : wpAny P .any l.toArray (lastQ P (l ++ [o]).toArray [o] (lastQ P L.toArray t Q)) f listed a w := by
        refine any_monoQ (fun e a w h => ?_) _ _ _ _ h
        cases e with
        | normal =>
          have h' : wpList P L.toArray Q (o :: t) a w := h
          show wpList P (l ++ [o]).toArray (lastQ P L.toArray t Q) [o] a w
          unfold wpList at h' ⊢
          rw [hwo] at h'
          split
          · next hw1 =>
            rw [if_pos hw1] at h'
            exact h'.imp (wp_monoQ (fun e a w he h => by cases e <;> first | exact h | exact absurd rfl he) (fun a' w' h' => h')) id
          · next hw1 =>
            rw [if_neg hw1] at h'
            exact h'
        | _ => exact h
      have h2 := any_lastG (Q := lastQ P L.toArray t Q) hb' hg' (fun ld h1 h2 h3 j hj => hw l.length o (Nat.le_refl _) (by rw [hL]; simp) ld h1 (by rw [hL, List.take_left]; exact h2) h3 j hj) f listed a w hs hcl h1
      have h3 := any_tailG t (l ++ [o]) L hL' hb hg (fun m x hm hx => hw m x (by simp at hm; omega) hx) (f + 1) (listed.push false) a w (by simp [hs]) (hcl.push hs hb') h2
      have e1 : f + 1 + t.length = f + (o :: t).length := by simp; omega
      have e2 : listed.push false ++ Array.replicate t.length false = listed ++ Array.replicate (o :: t).length false := by
        apply Array.ext'
        simp [List.replicate_succ]
      rw [e1, e2] at h3
      exact h3

/-- What is asked of the region's shape. -/
def shapeG (n : Nat) (l : List Oper) : Bool :=
  decide (n ≤ l.length) && planOk (l.take n) && (l.zipIdx.all fun x => (match x.1.guard with | some (j, _) => decide (j < x.2) | none => true) && x.1.after.all (fun e => !Region.binds .any e || decide (e.on < x.2)) && (decide (x.2 < n) || (List.range x.2).all fun j => (List.range (x.2 - j)).any fun d => match l[j + 1 + d]? with | some o => waits o j | none => false))

theorem any_shapeG {n : Nat} {l : List Oper} {a : Act} {w : World} (hs : shapeG n l = true) (h : wpAny P .any (l.take n).toArray (lastQ P l.toArray (l.drop n) Q) n (Array.replicate n false) a w) : wpAny P .any l.toArray Q l.toArray.size (Array.replicate l.toArray.size false) a w := by
  unfold shapeG at hs
  rw [Bool.and_eq_true, Bool.and_eq_true, decide_eq_true_eq, List.all_eq_true] at hs
  obtain ⟨⟨hn, _⟩, hz⟩ := hs
  have hln : (l.take n).length = n := by rw [List.length_take]; omega
  have hld : (l.drop n).length = l.length - n := by rw [List.length_drop]
  have get : ∀ (i : Nat) (o : Oper), l[i]? = some o → ((match o.guard with | some (j, _) => decide (j < i) | none => true) = true ∧ o.after.all (fun e => !Region.binds .any e || decide (e.on < i)) = true) ∧ (decide (i < n) || (List.range i).all fun j => (List.range (i - j)).any fun d => match l[j + 1 + d]? with | some o => waits o j | none => false) = true := fun i o hi => by
    have := hz (o, i) (by rw [List.mk_mem_zipIdx_iff_getElem?]; exact hi)
    rw [Bool.and_eq_true, Bool.and_eq_true] at this
    exact this
  have := any_tailG (Q := Q) (l.drop n) (l.take n) l (List.take_append_drop n l).symm (fun i o hi e he hb => by
      have := (get i o hi).1.2
      rw [Array.all_eq_true_iff_forall_mem] at this
      have := this e he
      simpa [hb] using this) (fun i o hi j b hg => by
      have := (get i o hi).1.1
      rw [hg] at this
      exact of_decide_eq_true this) (fun m o hm ho listed hs hcl hd => by
      rw [hln] at hm
      have hcov := (get m o ho).2
      rw [Bool.or_eq_true, decide_eq_true_eq] at hcov
      have hcov := hcov.resolve_left (by omega)
      rw [List.all_eq_true] at hcov
      have key : ∀ d j, j + d + 1 = m → listed.getD j false = true := by
        intro d
        induction d using Nat.strongRecOn with
        | ind d ih =>
          intro j hj
          have h1 := hcov j (List.mem_range.2 (by omega))
          rw [List.any_eq_true] at h1
          obtain ⟨c, hc, h2⟩ := h1
          have hc := List.mem_range.1 hc
          split at h2
          · next x hx =>
            obtain ⟨e, he, hb, rfl⟩ := waits_iff.1 h2
            by_cases hk : e.on + 1 + c = m
            · rw [hk, ho] at hx
              obtain rfl := Option.some.inj hx
              exact hd e he hb
            · have h3 := ih (m - (e.on + 1 + c) - 1) (by omega) (e.on + 1 + c) (by omega)
              exact hcl (e.on + 1 + c) x (by rw [List.getElem?_take, if_pos (by omega)]; exact hx) h3 e he hb
          · cases h2
      intro j hj
      exact key (m - j - 1) j (by omega)) n (Array.replicate n false) a w (by simp [hln]) (fun j x _ hd => by simp [Array.getD] at hd) h
  have e1 : n + (l.drop n).length = l.toArray.size := by rw [hld, List.size_toArray]; omega
  have e2 : Array.replicate n false ++ Array.replicate (l.drop n).length false = Array.replicate l.toArray.size false := by
    apply Array.ext'
    rw [Array.toList_append, Array.toList_replicate, Array.toList_replicate, Array.toList_replicate, List.replicate_append_replicate, e1]
  rw [e1, e2] at this
  exact this

/-- THE LAW: what comes ahead of the tail by a plan, then the tail. -/
theorem wp_region_planG (n : Nat) (R : World → World → Prop) (ps : List Plan) {id : Nat} {l : List Oper} {a : Act} {w : World} (hm : P.follows .mixedOrders = true) (hs : shapeG n l = true)
    (hrefl : ∀ w, R w w) (htr : ∀ w1 w2 w3, R w1 w2 → R w2 w3 → R w1 w3)
    (h : seqP P (l.take n).toArray (lastQ P l.toArray (l.drop n) Q) R w.drew (l.take n) ps 0 a [] (fun _ => undef) []) : (Code.region id l.toArray true).wp P Q a w := by
  have hs' := hs
  unfold shapeG at hs'
  rw [Bool.and_eq_true, Bool.and_eq_true, decide_eq_true_eq] at hs'
  obtain ⟨⟨hn, hok⟩, _⟩ := hs'
  have hln : (l.take n).length = n := by rw [List.length_take]; omega
  refine wp_region_any hm (any_shapeG hs ?_)
  have hrun := run_any (planOk_spec hok) hrefl htr h (l.take n).length (Array.replicate (l.take n).length false) (fun j => (ps[j]?.map Plan.dummy).getD undef) w.drew (by simp)
    (fun j o hj hd => by simp [Array.getD] at hd) (fun j p hp => ⟨by simp [hp, Plan.may_dummy], fun hd => by simp [Array.getD] at hd⟩) (hrefl _) (fun i _ j _ _ hd => by simp [Array.getD] at hd) (by simp)
  rw [state_none (l.take n) 0 _ _ a (fun j _ => by simp [Array.getD]), hln] at hrun
  exact hrun
end
end Go.Proofs.Ytjjhmfpdbjflmaa.RX
