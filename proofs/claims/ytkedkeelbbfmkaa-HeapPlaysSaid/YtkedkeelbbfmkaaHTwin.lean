/-
  A heap's copy, as it grows (stage 11).
-/
import Derived.Test.YtkedkeelbbfmkaaHTClone
namespace Go.Proofs.Ytkedkeelbbfmkaa
open Go.RowKit
set_option linter.unusedVariables false

/-- A version is copied, or none is. -/
theorem clone_any (w : World) (g : Nat) (o : Option Tup) (hw : ∀ t, o = some t → t.wf ∧ ∃ s, Lit w g 28 (tupC t s) ∧ RowV w s t.row) :
    Calls Try.prog 41 #[ptrO o g] w fun e w' => ∃ v, e = .returned v ∧ v.oneCell' = true ∧ ∃ g' s', v = ptrO o g' ∧ (∀ t, o = some t → Ver w' w.heap.size g' t s') ∧ Below w.heap.size w w' := by
  cases o with
  | none =>
    refine (clone_nil w).mono ?_
    rintro e w' ⟨rfl, rfl⟩
    exact ⟨_, rfl, rfl, 0, .slice none 0 0, rfl, fun t h => (by cases h), Below.refl _ _⟩
  | some t =>
    obtain ⟨h1, s, h2, h3⟩ := hw t rfl
    refine (clone_is w g t s h1 h2 h3).mono ?_
    rintro e w' ⟨g', s', rfl, h4, h5⟩
    exact ⟨_, rfl, rfl, g', s', rfl, fun t' h => (by cases h; exact h4), h5⟩

/-- The copy: it lies at h, its map of tables (of at most m) in block b. -/
structure Twin (W : World) (L : Nat → Lab) (h b m z : Nat) (M : Hp) (tp : Int → Nat) : Prop where
  lt : ∀ k, L k ≠ .no → k < W.heap.size
  hp : L h = .hp
  nz : M.n ≤ z
  fz : M.fn ≤ z
  tm : L b = .tm
  ex : ∃ s f stp n, Lit W h 79 [s, f, .map (some b)] ∧ SlP W L s M.n M.tup stp ∧ FrP W L f M.fn M.fr ∧ n ≤ m ∧ MapF W b n (tbF M.tb tp)
  at' : ∀ x T, M.tb x = some T → I64 x ∧ TbAt W L z (tp x) x T

section
variable {W W' : World} {L L' : Nat → Lab} {h b m z N : Nat} {M : Hp} {tp : Int → Nat}

theorem Twin.hpm (H : Twin W L h b m z M tp) (hm : m ≤ z) : HpM W h M z L := by
  obtain ⟨s, f, stp, n, h1, h2, h3, h4, h5⟩ := H.ex
  exact ⟨H.lt, H.hp, H.nz, H.fz, s, f, _, stp, h1, h2, h3, .inr ⟨b, n, tp, rfl, H.tm, Nat.le_trans h4 hm, h5, H.at'⟩⟩
theorem Twin.stay (H : Twin W L h b m z M tp) (hs : Stay (Fof L) W W') : Twin W' L h b m z M tp := by
  obtain ⟨s, f, stp, n, h1, h2, h3, h4, h5⟩ := H.ex
  exact ⟨fun k hk => Nat.lt_of_lt_of_le (H.lt k hk) hs.size, H.hp, H.nz, H.fz, H.tm, ⟨s, f, stp, n, h1.stay hs (by unfold Fof; rw [H.hp]; simp), h2.stay hs (fun k hk => slot_no hk), h3.stay hs (fun k hk => by unfold Fof; rw [hk]; simp), h4, h5.stay hs (by unfold Fof; rw [H.tm]; simp)⟩,
    fun x T hx => ⟨(H.at' x T hx).1, (H.at' x T hx).2.stay hs (fun k hk => tab_no (ofB_tab hk))⟩⟩
theorem Twin.below (H : Twin W L h b m z M tp) (hb : Below W.heap.size W W') : Twin W' L h b m z M tp := H.stay (Stay.of_below hb)

/-- M, of whose slots i are copied, and no table. -/
def Hp.cut (M : Hp) (i : Nat) : Hp := { M with n := i, tb := fun _ => none }
/-- M, of whose tables those are copied that are not left. -/
def Hp.part (M : Hp) (left : Int → Bool) : Hp := { M with tb := fun x => if left x = true ∨ ¬ I64 x then none else M.tb x }

/-- The copy's beginning. -/
theorem Twin.new (w : World) {f : Value} (M : Hp) (B : Nat) (hB : B ≤ w.heap.size) (hf : RowF 3 1 w f M.fn (numR fun j => (M.fr j : Int))) (ho : ∀ k, f.ownBlock = some k → B ≤ k) (z : Nat) (hz : M.fn ≤ z) (tp : Int → Nat) :
    ∃ L, Twin ((w.alloc (.map #[] 0)).alloc (.cells #[.slice none 0 0, f, .map (some w.heap.size)] 79)) L (w.heap.size + 1) w.heap.size 0 z (M.cut 0) tp ∧ (∀ k, L k ≠ .no → B ≤ k) ∧ ∀ k x, (L k).ofB x = false := by
  have b1 := Below.allocs w (.map #[] 0)
  have b2 := Below.allocs (w.alloc (.map #[] 0)) (.cells [Value.slice none 0 0, f, .map (some w.heap.size)].toArray 79)
  have hs1 : (w.alloc (.map #[] 0)).heap.size = w.heap.size + 1 := by simp
  have hs2 : ((w.alloc (.map #[] 0)).alloc (.cells [Value.slice none 0 0, f, .map (some w.heap.size)].toArray 79)).heap.size = w.heap.size + 2 := by simp
  have hlt : ∀ k, f.ownBlock = some k → k < w.heap.size := fun k hk => RowF.lt hf k hk
  have hlit := Lit.new (w.alloc (.map #[] 0)) 79 [.slice none 0 0, f, .map (some w.heap.size)]
  rw [hs1] at hlit
  refine ⟨fun k => if k = w.heap.size + 1 then .hp else if k = w.heap.size then .tm else if f.ownBlock = some k then .fr else .no, ⟨fun k hk => ?_, by simp, Nat.zero_le _, hz, by simp, ⟨_, f, fun _ => 0, 0, hlit, ⟨RowF.nil _ _ _ _, fun k hk => (by cases hk), fun i t hi => absurd hi (Nat.not_lt_zero _)⟩, ⟨(hf.below b1).below b2, fun k hk => ?_⟩, Nat.le_refl _, ((MapF.new w).below b2).congr fun y _ => rfl⟩, fun x T hx => by cases hx⟩, fun k hk => ?_, fun k x => ?_⟩
  · show k < ((w.alloc (.map #[] 0)).alloc (.cells [Value.slice none 0 0, f, .map (some w.heap.size)].toArray 79)).heap.size
    rw [hs2]
    by_cases e1 : k = w.heap.size + 1
    · omega
    · by_cases e2 : k = w.heap.size
      · omega
      · simp only [if_neg e1, if_neg e2] at hk
        by_cases e3 : f.ownBlock = some k
        · have := hlt k e3; omega
        · rw [if_neg e3] at hk; exact absurd rfl hk
  · have := hlt k hk
    simp only [if_neg (show ¬ k = w.heap.size + 1 by omega), if_neg (show ¬ k = w.heap.size by omega), if_pos hk]
  · by_cases e1 : k = w.heap.size + 1
    · omega
    · by_cases e2 : k = w.heap.size
      · omega
      · simp only [if_neg e1, if_neg e2] at hk
        by_cases e3 : f.ownBlock = some k
        · exact ho k e3
        · rw [if_neg e3] at hk; exact absurd rfl hk
  · by_cases e1 : k = w.heap.size + 1
    · simp [e1, Lab.ofB]
    · by_cases e2 : k = w.heap.size
      · simp [e2, Lab.ofB]
      · simp only [if_neg e1, if_neg e2]
        by_cases e3 : f.ownBlock = some k
        · simp [e3, Lab.ofB]
        · simp [e3, Lab.ofB]

/-- A slot more. -/
theorem Twin.push {w : World} {n g : Nat} {s f sv : Value} {stp : Nat → Nat} (H : Twin w L h b m z M tp) (hz : z ≤ 100000) (hn : M.n = n) (hnz : n + 1 ≤ z) (hl : Lit w h 79 [s, f, .map (some b)]) (hs : SlP w L s n M.tup stp)
    (hF : ∀ t, M.tup n = some t → Fresh w L N g t sv) (hN : N ≤ w.heap.size) :
    ∃ a' c' W6, (∀ ty, (Builtin.append_ #[75, 75] ty #[s, .slice (some ⟨w.heap.size, 0, none⟩) 1 1]).run Try.prog (w.alloc (.cells #[ptrO (M.tup n) g] 68)) = .ok (.slice a' (n + 1) c') W6) ∧ Lit W6 h 79 [s, f, .map (some b)] ∧
      ∃ L', Twin (W6.setCell ⟨h, 0, none⟩ (.slice a' (n + 1) c')) L' h b m z { M with n := n + 1 } tp ∧ Ext N L L' ∧ (∀ k x, (L' k).ofB x = true → (L k).ofB x = true) ∧ Touch (Fof L) w (W6.setCell ⟨h, 0, none⟩ (.slice a' (n + 1) c')) := by
  obtain ⟨s0, f0, stp0, nn, hl0, -, hf, hnn, hm⟩ := H.ex
  have ef : f0 = f := by
    have a1 := hl0.cell (o := 1) rfl
    have a2 := hl.cell (o := 1) rfl
    rw [a1] at a2
    exact Option.some.inj a2
  subst ef
  clear hl0 stp0
  obtain ⟨a', c', W6, hrun, hrow, ht6, hown6⟩ := row_pushP 75 hs.row (ptrO (M.tup n) g) (ptrO_one _ _) (by omega)
  have ht6' : Touch (fun k => L k = .sl) w W6 := ht6.mono (fun k hk => hs.own k hk)
  have hst6 := ht6'.stay (G := fun k => L k ≠ .sl) (fun k hk e => hk e)
  have hl6 := hl.stay hst6 (by rw [H.hp]; simp)
  have hset := Touch.setCell W6 (F := fun k => k = h) rfl 0 (.slice a' (n + 1) c')
  have hset' : Touch (fun k => L k = .hp) W6 (W6.setCell ⟨h, 0, none⟩ (.slice a' (n + 1) c')) := hset.mono (fun k hk => by rw [hk]; exact H.hp)
  have hst7 := hset'.stay (G := fun k => L k ≠ .hp) (fun k hk e => hk e)
  have hsz6 := ht6.size
  have hszs := hset.size
  have hlt6 : ∀ k, L k ≠ .no → k < (W6.setCell ⟨h, 0, none⟩ (.slice a' (n + 1) c')).heap.size := fun k hk => by have := H.lt k hk; omega
  -- the version's blocks
  obtain ⟨L1, he1, hta, hlt1, hnew, hofB1⟩ : ∃ L1, Ext N L L1 ∧ (∀ t, M.tup n = some t → TupAt (W6.setCell ⟨h, 0, none⟩ (.slice a' (n + 1) c')) L1 g n t) ∧ (∀ k, L1 k ≠ .no → k < (W6.setCell ⟨h, 0, none⟩ (.slice a' (n + 1) c')).heap.size) ∧ (∀ k, L1 k ≠ .no → L k = .no → k < w.heap.size) ∧ ∀ k x, (L1 k).ofB x = true → (L k).ofB x = true := by
    cases ho : M.tup n with
    | none => exact ⟨L, Ext.refl _ _, fun t ht => (by cases ht), hlt6, fun k h1 h2 => absurd h2 h1, fun k x hk => hk⟩
    | some t =>
      have hFt := hF t ho
      have hv6 : Ver (W6.setCell ⟨h, 0, none⟩ (.slice a' (n + 1) c')) N g t sv := (hFt.ver.stay hst6 (fun k hk _ => by rw [hFt.no k hk]; simp)).stay hst7 (fun k hk _ => by rw [hFt.no k hk]; simp)
      obtain ⟨L1, he1, hta, hlt1, hnew⟩ := Fresh.name (i := n) (⟨hv6, hFt.no⟩ : Fresh _ L N g t sv) hlt6
      refine ⟨L1, he1, fun t' ht' => (by cases ht'; exact hta), hlt1, fun k h1 h2 => ?_, fun k x hk => ?_⟩
      · rcases hnew k h1 h2 with e | e
        · rw [e]; exact hFt.ver.lit.lt
        · exact hFt.ver.row.lt k e
      · by_cases e0 : L k = .no
        · have h1 : L1 k ≠ .no := tab_no (ofB_tab hk)
          rcases hnew k h1 e0 with e | e
          · rw [e, hta.1] at hk; cases hk
          · obtain ⟨q1, s2, q2, q3, q4⟩ := hta
            have es : s2 = sv := by
              have a1 := q2.cell (o := 6) rfl
              have a2 := hv6.lit.cell (o := 6) rfl
              rw [a1] at a2
              exact Option.some.inj a2
            rw [q4 k (by rw [es]; exact e)] at hk
            cases hk
        · rw [he1.old k e0] at hk; exact hk
  -- the new row's block
  obtain ⟨L', he2, hL', hlt', hofB2⟩ : ∃ L', Ext N L1 L' ∧ (∀ k, Value.ownBlock (.slice a' (n + 1) c') = some k → L' k = .sl) ∧ (∀ k, L' k ≠ .no → k < (W6.setCell ⟨h, 0, none⟩ (.slice a' (n + 1) c')).heap.size) ∧ ∀ k x, (L' k).ofB x = true → (L1 k).ofB x = true := by
    cases hb' : Value.ownBlock (.slice a' (n + 1) c') with
    | none => exact ⟨L1, Ext.refl _ _, fun k hk => (by cases hk), hlt1, fun k x hk => hk⟩
    | some k0 =>
      have hk0 := hrow.lt k0 hb'
      rcases hown6 k0 hb' with e | e
      · exact ⟨L1, Ext.refl _ _, fun k hk => by rw [← Option.some.inj hk]; exact he1.keep (hs.own k0 e) (by simp), hlt1, fun k x hk => hk⟩
      · have hL1 : L1 k0 = .no := by
          by_cases e0 : L1 k0 = .no
          · exact e0
          · have h0 : L k0 = .no := by
              by_cases e1 : L k0 = .no
              · exact e1
              · have := H.lt k0 e1; omega
            have := hnew k0 e0 h0
            omega
        refine ⟨setL L1 k0 .sl, Ext.set _ (.inl hL1) (by omega), fun k hk => by rw [← Option.some.inj hk, setL_same], fun k hk => ?_, fun k x hk => ?_⟩
        · by_cases ek : k = k0
          · omega
          · rw [setL_ne _ _ ek] at hk; exact hlt1 k hk
        · by_cases ek : k = k0
          · rw [ek, setL_same] at hk; cases hk
          · rw [setL_ne _ _ ek] at hk; exact hk
  have he := he1.trans he2
  have hne : ∀ k, Value.ownBlock (.slice a' (n + 1) c') = some k → k ≠ h := fun k hk => by
    rcases hown6 k hk with e | e
    · rintro rfl; have := hs.own k e; rw [H.hp] at this; cases this
    · have := hl.lt; omega
  have hlit7 : Lit (W6.setCell ⟨h, 0, none⟩ (.slice a' (n + 1) c')) h 79 [.slice a' (n + 1) c', f0, .map (some b)] := hl6.set 0 _
  refine ⟨a', c', W6, fun ty => hrun, hl6, L', ⟨hlt', he.keep H.hp (by simp), hnz, H.fz, he.keep H.tm (by simp), ⟨.slice a' (n + 1) c', f0, fun j => if j = n then g else stp j, nn, hlit7, ⟨?_, hL', fun j t' hj ht' => ?_⟩, ((hf.stay hst6 (fun k hk => by rw [hk]; simp)).stay hst7 (fun k hk => by rw [hk]; simp)).ext he, hnn, (hm.stay hst6 (by rw [H.tm]; simp)).stay hst7 (by rw [H.tm]; simp)⟩, fun x T hx => ?_⟩, he, fun k x hk => hofB1 k x (hofB2 k x hk), (ht6'.mono (fun k hk => by unfold Fof; rw [hk]; simp)).trans hset' (fun k _ hk => by unfold Fof; rw [hk]; simp)⟩
  · show RowF 68 1 _ _ (n + 1) _
    refine (hrow.stay (hset.stay (G := fun k => k ≠ h) (fun k hk e => hk e)) hne).congr fun j hj => ?_
    by_cases e : j = n
    · subst e; simp only [if_true, Nat.lt_irrefl, if_false]
    · simp only [if_neg e, if_pos (show j < n by omega)]
  · have hj' : j < n + 1 := hj
    have ht'' : M.tup j = some t' := ht'
    by_cases e : j = n
    · subst e
      simp only [if_true]
      exact (hta t' ht'').ext he2
    · simp only [if_neg e]
      have h0 := hs.at' j t' (by omega) ht''
      have h1 := h0.stay hst6 (by rw [h0.1]; simp) (fun k hk => by rw [hk]; simp)
      exact (h1.stay hst7 (by rw [h0.1]; simp) (fun k hk => by rw [hk]; simp)).ext he
  · obtain ⟨q1, q2⟩ := H.at' x T hx
    exact ⟨q1, ((q2.stay hst6 (fun k hk => by intro e; rw [e] at hk; cases hk)).stay hst7 (fun k hk => by intro e; rw [e] at hk; cases hk)).ext he⟩

/-- A table more. -/
theorem Twin.put {W7 : World} {left : Int → Bool} {x : Int} {T : Tbl} {g' nn : Nat} (H : Twin W L h b m z (M.part left) tp) (hx : I64 x) (hM : M.tb x = some T) (he : Ext N L L') (hlt : ∀ k, L' k ≠ .no → k < W.heap.size) (hT : TbAt W L' z g' x T) (hmN : nn ≤ m)
    (hm7 : MapF W7 b (nn + 1) (updM (tbF (M.part left).tb tp) x (some (ptrV g')))) (hg7 : W.grownBy W7 (some b)) :
    Twin W7 L' h b (m + 1) z (M.part (fun y => left y && !decide (y = x))) (fun y => if y = x then g' else tp y) := by
  have ht : Touch (fun k => k = b) W W7 := Touch.grown hg7 (fun k hk => (Option.some.inj hk).symm)
  have hst := ht.stay (G := fun k => L' k ≠ .tm) (fun k hk e => hk (by rw [e]; exact he.keep H.tm (by simp)))
  obtain ⟨s, f, stp, n, h1, h2, h3, h4, h5⟩ := H.ex
  have hx' : ∀ y, (M.part (fun y => left y && !decide (y = x))).tb y = if y = x then some T else (M.part left).tb y := fun y => by
    unfold Hp.part
    by_cases e : y = x
    · subst e; simp [hx, hM]
    · by_cases hl : left y = true <;> simp [e, hl]
  refine ⟨fun k hk => Nat.lt_of_lt_of_le (hlt k hk) ht.size, he.keep H.hp (by simp), H.nz, H.fz, he.keep H.tm (by simp), ⟨s, f, stp, nn + 1, h1.stay hst (by rw [he.keep H.hp (by simp)]; simp), (h2.ext he).stay hst (fun k hk => by intro e; rw [e] at hk; cases hk), (h3.ext he).stay hst (fun k hk => by rw [hk]; simp), Nat.succ_le_succ hmN, hm7.congr fun y hy => ?_⟩, fun y T' hy => ?_⟩
  · unfold tbF updM
    rw [hx' y]
    by_cases e : y = x
    · simp [e]
    · simp only [if_neg e]
  · rw [hx' y] at hy
    by_cases e : y = x
    · subst e
      simp only [if_true] at hy ⊢
      rw [← Option.some.inj hy]
      exact ⟨hx, hT.stay hst (fun k hk => by intro e; rw [e] at hk; cases hk)⟩
    · simp only [if_neg e] at hy ⊢
      obtain ⟨q1, q2⟩ := H.at' y T' hy
      exact ⟨q1, (q2.ext he).stay hst (fun k hk => by intro e; rw [e] at hk; cases hk)⟩
end

/-- The next entry of the map of tables. J: what holds whatever the iterator does. -/
theorem next_tb {w : World} {ops : Array Oper} {rest : List Oper} {o : Oper} {a : Act} {Q : Exit → Act → World → Prop} {b r n cnt : Nat} {left : Int → Bool} {tb : Int → Option Tbl} {tp : Int → Nat} (J : World → Prop)
    (hg : o.guard = none) (it : Operand) (hop : o.op = Op.next it false) (hit : a.eval it = .pointer (some ⟨r, 0, none⟩)) (hr : RangeF w b r n (tbF tb tp) left cnt) (hJ : ∀ w', Touch (fun k => k = r) w w' → J w')
    (hDone : (∀ x, I64 x → left x = false) → wpList Try.prog ops Q rest (a.put o.dst (.tuple #[.bool false])) w)
    (hMore : ∀ (x : Int) (T : Tbl) (w' : World) (cnt' : Nat), I64 x → left x = true → tb x = some T → RangeF w' b r n (tbF tb tp) (fun z => left z && !decide (z = x)) cnt' → cnt' < cnt → J w' →
      (Instr.entry (.pointer (some ⟨r, 0, none⟩))).run Try.prog w' = .ok (.tuple #[.int .i64 x, .pointer (some ⟨tp x, 0, none⟩)]) w' → wpList Try.prog ops Q rest (a.put o.dst (.tuple #[.bool true, .int .i64 x, .pointer (some ⟨tp x, 0, none⟩)])) w') :
    wpList Try.prog ops Q (o :: rest) a w := by
  refine next_f hg it hop hit hr hDone fun x v w' cnt' hx hl hf hr' hlt ht hs hen => ?_
  obtain ⟨T, hT, rfl⟩ : ∃ T, tb x = some T ∧ v = .pointer (some ⟨tp x, 0, none⟩) := by
    unfold tbF at hf
    cases hb : tb x with
    | none => rw [hb] at hf; cases hf
    | some T => rw [hb] at hf; exact ⟨T, rfl, (Option.some.inj hf).symm⟩
  exact hMore x T w' cnt' hx hl hT hr' hlt (hJ w' ht) hen

end Go.Proofs.Ytkedkeelbbfmkaa
