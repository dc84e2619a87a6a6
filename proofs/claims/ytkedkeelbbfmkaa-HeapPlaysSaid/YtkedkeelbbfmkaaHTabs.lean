/-
  Tables: walked (stage 11).
-/
import Derived.Test.YtkedkeelbbfmkaaHIds
import Derived.Laws.IdiomRangeMap
namespace Go.Proofs.Ytkedkeelbbfmkaa
open Go.RowKit
set_option linter.unusedVariables false

/-- The next entry of the map of tables: none; a table that has no rows; a table that has. J: what holds whatever the iterator does. -/
theorem next_tab {w : World} {ops : Array Oper} {rest : List Oper} {o : Oper} {a : Act} {Q : Exit → Act → World → Prop} {b r n cnt h z : Nat} {left : Int → Bool} {M : Hp} {L : Nat → Lab} {tp : Int → Nat} (J : World → Prop)
    (hg : o.guard = none) (it : Operand) (hop : o.op = Op.next it false) (hit : a.eval it = .pointer (some ⟨r, 0, none⟩)) (H : HpG w h M z L b tp) (hr : RangeF w b r n (tbF M.tb tp) left cnt) (hrL : L r = .no) (hJ : ∀ w', Touch (fun k => k = r) w w' → J w')
    (hDone : (∀ x, I64 x → left x = false) → wpList Try.prog ops Q rest (a.put o.dst (.tuple #[.bool false])) w)
    (hNone : ∀ (x : Int) (T : Tbl) (bi : Nat) (w' : World) (cnt' : Nat), I64 x → left x = true → M.tb x = some T → (∀ y, T.ix y = []) → RangeF w' b r n (tbF M.tb tp) (fun z => left z && !decide (z = x)) cnt' → cnt' < cnt → J w' → tp x < w'.heap.size → w'.cell? ⟨tp x, 1, none⟩ = some (.map (some bi)) →
      (∀ ty, (Builtin.len_ #[86] ty #[.map (some bi)]).run Try.prog w' = .ok (.int .i64 0) w') → (Instr.entry (.pointer (some ⟨r, 0, none⟩))).run Try.prog w' = .ok (.tuple #[.int .i64 x, .pointer (some ⟨tp x, 0, none⟩)]) w' → wpList Try.prog ops Q rest (a.put o.dst (.tuple #[.bool true, .int .i64 x, .pointer (some ⟨tp x, 0, none⟩)])) w')
    (hSome : ∀ (x : Int) (T : Tbl) (bi k : Nat) (w' : World) (cnt' : Nat), I64 x → left x = true → M.tb x = some T → (∃ y, T.ix y ≠ []) → RangeF w' b r n (tbF M.tb tp) (fun z => left z && !decide (z = x)) cnt' → cnt' < cnt → J w' → tp x < w'.heap.size → w'.cell? ⟨tp x, 1, none⟩ = some (.map (some bi)) → (0 : Int) < (k : Int) →
      (∀ ty, (Builtin.len_ #[86] ty #[.map (some bi)]).run Try.prog w' = .ok (.int .i64 k) w') → (Instr.entry (.pointer (some ⟨r, 0, none⟩))).run Try.prog w' = .ok (.tuple #[.int .i64 x, .pointer (some ⟨tp x, 0, none⟩)]) w' → wpList Try.prog ops Q rest (a.put o.dst (.tuple #[.bool true, .int .i64 x, .pointer (some ⟨tp x, 0, none⟩)])) w') :
    wpList Try.prog ops Q (o :: rest) a w := by
  refine next_f hg it hop hit hr hDone fun x v w' cnt' hx hl hf hr' hlt ht hs hen => ?_
  obtain ⟨T, hT, rfl⟩ : ∃ T, M.tb x = some T ∧ v = .pointer (some ⟨tp x, 0, none⟩) := by
    unfold tbF at hf
    cases hb : M.tb x with
    | none => rw [hb] at hf; cases hf
    | some T => rw [hb] at hf; exact ⟨T, rfl, (Option.some.inj hf).symm⟩
  have H' := H.stay (ht.stay (G := Fof L) (fun k hk e => hk (by rw [e]; exact hrL)))
  obtain ⟨hI, hta⟩ := H'.at' x T hT
  obtain ⟨q1, bi, nn, lp, q2, q3, q4, q5, q6⟩ := hta
  obtain ⟨k, -, -, hk0⟩ := q5.len (t := 86) (e := 36) Try.underlying86 0
  have hlen : ∃ k : Nat, (∀ ty, (Builtin.len_ #[86] ty #[.map (some bi)]).run Try.prog w' = .ok (.int .i64 k) w') ∧ (k = 0 ↔ ∀ y, I64 y → ixF T lp y = none) := by
    obtain ⟨D, d1, d2⟩ := q5
    refine ⟨Maps.size D, fun ty => d1.len Try.underlying86 ty, ?_⟩
    obtain ⟨es, rfl, hp, hk⟩ := own_keys d1
    constructor
    · intro h0 y hy
      have he : es = [] := List.eq_nil_of_length_eq_zero h0
      have := (d2 y hy).1
      rw [he] at this
      cases hf : ixF T lp y with
      | none => rfl
      | some u => rw [hf] at this; cases this
    · intro h0
      cases es with
      | nil => rfl
      | cons p es =>
        obtain ⟨y, e1, e2⟩ := hk p (List.mem_cons_self ..)
        have := (d2 y e2).1
        rw [h0 y e2, Maps.has_eq, List.any_cons, e1] at this
        have hs : (Go.Lit.int .i64 y).sameKey (.int .i64 y) = true := WideAt.sameKey_self (lawI.key (keyI e2))
        rw [hs] at this
        cases this
  obtain ⟨k, hk1, hk2⟩ := hlen
  cases k with
  | zero =>
    refine hNone x T bi w' cnt' hx hl hT (fun y => ?_) hr' hlt (hJ w' ht) q2.lt (q2.cell rfl) hk1 hen
    by_cases e : T.ix y = []
    · exact e
    · have := hk2.1 rfl y (q6 y e).1
      unfold ixF at this
      rw [if_neg e] at this
      cases this
  | succ k =>
    refine hSome x T bi (k + 1) w' cnt' hx hl hT ?_ hr' hlt (hJ w' ht) q2.lt (q2.cell rfl) (by omega) hk1 hen
    apply Classical.byContradiction
    intro hno
    have : k + 1 = 0 := hk2.2 fun y _ => by
      unfold ixF
      rw [if_pos]
      exact Classical.byContradiction fun e => hno ⟨y, e⟩
    omega

/-- Which tables have rows. -/
def Hp.has (M : Hp) (x : Int) : Prop := ∃ T y, M.tb x = some T ∧ T.ix y ≠ []

/-- What the loop has gathered. -/
structure Gath (M : Hp) (left : Int → Bool) (l : List Int) : Prop where
  nd : l.Nodup
  mem : ∀ x, x ∈ l ↔ I64 x ∧ left x = false ∧ M.has x

/-- Sort, at a row of its own. -/
theorem sort_is (s : Value) (l : List Int) (hl : l.length ≤ 1000000) (w : World) (h : RowI w s l) :
    Calls Try.prog 52 #[s] w fun e w' => e = .returned (.tuple #[]) ∧ RowI w' s (sortI l) ∧ Touch (fun k => s.ownBlock = some k) w w' := by
  have ho := h.own
  rcases ho.2 with ⟨rfl, h0⟩ | ⟨b, c, cur, rfl, hb, hg, hnc, hcm, hcs, hx⟩
  · have e : l = [] := List.eq_nil_of_length_eq_zero h0
    subst e
    refine (show Calls Try.prog 52 _ _ _ from AnyM.slices_Sort_int_none Try.sortI none 0 w).mono ?_
    rintro e w' ⟨rfl, rfl⟩
    have e0 : sortI [] = [] := by simp [sortI]
    rw [e0]
    exact ⟨rfl, RowF.nil _ _ _ _, Touch.refl _ _⟩
  · have hH : Sort.Holds (Value.int .i64) w b 0 l.toArray := fun j hj => by
      have hj' : j < l.length := by simpa using hj
      rw [Nat.zero_add, ho.cellAt j (by omega)]
      refine ⟨?_, ho.frozenAt j⟩
      rw [getElem!_pos l.toArray j hj]
      simp [hj']
    refine (show Calls Try.prog 52 _ _ _ from AnyM.slices_Sort_int Try.sortI b 0 c l w hH (some_lt hg) (by omega)).mono ?_
    rintro e w' ⟨rfl, q, os, rfl⟩
    have hd : Below w.heap.size w (Sort.ahead w q) := ⟨rfl, rfl, rfl, Nat.le_refl _, fun _ _ => rfl⟩
    have h1 := rowI_putRow (m := sortI l) (RowF.below h hd) rfl (sortI_perm l).length_eq
    have hgr : Below (Sort.putRow (Value.int .i64) (Sort.ahead w q) b 0 (sortI l).toArray).heap.size (Sort.putRow (Value.int .i64) (Sort.ahead w q) b 0 (sortI l).toArray) (Sort.grow (Sort.putRow (Value.int .i64) (Sort.ahead w q) b 0 (sortI l).toArray) os) :=
      ⟨rfl, rfl, rfl, by simp [Sort.grow], fun i hi => by
        show (_ ++ os)[i]? = _
        rw [Array.getElem?_append_left hi]⟩
    have h2 : RowI _ (.slice (some ⟨b, 0, none⟩) l.length c) (sortI l) := RowF.below h1 hgr
    exact ⟨rfl, h2, (((Touch.of_below hd).trans (putRow_touch _ b _) (fun _ _ h => h)).trans (Touch.of_below hgr) (fun _ _ h => h)).mono (fun k hk => by rw [hk]; rfl)⟩

set_option maxRecDepth 100000 in
theorem tables_nil (w : World) : Calls Try.prog 19 #[.pointer none] w fun e w' => e = .returned (.slice none 0 0) ∧ w' = w := by
  go_enter Try.func19, Try.ntmps19
  go_wp2_with fail
  go_ret
  exact ⟨rfl, rfl⟩

set_option maxRecDepth 100000 in
set_option maxHeartbeats 8000000 in
theorem tables_none (w : World) (h : Nat) (hhl : h < w.heap.size) (c2 : w.cell? ⟨h, 2, none⟩ = some (.map none)) : Calls Try.prog 19 #[ptrV h] w fun e w' => e = .returned (.slice none 0 0) ∧ Below w.heap.size w w' := by
  have hr := run_range_nilMap (P := Try.prog) w 77 3 70 Try.underlying77
  have hn := fun ty => run_next_nilMap (P := Try.prog) w ty 0 0 #[]
  have hcon := sort_is (.slice none 0 0) [] (by simp) (w.alloc (.mapIter none 0 #[] 0)) (RowF.nil _ _ _ _)
  have HB := Lib.hid (Below.allocs w (.mapIter none 0 #[] 0))
  unfold ptrV
  go_enter Try.func19, Try.ntmps19
  go_wp2_with fail
  refine wp_loop_rounds 1 ?_
  rw [rounds_succ]
  go_wp2_with fail
  refine hcon.mono ?_
  rintro e w2 ⟨rfl, -, ht⟩
  have HT := Lib.hid (HB.out.trans ((Touch.below (B := w.heap.size) ht (fun k hk => by cases hk) HB.out.size)))
  clear hcon ht hr hn
  go_wp2_with fail
  go_ret
  exact ⟨rfl, HT.out⟩

set_option maxRecDepth 100000 in
set_option maxHeartbeats 8000000 in
theorem tables_some (w : World) (h : Nat) (M : Hp) (z : Nat) (L : Nat → Lab) (b : Nat) (tp : Int → Nat) (hz : z ≤ 90000) (H : HpG w h M z L b tp) :
    Calls Try.prog 19 #[ptrV h] w fun e w' => ∃ s, e = .returned s ∧ ∃ l, RowI w' s l ∧ Rise l ∧ (∀ x, x ∈ l ↔ I64 x ∧ M.has x) ∧ (∀ k, s.ownBlock = some k → w.heap.size ≤ k) ∧ Below w.heap.size w w' := by
  obtain ⟨s, f, stp, n, hl, -, -, hnz, hm⟩ := H.ex
  have c2 := hl.cell (o := 2) rfl
  have hhl := hl.lt
  obtain ⟨r, hr⟩ : ∃ r, w.heap.size = r := ⟨_, rfl⟩
  have hrL : L r = .no := by
    by_cases e : L r = .no
    · exact e
    · have := H.lt r e; omega
  have HG := Lib.hid H
  have HM := Lib.hid hm
  have HR := Lib.hid hr
  have HRL := Lib.hid hrL
  have HNZ := Lib.hid (And.intro hnz hz)
  unfold ptrV
  clear H hl hm hnz hz hr hrL
  go_enter Try.func19, Try.ntmps19
  go_wp2_with (first | (at_range; refine range_f rfl _ _ rfl 70 Try.underlying77 rfl HM.out (fun w0 cnt0 hcn hrg hb0 hsz0 => ?_)) | go_in)
  go_frame
  have HB0 := Lib.hid hb0
  have HN0 : Hid (0 + cnt0 ≤ n) := Lib.hid (by omega)
  rw [HR.out] at hrg
  have HRG := Lib.hid hrg
  have HSZ : Hid (w0.heap.size = r + 1) := Lib.hid (by rw [← HR.out]; exact hsz0)
  have HGA : Hid (Gath M (fun x => decide (I64 x) && (tbF M.tb tp x).isSome) []) := Lib.hid ⟨List.nodup_nil, fun x => ⟨fun h => absurd h (by simp), fun ⟨h1, h2, T, y, h3, h4⟩ => by
    unfold tbF at h2
    rw [h3] at h2
    simp [h1] at h2⟩⟩
  rw [HR.out]
  clear hb0 hcn hrg hsz0 c2
  go_loopg [3] cnt0 (fun gg s3 wr => ∃ (left : Int → Bool) (cnt : Nat) (l : List Int), cnt ≤ gg ∧ Hid (RangeF wr b r n (tbF M.tb tp) left cnt) ∧ Hid (RowI wr s3 l) ∧ Hid (∀ k, s3.ownBlock = some k → r < k) ∧ Hid (Gath M left l) ∧ Hid (l.length + cnt ≤ n) ∧ Hid (Below w.heap.size w wr) ∧ Hid (r < wr.heap.size))
  case atStart => exact ⟨_, cnt0, [], Nat.le_refl _, HRG, Lib.hid (RowF.nil _ _ _ _), Lib.hid (fun k hk => by cases hk), HGA, HN0, HB0, Lib.hid (by have := HSZ.out; omega)⟩
  case round =>
    obtain ⟨left, cnt, l, hgg, HRG1, HROW, HOWN, HGA1, HLEN, HB, HRS⟩ := hrel
    clear HRG HGA HN0 HB0 HSZ
    have HGG := Lib.hid hgg
    have HJ : Hid (∀ w', Touch (fun k => k = r) wr w' → RowI w' u3 l ∧ Below w.heap.size w w') := Lib.hid (fun w' ht => ⟨RowF.stay HROW.out (ht.stay (G := fun k => k ≠ r) (fun k hk e => hk e)) (fun k hk => by have := HOWN.out k hk; omega), HB.out.trans (ht.below (fun k hk => by have := HR.out; omega) HB.out.size)⟩)
    have hln : l.length + cnt ≤ n := HLEN.out
    have hnz : n ≤ z ∧ z ≤ 90000 := HNZ.out
    clear hgg
    go_wp2_with (first
      | (at_next; refine next_tab (fun w' => RowI w' u3 l ∧ Below w.heap.size w w') rfl _ rfl rfl (HG.out.below HB.out) HRG1.out HRL.out HJ.out (fun hl0 => ?_) (fun x T bi w2 cnt2 hx hlx hT hno hrg2 hlt2 hj2 hbl2 c1 hlen hen => ?_) (fun x T bi k w2 cnt2 hx hlx hT hsm hrg2 hlt2 hj2 hbl2 c1 hk hlen hen => ?_))
      | (at_builtin; obtain ⟨a', c', W6, hrun, hrow6, ht6, ho6⟩ := row_snoc 36 36 Try.underlying36 hj2.1 x (by omega); refine append_stepW rfl _ _ 36 rfl u3 (.slice (some ⟨w2.heap.size, 0, none⟩) 1 1) _ W6 rfl rfl hrun ?_)
      | (go_at_call 52; refine (sort_is u3 l (by omega) wr HROW.out).mono ?_; rintro e w9 ⟨rfl, hrow9, ht9⟩)
      | go_in)
    · -- nothing is left
      go_ret
      have hb9 : Below w.heap.size w w9 := HB.out.trans (ht9.below (fun k hk => by have := HOWN.out k hk; have := HR.out; omega) HB.out.size)
      refine ⟨_, rfl, sortI l, hrow9, sortI_rise HGA1.out.nd, fun x => ?_, fun k hk => by have := HOWN.out k hk; have := HR.out; omega, hb9⟩
      rw [(sortI_perm l).mem_iff, HGA1.out.mem]
      exact ⟨fun ⟨h1, _, h3⟩ => ⟨h1, h3⟩, fun ⟨h1, h3⟩ => ⟨h1, hl0 x h1, h3⟩⟩
    · -- a table that has no rows
      go_roundg cnt2
      case measure => have := HGG.out; omega
      case rel =>
        refine ⟨_, cnt2, l, Nat.le_refl _, Lib.hid hrg2, Lib.hid hj2.1, HOWN, Lib.hid ⟨HGA1.out.nd, fun y => ?_⟩, Lib.hid (by omega), Lib.hid hj2.2, Lib.hid (by have := hj2.2.size; have := hrg2.lt; omega)⟩
        rw [HGA1.out.mem]
        constructor
        · rintro ⟨h1, h2, h3⟩
          exact ⟨h1, by rw [h2]; rfl, h3⟩
        · rintro ⟨h1, h2, h3⟩
          refine ⟨h1, ?_, h3⟩
          by_cases e : y = x
          · subst e
            obtain ⟨T', y', e1, e2⟩ := h3
            rw [hT] at e1
            exact absurd (hno y') (by rw [Option.some.inj e1]; exact e2)
          · simpa [e] using h2
    · -- one that has
      have hb6 : Below w.heap.size w W6 := hj2.2.trans (ht6.below (fun k hk => by have := HOWN.out k hk; have := HR.out; omega) hj2.2.size)
      have hrg6 : RangeF W6 b r n (tbF M.tb tp) (fun z => left z && !decide (z = x)) cnt2 := hrg2.kept ht6.size (ht6.block b hrg2.map.lt (fun hk => by have := HOWN.out b hk; have := HM.out.lt; have := HR.out; omega)) (ht6.block r hrg2.lt (fun hk => by have := HOWN.out r hk; omega))
      go_roundg cnt2
      case measure => have := HGG.out; omega
      case rel =>
        refine ⟨_, cnt2, l ++ [x], Nat.le_refl _, Lib.hid hrg6, Lib.hid hrow6, Lib.hid (fun k hk => (ho6 k hk).elim (HOWN.out k) (fun h => by have := hrg2.lt; omega)), Lib.hid ⟨?_, fun y => ?_⟩, Lib.hid (by rw [List.length_append, List.length_singleton]; omega), Lib.hid hb6, Lib.hid (by have := hrg6.lt; omega)⟩
        · rw [List.nodup_append]
          refine ⟨HGA1.out.nd, by simp, fun a ha c hc e => ?_⟩
          rw [List.mem_singleton] at hc
          subst e hc
          have := ((HGA1.out.mem _).1 ha).2.1
          rw [this] at hlx
          cases hlx
        · rw [List.mem_append, HGA1.out.mem, List.mem_singleton]
          constructor
          · rintro (⟨h1, h2, h3⟩ | rfl)
            · exact ⟨h1, by rw [h2]; rfl, h3⟩
            · obtain ⟨y', hy'⟩ := hsm
              exact ⟨hx, by simp, T, y', hT, hy'⟩
          · rintro ⟨h1, h2, h3⟩
            by_cases e : y = x
            · exact .inr e
            · exact .inl ⟨h1, by simpa [e] using h2, h3⟩

/-- Tables. -/
theorem tables_is (w : World) (h : Nat) (M : Hp) (z : Nat) (L : Nat → Lab) (hz : z ≤ 90000) (H : HpM w h M z L) :
    Calls Try.prog 19 #[ptrV h] w fun e w' => ∃ s, e = .returned s ∧ ∃ l, RowI w' s l ∧ Rise l ∧ (∀ x, x ∈ l ↔ I64 x ∧ M.has x) ∧ (∀ k, s.ownBlock = some k → w.heap.size ≤ k) ∧ Below w.heap.size w w' := by
  obtain ⟨s, f, m, stp, hl, hs, hf, ht⟩ := H.ex
  rcases ht with ⟨rfl, hno⟩ | ⟨b, n, tp, rfl, h1, h2, h3, h4⟩
  · refine (tables_none w h hl.lt (hl.cell rfl)).mono ?_
    rintro e w' ⟨rfl, hb⟩
    refine ⟨_, rfl, [], RowF.nil _ _ _ _, List.Pairwise.nil, fun x => ⟨fun h => absurd h (by simp), fun ⟨_, T, y, h5, _⟩ => ?_⟩, fun k hk => (by cases hk), hb⟩
    rw [hno x] at h5
    cases h5
  · exact tables_some w h M z L b tp hz ⟨H.lt, H.hp, H.nz, H.fz, h1, ⟨s, f, stp, n, hl, hs, hf, h2, h3⟩, h4⟩

end Go.Proofs.Ytkedkeelbbfmkaa
