/-
  A version leaves its table (stage 11).
-/
import Derived.Test.YtkedkeelbbfmkaaHPut
namespace Go.Proofs.Ytkedkeelbbfmkaa
open Go.RowKit
set_option linter.unusedVariables false

set_option maxRecDepth 100000 in
/-- The closure of leave, in whatever world holds the slot in the cell ⟨B, 0⟩. -/
theorem is_slot (slot x : Int) (B : Nat) (W : World) (hc : W.cell? ⟨B, 0, none⟩ = some (.int .i64 slot)) :
    FnGives Try.prog 67 #[.pointer (some ⟨B, 0, none⟩)] #[.int .i64 x] (.bool (decide (x = slot))) W := by
  show Calls Try.prog 67 #[.int .i64 x, .pointer (some ⟨B, 0, none⟩)] W _
  have hz : (x == slot) = decide (x = slot) := by by_cases e : x = slot <;> simp [e]
  go_enter Try.func67, Try.ntmps67
  go_wp2_with fail
  go_ret
  exact ⟨by rw [← hz]; rfl, 0, rfl⟩

theorem delete_is (w : World) (B b n c : Nat) (l m : List Int) (slot : Int) (hn : l.length = n) (hm : (l.filter fun x => !decide (x = slot)) = m) (hB : B < w.heap.size) (hne : B ≠ b) (hc : w.cell? ⟨B, 0, none⟩ = some (.int .i64 slot)) (h : RowI w (.slice (some ⟨b, 0, none⟩) n c) l) (hz : n ≤ 1000000) :
    Calls Try.prog 66 #[.slice (some ⟨b, 0, none⟩) n c, .func (.func 67) #[] #[.pointer (some ⟨B, 0, none⟩)]] w fun e w' =>
      e = .returned (.slice (some ⟨b, 0, none⟩) m.length c) ∧ RowI w' (.slice (some ⟨b, 0, none⟩) m.length c) m ∧ Touch (fun k => k = b) w w' := by
  subst hn
  have ho := h.own
  obtain ⟨b', c', cur, h0, hb, hg, hnc, hcm, hcs, hx⟩ : ∃ b' c' cur, Value.slice (some ⟨b, 0, none⟩) l.length c = .slice (some ⟨b', 0, none⟩) l.length c' ∧ 0 ≤ b' ∧ w.heap[b']? = some (.cells cur 3 (0, 0)) ∧ l.length ≤ c' ∧ c' ≤ maxLen ∧ cur.size = c' * 1 ∧ cur.toList.take (l.length * 1) = l.map (Value.int .i64) := by
    rcases ho.2 with ⟨h0, _⟩ | ⟨b', c', cur, h0, rest⟩
    · cases h0
    · exact ⟨b', c', cur, h0, rest⟩
  cases h0
  have hH : Sort.Holds (Value.int .i64) w b 0 l.toArray := fun j hj => by
    have hj' : j < l.length := by simpa using hj
    rw [Nat.zero_add, ho.cellAt j (by omega)]
    refine ⟨?_, ho.frozenAt j⟩
    rw [getElem!_pos l.toArray j hj]
    simp [hj']
  have hcon := AnyE.slices_DeleteFunc Try.delI (Value.int .i64) (fun _ => rfl) (fun x => decide (x = slot)) 67 #[.pointer (some ⟨B, 0, none⟩)] (enters_of Try.func67 (by kernel_rfl) rfl) 0 (by intro w; kernel_rfl) b 0 c l.toArray w
    (fun W x hb => is_slot slot x B W ((hb.cell (p := ⟨B, 0, none⟩) hB).trans hc))
    (fun q os dk x _ => is_slot slot x B _ (by
      unfold sortWorld
      rw [Sort.cell?_grow _ _ _ (by show B < (Sort.putRow _ _ _ _ _).heap.size; rw [Sort.size_putRow]; exact hB), Sort.cell?_putRow_other _ _ b 0 _ _ (Or.inl hne)]
      exact hc)) hH (by simp; omega) (by simpa using hnc)
  rw [hm] at hcon
  refine (show Calls Try.prog 66 #[.slice (some ⟨b, 0, none⟩) l.length c, _] w _ from hcon).mono ?_
  rintro e w' ⟨rfl, q, rfl⟩
  have hml : m.length ≤ l.length := by rw [← hm]; exact List.length_filter_le _ _
  have hd : Below w.heap.size w (Sort.ahead w q) := ⟨rfl, rfl, rfl, Nat.le_refl _, fun _ _ => rfl⟩
  have hrow := rowI_putRow (m := m ++ List.replicate (l.length - m.length) 0) (h.below hd) rfl (by simp; omega)
  have e1 : (m ++ List.replicate (l.toArray.size - m.length) 0) = m ++ List.replicate (l.length - m.length) (0 : Int) := by simp
  rw [e1]
  refine ⟨rfl, ?_, (Touch.of_below hd).trans (putRow_touch _ b _) (fun _ _ h => h)⟩
  unfold RowI at hrow
  have e2 : (m ++ List.replicate (l.length - m.length) (0 : Int)).length = l.length := by simp; omega
  rw [e2] at hrow
  refine (row_cut hrow hml).congr fun j hj => ?_
  unfold numR
  simp only [List.getD_eq_getElem?_getD, List.getElem?_append_left hj]

/-- T, without a version. -/
def Tbl.lv (T : Tbl) (id : Int) (slot : Nat) : Tbl := ⟨T.last, fun y => if y = id then (T.ix id).filter (fun k => decide (k ≠ slot)) else T.ix y⟩

theorem natI_filter (l : List Nat) (slot : Nat) : ((natI l).filter fun x => !decide (x = (slot : Int))) = natI (l.filter fun k => decide (k ≠ slot)) := by
  induction l with
  | nil => rfl
  | cons k l ih =>
    show (((k : Int) :: natI l).filter _) = _
    rw [List.filter_cons, List.filter_cons]
    by_cases e : k = slot
    · subst e
      simp [ih]
    · have : ¬ (k : Int) = (slot : Int) := by omega
      simp only [e, this, decide_false, Bool.not_false, if_true, ne_eq, not_false_eq_true, decide_true]
      rw [ih]
      rfl

/-- What comes of it, the index being as told. -/
theorem leave_end {w w1 w2 : World} {L : Nat → Lab} {z g bi nn bl m c : Nat} {x id : Int} {T : Tbl} {lp : Int → Value} {slot : Nat} {f2 : Int → Option Value}
    (hg : L g = .tb x) (hl : Lit w g 89 [.int .i64 T.last, .map (some bi)]) (hb : L bi = .ix x) (hm : MapF w bi nn (ixF T lp))
    (hr : ∀ y, T.ix y ≠ [] → I64 y ∧ (T.ix y).length ≤ z ∧ RowI w (lp y) (natI (T.ix y)) ∧ ∀ k, (lp y).ownBlock = some k → L k = .ls x y) (hid : T.ix id ≠ []) (hbl : (lp id).ownBlock = some bl)
    (hrow : RowI w1 (.slice (some ⟨bl, 0, none⟩) m c) (natI ((T.lv id slot).ix id))) (ht1 : Touch (fun k => k = bl) w w1) (hg2 : w1.grownBy w2 (some bi)) {n2 : Nat} (hn2 : n2 ≤ z)
    (hm2 : MapF w2 bi n2 f2) (hf2 : ∀ y, f2 y = ixF (T.lv id slot) (fun y => if y = id then .slice (some ⟨bl, 0, none⟩) m c else lp y) y) :
    TbAt w2 L z g x (T.lv id slot) ∧ Touch (fun k => (L k).ofB x = true) w w2 := by
  obtain ⟨p1, p2, p3, p4⟩ := hr id hid
  have hLb := p4 bl hbl
  have hst1 := ht1.stay (G := fun k => L k ≠ .ls x id) (fun k hk e => hk (by rw [e]; exact hLb))
  have ht2 : Touch (fun k => k = bi) w1 w2 := Touch.grown hg2 (fun k hk => (Option.some.inj hk).symm)
  have hst2 := ht2.stay (G := fun k => L k ≠ .ix x) (fun k hk e => hk (by rw [e]; exact hb))
  refine ⟨⟨hg, bi, n2, fun y => if y = id then .slice (some ⟨bl, 0, none⟩) m c else lp y, (hl.stay hst1 (by rw [hg]; simp)).stay hst2 (by rw [hg]; simp), hb, hn2, hm2.congr fun y _ => (hf2 y).symm, fun y hy => ?_⟩, (ht1.mono (fun k hk => by rw [hk, hLb]; simp [Lab.ofB])).trans ht2 (fun k _ hk => by rw [hk, hb]; simp [Lab.ofB])⟩
  by_cases e : y = id
  · subst e
    simp only [if_true]
    refine ⟨p1, ?_, hrow.stay hst2 (fun k hk => ?_), fun k hk => ?_⟩
    · unfold Tbl.lv
      simp only [if_true]
      exact Nat.le_trans (List.length_filter_le _ _) p2
    · rw [← Option.some.inj hk, hLb]; simp
    · rw [← Option.some.inj hk]; exact hLb
  · have hy' : T.ix y ≠ [] := by unfold Tbl.lv at hy; simpa only [if_neg e] using hy
    obtain ⟨q1, q2, q3, q4⟩ := hr y hy'
    simp only [if_neg e]
    have e3 : (T.lv id slot).ix y = T.ix y := by unfold Tbl.lv; simp only [if_neg e]
    rw [e3]
    exact ⟨q1, q2, (q3.stay hst1 (fun k hk => by rw [q4 k hk]; intro e'; injection e' with _ e'; exact e e')).stay hst2 (fun k hk => by rw [q4 k hk]; simp), q4⟩

set_option maxRecDepth 100000 in
set_option maxHeartbeats 8000000 in
theorem leave_is (w : World) (h : Nat) (M : Hp) (z : Nat) (L : Nat → Lab) (b : Nat) (tp : Int → Nat) (x id : Int) (slot : Nat) (T : Tbl) (hid : I64 id) (hz : z ≤ 90000) (H : HpG w h M z L b tp) (hx : M.tb x = some T) (hs : slot ∈ T.ix id) :
    Calls Try.prog 45 #[ptrV (tp x), .int .i64 id, .int .i64 (slot : Int)] w fun e w' => e = .returned (.tuple #[]) ∧ HpG w' h (M.setTb x (T.lv id slot)) (z + 1) L b tp ∧ Touch (fun k => (L k).ofB x = true) w w' := by
  obtain ⟨hI, hT⟩ := H.at' x T hx
  obtain ⟨gB, hgB⟩ : ∃ gB, w.heap.size = gB := ⟨_, rfl⟩
  obtain ⟨w0, hw0⟩ : ∃ w0, w.alloc (.cells #[.int .i64 (slot : Int)] 3) = w0 := ⟨_, rfl⟩
  have hb0 : Below w.heap.size w w0 := by rw [← hw0]; exact Below.allocs _ _
  have hlB : Lit w0 gB 3 [.int .i64 (slot : Int)] := by rw [← hw0, ← hgB]; exact Lit.new w _ _
  obtain ⟨g, hg⟩ : ∃ g, tp x = g := ⟨_, rfl⟩
  rw [hg] at hT ⊢
  have hT0 := hT.stay (Stay.of_below (G := fun _ => True) hb0) (fun _ _ => trivial)
  obtain ⟨hg', bi, nn, lp, hl, hb, hnn, hm, hr⟩ := hT0
  have hne : T.ix id ≠ [] := by intro e; rw [e] at hs; cases hs
  obtain ⟨p1, p2, p3, p4⟩ := hr id hne
  obtain ⟨n, hn⟩ : ∃ n, (natI (T.ix id)).length = n := ⟨_, rfl⟩
  have hnp : 0 < n := by
    rw [← hn, natI_len]
    cases hi : T.ix id with
    | nil => exact absurd hi hne
    | cons a l => simp
  obtain ⟨bl, c, hlp, hnc, hcm, hbl, -, -⟩ := p3.at (j := 0) (by rw [hn]; exact hnp)
  rw [hn] at hlp
  have hlk := hm.look Try.underlying86 (z := .slice none 0 0) (by kernel_rfl) hid
  rw [show (ixF T lp id).getD (.slice none 0 0) = .slice (some ⟨bl, 0, none⟩) n c by unfold ixF; rw [if_neg hne, hlp]; rfl] at hlk
  have hBL : L bl = .ls x id := p4 bl (by rw [hlp]; rfl)
  have hBne : gB ≠ bl := by
    intro e
    have := H.lt bl (by rw [hBL]; simp)
    omega
  obtain ⟨r, hr'⟩ : ∃ r, (T.ix id).filter (fun k => decide (k ≠ slot)) = r := ⟨_, rfl⟩
  have hdel := delete_is w0 gB bl n c (natI (T.ix id)) (natI r) (slot : Int) hn (by rw [natI_filter, hr']) hlB.lt hBne (hlB.cell (o := 0) rfl) (by rw [← hlp]; exact p3) (by rw [← hn, natI_len]; omega)
  rw [natI_len] at hdel
  obtain ⟨k, hk⟩ : ∃ k, r.length = k := ⟨_, rfl⟩
  rw [hk] at hdel
  have c1 := hl.cell (o := 1) rfl
  have hgl := hl.lt
  have hrl : (T.lv id slot).ix id = r := by unfold Tbl.lv; simp only [if_true]; exact hr'
  have HLV : Hid (∀ w1 w2 n2 f2, RowI w1 (.slice (some ⟨bl, 0, none⟩) k c) (natI r) → Touch (fun k => k = bl) w0 w1 → w1.grownBy w2 (some bi) → n2 ≤ z + 1 → MapF w2 bi n2 f2 → (∀ y, f2 y = ixF (T.lv id slot) (fun y => if y = id then .slice (some ⟨bl, 0, none⟩) k c else lp y) y) →
      HpG w2 h (M.setTb x (T.lv id slot)) (z + 1) L b tp ∧ Touch (fun k => (L k).ofB x = true) w w2) := Lib.hid (fun w1 w2 n2 f2 a1 a2 a3 a4 a5 a6 => by
    obtain ⟨q1, q2⟩ := leave_end (z := z + 1) (slot := slot) hg' hl hb hm (fun y hy => ⟨(hr y hy).1, Nat.le_succ_of_le (hr y hy).2.1, (hr y hy).2.2.1, (hr y hy).2.2.2⟩) hne (by rw [hlp]; rfl) (by rw [hrl]; exact a1) a2 a3 a4 a5 a6
    have q5 : Touch (fun k => (L k).ofB x = true) w w2 := (Touch.of_below hb0).trans q2 (fun _ _ h => h)
    obtain ⟨q3, q4⟩ := touch_tb q5
    exact ⟨H.upd hx (Ext.refl 0 L) (Nat.le_succ z) (fun k hk => Nat.lt_of_lt_of_le (H.lt k hk) q4.size) q3 (by rw [hg]; exact q1), q5⟩)
  have HM1 : Hid (∀ w1, Touch (fun k => k = bl) w0 w1 → Lit w1 g 89 [.int .i64 T.last, .map (some bi)] ∧ MapF w1 bi nn (ixF T lp)) := Lib.hid (fun w1 a2 => by
    have hst := a2.stay (G := fun k => L k ≠ .ls x id) (fun k hk e => hk (by rw [e]; exact hBL))
    exact ⟨hl.stay hst (by rw [hg']; simp), hm.stay hst (by rw [hb]; simp)⟩)
  have HW0 := Lib.hid hw0
  have HGB := Lib.hid hgB
  have HN := Lib.hid (And.intro hnn hz)
  have HID := Lib.hid hid
  have HK := Lib.hid hk
  have HRL := Lib.hid hrl
  unfold ptrV
  clear H hx hs hI hT hb0 hlB hg' hl hb hnn hm hr p1 p2 p3 p4 hn hnp hlp hnc hcm hbl hBL hBne hr' hrl hz hid hw0 hgB hg hk
  go_enter Try.func45, Try.ntmps45
  go_upto_region 1 with (fail)
  rw [HW0.out, HGB.out]
  clear HW0
  go_wp2_with fail
  refine hdel.mono ?_
  rintro e w1 ⟨rfl, hrow, ht1⟩
  obtain ⟨hl1, hm1⟩ := HM1.out w1 ht1
  have c1 := hl1.cell (o := 1) rfl
  have hgl1 := hl1.lt
  have HR := Lib.hid (And.intro hrow (And.intro ht1 hm1))
  clear hdel hrow ht1 hl1 hm1 hlk
  cases k with
  | zero =>
    go_wp2_with (first | (at_delete; refine del_f rfl _ _ 86 rfl 36 Try.underlying86 bi nn (ixF T lp) rfl HR.out.2.2 id HID.out rfl ?_; intro w2 hm2 hg2) | go_in)
    have HEND := Lib.hid (HLV.out w1 w2 nn _ HR.out.1 HR.out.2.1 hg2 (Nat.le_succ_of_le HN.out.1) hm2 (fun y => by
      unfold updM ixF
      by_cases e : y = id
      · subst e
        rw [if_pos rfl, HRL.out, if_pos (List.eq_nil_of_length_eq_zero HK.out)]
      · rw [if_neg e]
        have e3 : (T.lv id slot).ix y = T.ix y := by unfold Tbl.lv; simp only [if_neg e]
        simp only [e3, if_neg e]))
    clear hm2 hg2
    simp only [Act.put]
    refine bodyPost_ret (results_none rfl _ _ _) rfl ?_
    exact ⟨rfl, HEND.out⟩
  | succ k =>
    have hne2 : ¬ ((k : Int) + 1 = 0) := by omega
    have hnm : nn < maxLen := by have := HN.out; unfold maxLen; omega
    go_wp2_with (first | (at_mapUpdate; refine put_f rfl _ _ _ 86 rfl 36 Try.underlying86 bi nn (ixF T lp) rfl HR.out.2.2 hnm id HID.out rfl (.slice (some ⟨bl, 0, none⟩) (k + 1) c) rfl ?_; intro w2 hm2 hg2) | go_in)
    have HEND := Lib.hid (HLV.out w1 w2 (nn + 1) _ HR.out.1 HR.out.2.1 hg2 (Nat.succ_le_succ HN.out.1) hm2 (fun y => by
      unfold updM ixF
      by_cases e : y = id
      · subst e
        rw [if_pos rfl, HRL.out, if_neg (by intro e; have := HK.out; rw [e] at this; cases this)]
        simp
      · rw [if_neg e]
        have e3 : (T.lv id slot).ix y = T.ix y := by unfold Tbl.lv; simp only [if_neg e]
        simp only [e3, if_neg e]))
    clear hm2 hg2
    go_wp2_with fail
    go_end0
    exact ⟨rfl, HEND.out⟩

end Go.Proofs.Ytkedkeelbbfmkaa
