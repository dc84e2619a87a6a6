/-
  index, slotsOf, Slots: walked (stage 11).
-/
import Derived.Test.YtkedkeelbbfmkaaHFreeP
import Derived.Test.YtkedkeelbbfmkaaRegX
import Derived.RangeFuncBox
import Derived.RangeFuncLeaves
import Derived.Shelf.Abstract
import Derived.OwnWalkIn
import Derived.TacticsInMore
import Derived.LoopNIn
import Derived.LoopIn
namespace Go.Proofs.Ytkedkeelbbfmkaa
open Go.RowKit
set_option linter.unusedVariables false

/-- What index hands out: nothing, or a map of rows of slots. -/
def IdxAt (W : World) (z : Nat) (mv : Value) (ix : Int → List Nat) : Prop :=
  (mv = .map none ∧ ∀ y, ix y = []) ∨ ∃ (bi n : Nat) (lp : Int → Value), mv = .map (some bi) ∧ n ≤ z ∧ MapF W bi n (fun y => if ix y = [] then none else some (lp y)) ∧ ∀ y, ix y ≠ [] → I64 y ∧ (ix y).length ≤ z ∧ RowI W (lp y) (natI (ix y))

theorem IdxAt.below {W W' : World} {z : Nat} {mv : Value} {ix : Int → List Nat} (h : IdxAt W z mv ix) (hb : Below W.heap.size W W') : IdxAt W' z mv ix := by
  rcases h with h | ⟨bi, n, lp, h1, h2, h3, h4⟩
  · exact .inl h
  · exact .inr ⟨bi, n, lp, h1, h2, h3.below hb, fun y hy => ⟨(h4 y hy).1, (h4 y hy).2.1, (h4 y hy).2.2.below hb⟩⟩

/-- The row of y. -/
theorem IdxAt.look {W : World} {z : Nat} {mv : Value} {ix : Int → List Nat} (h : IdxAt W z mv ix) {y : Int} (hy : I64 y) :
    ∃ a c, (∀ W', Below W.heap.size W W' → (Instr.lookup 86 mv (.int .i64 y) false).run Try.prog W' = .ok (.slice a (ix y).length c) W') ∧ RowI W (.slice a (ix y).length c) (natI (ix y)) := by
  rcases h with ⟨rfl, h0⟩ | ⟨bi, n, lp, rfl, h2, h3, h4⟩
  · refine ⟨none, 0, fun W' _ => ?_, ?_⟩
    · have := Maps.look_nil (w := W') (P := Try.prog) (k := 3) (t := 86) (e := 36) (z := .slice none 0 0) (key := .int .i64 y) (kl := .int .i64 y) false lawI Try.underlying86 (by kernel_rfl) (keyI hy)
      rw [h0 y]
      exact this
    · rw [h0 y]; exact RowF.nil _ _ _ _
  · by_cases e : ix y = []
    · refine ⟨none, 0, fun W' hb => ?_, by rw [e]; exact RowF.nil _ _ _ _⟩
      have := (h3.below hb).look Try.underlying86 (z := .slice none 0 0) (by kernel_rfl) hy
      rw [if_pos e] at this
      rw [e]
      exact this
    · obtain ⟨q1, q2, q3⟩ := h4 y e
      obtain ⟨a, c, hf, _, _⟩ := q3.form
      rw [natI_len] at hf
      refine ⟨a, c, fun W' hb => ?_, by rw [← hf]; exact q3⟩
      have := (h3.below hb).look Try.underlying86 (z := .slice none 0 0) (by kernel_rfl) hy
      rw [if_neg e, hf] at this
      exact this

/-- index of v at x is mv, here and whatever comes besides. -/
def Idx (W : World) (v : Value) (x : Int) (mv : Value) : Prop := ∀ W', Below W.heap.size W W' → Calls Try.prog 51 #[v, .int .i64 x] W' fun e w' => e = .returned mv ∧ w' = W'
theorem Idx.below {W W' : World} {v : Value} {x : Int} {mv : Value} (h : Idx W v x mv) (hb : Below W.heap.size W W') : Idx W' v x mv := fun W2 hb2 => h W2 (below_tr hb hb2)

theorem index_nil (W : World) (x : Int) : Idx W (.pointer none) x (.map none) := fun W' _ => by
  go_enter Try.func51, Try.ntmps51
  go_wp2_with fail
  go_ret
  exact ⟨rfl, rfl⟩

set_option maxRecDepth 100000 in
theorem index_none (W : World) (h : Nat) (mv : Value) (x : Int) (hhl : h < W.heap.size) (c2 : W.cell? ⟨h, 2, none⟩ = some mv) (hm : (mv = .map none ∨ ∃ b, mv = .map (some b))) (hlk : ∀ W', Below W.heap.size W W' → (Instr.lookup 77 mv (.int .i64 x) false).run Try.prog W' = .ok (.pointer none) W') : Idx W (ptrV h) x (.map none) := fun W' hb => by
  have c2' : W'.cell? ⟨h, 2, none⟩ = some mv := by rw [hb.cell (p := ⟨h, 2, none⟩) hhl]; exact c2
  have hl := hlk W' hb
  have hhl' : h < W'.heap.size := Nat.lt_of_lt_of_le hhl hb.size
  unfold ptrV
  rcases hm with rfl | ⟨b, rfl⟩
  · clear hlk c2 hhl hb
    go_enter Try.func51, Try.ntmps51
    go_wp2_with fail
    go_ret
    exact ⟨rfl, rfl⟩
  · clear hlk c2 hhl hb
    go_enter Try.func51, Try.ntmps51
    go_wp2_with fail
    go_ret
    exact ⟨rfl, rfl⟩

set_option maxRecDepth 100000 in
theorem index_some (W : World) (h b g bi : Nat) (v0 : Value) (x : Int) (hhl : h < W.heap.size) (hgl : g < W.heap.size) (c2 : W.cell? ⟨h, 2, none⟩ = some (.map (some b))) (c1 : W.cell? ⟨g, 1, none⟩ = some (.map (some bi))) (hlk : ∀ W', Below W.heap.size W W' → (Instr.lookup 77 (.map (some b)) (.int .i64 x) false).run Try.prog W' = .ok (.pointer (some ⟨g, 0, none⟩)) W') : Idx W (ptrV h) x (.map (some bi)) := fun W' hb => by
  have c2' : W'.cell? ⟨h, 2, none⟩ = some (.map (some b)) := by rw [hb.cell (p := ⟨h, 2, none⟩) hhl]; exact c2
  have c1' : W'.cell? ⟨g, 1, none⟩ = some (.map (some bi)) := by rw [hb.cell (p := ⟨g, 1, none⟩) hgl]; exact c1
  have hl := hlk W' hb
  have hhl' : h < W'.heap.size := Nat.lt_of_lt_of_le hhl hb.size
  have hgl' : g < W'.heap.size := Nat.lt_of_lt_of_le hgl hb.size
  unfold ptrV
  clear hlk c2 c1 hhl hgl hb
  go_enter Try.func51, Try.ntmps51
  go_wp2_with fail
  go_ret
  exact ⟨rfl, rfl⟩

theorem index_is {W : World} {h z : Nat} {M : Hp} {L : Nat → Lab} (H : HpM W h M z L) {x : Int} (hx : I64 x) : ∃ mv, Idx W (ptrV h) x mv ∧ IdxAt W z mv (M.tbl x).ix := by
  obtain ⟨s, f, m, stp, hl, -, -, ht⟩ := H.ex
  rcases ht with ⟨rfl, hno⟩ | ⟨b, n, tp, rfl, h1, h2, h3, h4⟩
  · refine ⟨.map none, index_none W h (.map none) x hl.lt (hl.cell rfl) (.inl rfl) (fun W' hb => Maps.look_nil (P := Try.prog) (k := 3) (t := 77) (e := 70) (z := .pointer none) (kl := .int .i64 x) false lawI Try.underlying77 (by kernel_rfl) (keyI hx)), .inl ⟨rfl, fun y => ?_⟩⟩
    unfold Hp.tbl; rw [hno x]; rfl
  · cases hb : M.tb x with
    | none =>
      refine ⟨.map none, index_none W h (.map (some b)) x hl.lt (hl.cell rfl) (.inr ⟨b, rfl⟩) (fun W' hbl => ?_), .inl ⟨rfl, fun y => ?_⟩⟩
      · have := (h3.below hbl).look Try.underlying77 (z := .pointer none) (by kernel_rfl) hx
        rwa [show (tbF M.tb tp x).getD (.pointer none) = .pointer none by unfold tbF; rw [hb]; rfl] at this
      · unfold Hp.tbl; rw [hb]; rfl
    | some T =>
      obtain ⟨_, hT⟩ := h4 x T hb
      obtain ⟨q1, bi, nn, lp, q2, q3, q4, q5, q6⟩ := hT
      refine ⟨.map (some bi), index_some W h b (tp x) bi (.int .i64 T.last) x hl.lt q2.lt (hl.cell rfl) (q2.cell rfl) (fun W' hbl => ?_), .inr ⟨bi, nn, lp, rfl, q4, ?_, fun y hy => ?_⟩⟩
      · have := (h3.below hbl).look Try.underlying77 (z := .pointer none) (by kernel_rfl) hx
        rwa [show (tbF M.tb tp x).getD (.pointer none) = .pointer (some ⟨tp x, 0, none⟩) by unfold tbF; rw [hb]; rfl] at this
      · unfold Hp.tbl; rw [hb]; exact q5
      · unfold Hp.tbl at hy ⊢
        rw [hb] at hy ⊢
        exact ⟨(q6 y hy).1, (q6 y hy).2.1, (q6 y hy).2.2.1⟩

/-! ### The iterator -/

attribute [local go_sem] Oper.semAt_some

set_option maxRecDepth 100000 in
set_option maxHeartbeats 8000000 in
theorem it_in (l B n₀ : Nat) (v : Value) (x y : Int) (mv : Value) (a : Option Addr) (n c : Nat) (xs : List Int) (hn : xs.length = n) (hnz : n ≤ 1000000) (J Jx : List Int → World → Prop)
    (hY : ∀ pre x W, J pre W → pre.length < xs.length → YieldAt Fence.wide 4 Try.prog l #[.int .i64 x] W fun e W' =>
      (e = .returned (.bool true) ∧ J (pre ++ [x]) W' ∧ Below n₀ W W') ∨ (e = .returned (.bool false) ∧ Jx (pre ++ [x]) W'))
    (hJ : ∀ W W' s, Below W.heap.size W W' → J s W → J s W')
    (W : World) (hB : B + 2 < W.heap.size) (h0 : W.cell? ⟨B, 0, none⟩ = some v) (h1 : W.cell? ⟨B + 1, 0, none⟩ = some (.int .i64 x)) (h2 : W.cell? ⟨B + 2, 0, none⟩ = some (.int .i64 y)) (hX : Idx W v x mv)
    (hlk : ∀ W', Below W.heap.size W W' → (Instr.lookup 86 mv (.int .i64 y) false).run Try.prog W' = .ok (.slice a n c) W') (hr : RowI W (.slice a n c) xs) (hrn : ∀ k, Value.ownBlock (.slice a n c) = some k → k < n₀) (hv : v = .pointer none ∨ ∃ h, v = ptrV h) (hJ0 : J [] W) :
    CallsIn Fence.wide 5 Try.prog 69 #[.func (.yield l) #[] #[], .pointer (some ⟨B, 0, none⟩), .pointer (some ⟨B + 1, 0, none⟩), .pointer (some ⟨B + 2, 0, none⟩)] W fun e W' => (∃ v, e = .returned v) ∧
      (J xs W' ∨ (∃ pre, pre <+: xs ∧ Jx pre W')) := by
  have mixed : Try.prog.follows Departure.mixedOrders = true := by kernel_rfl
  have HX := Lib.hid hX
  have HQ : Hid (∀ W', Below W.heap.size W W' → W'.cell? ⟨B, 0, none⟩ = some v ∧ W'.cell? ⟨B + 1, 0, none⟩ = some (.int .i64 x) ∧ W'.cell? ⟨B + 2, 0, none⟩ = some (.int .i64 y) ∧ (Instr.lookup 86 mv (.int .i64 y) false).run Try.prog W' = .ok (.slice a n c) W') := Lib.hid (fun W' hb =>
    ⟨by rw [hb.cell (p := ⟨B, 0, none⟩) (by show B < _; omega)]; exact h0, by rw [hb.cell (p := ⟨B + 1, 0, none⟩) (by show B + 1 < _; omega)]; exact h1, by rw [hb.cell (p := ⟨B + 2, 0, none⟩) hB]; exact h2, hlk W' hb⟩)
  have HR := Lib.hid hr
  have HRN := Lib.hid hrn
  have HY := Lib.hid hY
  have HJ := Lib.hid hJ
  have HJ0 := Lib.hid hJ0
  have HN := Lib.hid hn
  have HNZ := Lib.hid hnz
  clear hY hJ hB h0 h1 h2 hX hlk hr hrn hJ0 hn hnz
  refine callsIn_of_wp Try.func69 rfl trivial ?_ rfl
  simp only [Try.ntmps69, List.size_toArray, List.length_cons, List.length_nil, Nat.reduceAdd, Nat.reduceSub, Array.replicate_succ, Array.replicate_zero, List.push_toArray, List.append_toArray, List.nil_append, List.cons_append]
  refine wpIn_wide.2 ?_
  clear hv
  go_upto_region 0 with (fail)
  have hdr := below_drw W
  try simp only [List.append_eq, List.cons_append, List.nil_append]
  refine RX.wp_region_plan (fun w w' => Below w.heap.size w w') [.it (v), .it (.int .i64 x), .it (mv), .it (.int .i64 y), .it (.slice a n c), .it (.int .i64 n), .it (.int .i64 0)] (by kernel_rfl) (by kernel_rfl) (fun _ => Below.refl _ _) (fun _ _ _ => below_tr) ?_
  refine RX.seqP_value (fun _ => Below.refl _ _) _ (by first | rfl | simp) (fun w' hw' hctx => ?_) ?_
  · obtain ⟨q0, q1, q2, q3⟩ := HQ.out _ (below_tr hdr hw')
    go_simp
    try first | with_reducible rfl | simp
  simp only [Act.put, List.setIfInBounds_toArray, List.set_cons_zero, List.set_cons_succ]
  refine RX.seqP_value (fun _ => Below.refl _ _) _ (by first | rfl | simp) (fun w' hw' hctx => ?_) ?_
  · obtain ⟨q0, q1, q2, q3⟩ := HQ.out _ (below_tr hdr hw')
    go_simp
    try first | with_reducible rfl | simp
  simp only [Act.put, List.setIfInBounds_toArray, List.set_cons_zero, List.set_cons_succ]
  refine RX.seqP_call (51) #[v, .int .i64 x] (mv) (by first | rfl | simp) (fun w' hw' hctx => ?_) (fun w' hw' hctx => (HX.out _ (below_tr hdr hw')).mono (fun e w2 h => ⟨h.1, by rw [h.2]; exact Below.refl _ _⟩)) ?_
  · go_simp
  simp only [Act.put, List.setIfInBounds_toArray, List.set_cons_zero, List.set_cons_succ]
  refine RX.seqP_value (fun _ => Below.refl _ _) _ (by first | rfl | simp) (fun w' hw' hctx => ?_) ?_
  · obtain ⟨q0, q1, q2, q3⟩ := HQ.out _ (below_tr hdr hw')
    go_simp
    try first | with_reducible rfl | simp
  simp only [Act.put, List.setIfInBounds_toArray, List.set_cons_zero, List.set_cons_succ]
  refine RX.seqP_value (fun _ => Below.refl _ _) _ (by first | rfl | simp) (fun w' hw' hctx => ?_) ?_
  · obtain ⟨q0, q1, q2, q3⟩ := HQ.out _ (below_tr hdr hw')
    go_simp
    try first | with_reducible rfl | simp
  simp only [Act.put, List.setIfInBounds_toArray, List.set_cons_zero, List.set_cons_succ]
  refine RX.seqP_value (fun _ => Below.refl _ _) _ (by first | rfl | simp) (fun w' hw' hctx => by (go_simp); (try first | with_reducible rfl | simp)) ?_
  simp only [Act.put, List.setIfInBounds_toArray, List.set_cons_zero, List.set_cons_succ]
  refine RX.seqP_value (fun _ => Below.refl _ _) _ (by first | rfl | simp) (fun w' hw' hctx => by (go_simp); (try first | with_reducible rfl | simp)) ?_
  simp only [Act.put, List.setIfInBounds_toArray, List.set_cons_zero, List.set_cons_succ]
  refine RX.seqP_nil (fun v1 hR hctx _ => ?_)
  have hv1 := below_tr hdr hR
  clear hctx hR
  have HJ1 := Lib.hid (HJ.out _ _ _ hv1 HJ0.out)
  have HR1 := Lib.hid (RowF.below HR.out hv1)
  clear hv1 hdr HQ HX HR HJ0
  go_wp2_with fail
  refine (wpIn_wide (n := 5)).1 ?_
  gi_loopw [13] (fun i wr => ∃ k : Nat, i = .int .i64 k ∧ k ≤ n ∧ Hid (J (xs.take k) wr) ∧ Hid (RowI wr (.slice a n c) xs)) (fun i _ => n - (intOf i).toNat)
  case atStart => exact ⟨0, rfl, Nat.zero_le _, HJ1, HR1⟩
  case round =>
    obtain ⟨k, rfl, hkn, HJk, HRk⟩ := hrel
    clear HJ1 HR1
    by_cases hlt : k < n
    · have hltz : (k : Int) < (n : Int) := by omega
      have hk0 : (0 : Int) ≤ (k : Int) := by omega
      obtain ⟨b, c', e, hnc, hcm, hbl, hat, hfz⟩ := HRk.out.at (j := k) (by rw [HN.out]; exact hlt)
      rw [HN.out] at e
      cases e
      have ck := hat k (by rw [HN.out]; exact hlt)
      obtain ⟨u, hu⟩ : ∃ u, xs.getD k 0 = u := ⟨_, rfl⟩
      rw [hu] at ck
      obtain ⟨fn, tmps, assign, body, hy, hR⟩ := HY.out (xs.take k) u wr HJk.out (by rw [List.length_take]; have := HN.out; omega)
      have HLT := Lib.hid hlt
      have HU := Lib.hid hu
      have hbn := HRN.out b rfl
      have HBN := Lib.hid hbn
      clear hat hfz hnc hcm hkn hlt hu hbn
      have HNK := Lib.hid (And.intro HN.out HNZ.out)
      gi_wp2_with fail
      refine hR.mono ?_
      rintro e W3 (⟨rfl, hJ3, hk3⟩ | ⟨rfl, hJx3⟩)
      · have HR3 : Hid (RowI W3 (.slice (some ⟨b, 0, none⟩) n c) xs) := Lib.hid (RowF.stay (G := fun k => k < n₀) HRk.out ⟨hk3.size, fun j hj hG => hk3.block j hG⟩ (fun j hj => by have : b = j := Option.some.inj hj; have := HBN.out; omega))
        have HJ3 : Hid (J (xs.take (k + 1)) W3) := Lib.hid (by
          have hkl : k < xs.length := by have := HN.out; have := HLT.out; omega
          rw [List.take_add_one, List.getElem?_eq_getElem hkl]
          have e1 : xs[k] = u := by have := HU.out; simpa [hkl] using this
          rw [e1]
          exact hJ3)
        have HWI : Hid (wrap64 ((k : Int) + 1) = (k : Int) + 1) := Lib.hid (wrOk (by have := HLT.out; have := HNZ.out; omega))
        clear hJ3 hk3 hy hR ck HJk HRk
        gi_wp2_with fail
        go_roundw
        case rel => exact ⟨k + 1, by rw [HWI.out]; rfl, HLT.out, HJ3, HR3⟩
        case measure => rw [HWI.out]; have := HLT.out; simp [intOf]; omega
      · clear hy hR ck HJk HRk
        gi_wp2_with fail
        refine bodyPost_ret (results_none rfl _ _ _) rfl ?_
        refine ⟨⟨_, rfl⟩, .inr ⟨xs.take k ++ [u], ?_, hJx3⟩⟩
        have hkl : k < xs.length := by have := HN.out; have := HLT.out; omega
        have e1 : xs[k] = u := by have := HU.out; simpa [hkl] using this
        have hp := List.take_prefix (k + 1) xs
        rw [List.take_add_one, List.getElem?_eq_getElem hkl, e1] at hp
        exact hp
    · have hltz : ¬ (k : Int) < (n : Int) := by omega
      obtain rfl : n = k := by omega
      have HJe : Hid (J xs wr) := Lib.hid (by have := HJk.out; rwa [List.take_of_length_le (by rw [HN.out]; exact Nat.le_refl _)] at this)
      clear HJk
      gi_wp2_with fail
      go_end0
      exact ⟨⟨_, rfl⟩, .inl HJe.out⟩

theorem slotsOf_in (n : Nat) (v : Value) (hv : v = .pointer none ∨ ∃ h, v = ptrV h) (x y : Int) (w : World) : CallsIn Fence.wide n Try.prog 48 #[v, .int .i64 x, .int .i64 y] w fun e w' =>
    e = .returned (.func (.func 69) #[] #[.pointer (some ⟨w.heap.size, 0, none⟩), .pointer (some ⟨w.heap.size + 1, 0, none⟩), .pointer (some ⟨w.heap.size + 2, 0, none⟩)]) ∧ w' = ((w.alloc (.cells #[v] 22)).alloc (.cells #[.int .i64 x] 3)).alloc (.cells #[.int .i64 y] 3) := by
  refine callsIn_wide.2 ?_
  rcases hv with rfl | ⟨h, rfl⟩
  · go_enter Try.func48, Try.ntmps48
    go_wp2_with fail
    go_ret
    exact ⟨rfl, rfl⟩
  · unfold ptrV
    go_enter Try.func48, Try.ntmps48
    go_wp2_with fail
    go_ret
    exact ⟨rfl, rfl⟩

theorem it_stops (B n₀ : Nat) (v : Value) (x y : Int) (mv : Value) (a : Option Addr) (n c : Nat) (xs : List Int) (hn : xs.length = n) (hnz : n ≤ 1000000) (w : World) (hB : B + 2 < w.heap.size) (h0 : w.cell? ⟨B, 0, none⟩ = some v) (h1 : w.cell? ⟨B + 1, 0, none⟩ = some (.int .i64 x)) (h2 : w.cell? ⟨B + 2, 0, none⟩ = some (.int .i64 y)) (hX : Idx w v x mv)
    (hlk : ∀ W', Below w.heap.size w W' → (Instr.lookup 86 mv (.int .i64 y) false).run Try.prog W' = .ok (.slice a n c) W') (hr : RowI w (.slice a n c) xs) (hrn : ∀ k, Value.ownBlock (.slice a n c) = some k → k < n₀) (hv : v = .pointer none ∨ ∃ h, v = ptrV h) :
    SeqStopsK Fence.wide 5 Try.prog 69 #[.pointer (some ⟨B, 0, none⟩), .pointer (some ⟨B + 1, 0, none⟩), .pointer (some ⟨B + 2, 0, none⟩)] (fun x : Int => #[Value.int .i64 x]) (Below n₀) (fun ys => ys = xs) (fun pre => pre <+: xs) xs.length w := fun l J Jx W hW hJ _ hY hJ0 => by
  refine (it_in l B n₀ v x y mv a n c xs hn hnz J Jx hY (fun W1 W2 s hb hs => hJ s W1 W2 none hs (grown_of_below hb) (fun r e => by cases e)) W (Nat.lt_of_lt_of_le hB hW.size)
    (by rw [hW.cell (p := ⟨B, 0, none⟩) (by show B < _; omega)]; exact h0) (by rw [hW.cell (p := ⟨B + 1, 0, none⟩) (by show B + 1 < _; omega)]; exact h1) (by rw [hW.cell (p := ⟨B + 2, 0, none⟩) hB]; exact h2) (hX.below hW)
    (fun W' hb => hlk W' (below_tr hW hb)) (hr.below hW) hrn hv hJ0).mono ?_
  rintro e W' ⟨h1, h2 | ⟨pre, h3, h4⟩⟩
  · exact ⟨h1, .inl ⟨xs, rfl, h2⟩⟩
  · exact ⟨h1, .inr ⟨pre, h3, h4⟩⟩

set_option maxRecDepth 100000 in
set_option maxHeartbeats 8000000 in
/-- Slots: the row's slots, in a list of its own. -/
theorem slots_in (v : Value) (x y : Int) (mv : Value) (a : Option Addr) (n c : Nat) (xs : List Int) (hn : xs.length = n) (hnz : n ≤ 1000000) (w : World) (hX : Idx w v x mv)
    (hlk : ∀ W', Below w.heap.size w W' → (Instr.lookup 86 mv (.int .i64 y) false).run Try.prog W' = .ok (.slice a n c) W') (hr : RowI w (.slice a n c) xs) (hv : v = .pointer none ∨ ∃ h, v = ptrV h) :
    CallsIn Fence.wide 6 Try.prog 17 #[v, .int .i64 x, .int .i64 y] w fun e W' => ∃ s, e = .returned s ∧ W'.ownsRow w.heap.size 3 1 s xs.length (xs.map (Value.int .i64)) ∧ Below w.heap.size w W' := by
  obtain ⟨i0, hi, hz0, hz1, hz2⟩ := info_parts info_i
  have hrl := RowF.lt hr
  refine callsIn_of_wp_marks Try.func17 rfl trivial ?_ rfl
  simp only [Try.ntmps17, List.size_toArray, List.length_cons, List.length_nil, Nat.reduceAdd, Nat.reduceSub, Array.replicate_succ, Array.replicate_zero, List.push_toArray, List.append_toArray, List.nil_append, List.cons_append]
  obtain ⟨W4, hW4⟩ : ∃ W4, (((w.alloc (.cells #[.slice none 0 0] 36)).alloc (.cells #[v] 22)).alloc (.cells #[.int .i64 x] 3)).alloc (.cells #[.int .i64 y] 3) = W4 := ⟨_, rfl⟩
  have bO : Go.Boxed W4 w.heap.size 36 (.slice none 0 0) := by rw [← hW4]; exact (((Go.Boxed.new w 36 (.slice none 0 0)).alloc _).alloc _).alloc _
  have hs1 : (w.alloc (.cells #[.slice none 0 0] 36)).heap.size = w.heap.size + 1 := by simp
  have b0 : W4.cell? ⟨w.heap.size + 1, 0, none⟩ = some v := by rw [← hW4, ← hs1]; exact (((Go.Boxed.new (w.alloc (.cells #[.slice none 0 0] 36)) 22 v).alloc _).alloc _).cell
  have hs2 : ((w.alloc (.cells #[.slice none 0 0] 36)).alloc (.cells #[v] 22)).heap.size = w.heap.size + 1 + 1 := by simp
  have b1 : W4.cell? ⟨w.heap.size + 1 + 1, 0, none⟩ = some (.int .i64 x) := by rw [← hW4, ← hs2]; exact ((Go.Boxed.new ((w.alloc (.cells #[.slice none 0 0] 36)).alloc (.cells #[v] 22)) 3 (.int .i64 x)).alloc _).cell
  have hs3 : (((w.alloc (.cells #[.slice none 0 0] 36)).alloc (.cells #[v] 22)).alloc (.cells #[.int .i64 x] 3)).heap.size = w.heap.size + 1 + 2 := by simp
  have b2 : W4.cell? ⟨w.heap.size + 1 + 2, 0, none⟩ = some (.int .i64 y) := by rw [← hW4, ← hs3]; exact (Go.Boxed.new (((w.alloc (.cells #[.slice none 0 0] 36)).alloc (.cells #[v] 22)).alloc (.cells #[.int .i64 x] 3)) 3 (.int .i64 y)).cell
  have hsz4 : W4.heap.size = w.heap.size + 4 := by rw [← hW4]; simp
  have hB0 : Below w.heap.size w W4 := by rw [← hW4]; exact ((((Below.refl _ w).alloc (Nat.le_refl _) _).alloc (by simp) _).alloc (by simp; omega) _).alloc (by simp; omega) _
  have HW4 := Lib.hid hW4
  have HB0 := Lib.hid hB0
  have HBO := Lib.hid bO
  have HST := Lib.hid (it_stops (w.heap.size + 1) w.heap.size v x y mv a n c xs hn hnz W4 (by omega) b0 b1 b2 (hX.below hB0) (fun W' hb => hlk W' (below_tr hB0 hb)) (hr.below hB0) hrl hv)
  have HSZ := Lib.hid hsz4
  have HN := Lib.hid (And.intro hn hnz)
  clear hW4 bO hs1 b0 hs2 b1 hs3 b2 hsz4 hB0 hX hlk hr hrl hn hnz
  gi_wp2_with fail
  refine ⟨trivial, (slotsOf_in _ v hv x y _).mono ?_⟩
  rintro e w' ⟨rfl, rfl⟩
  gi_wp2_with fail
  rw [HW4.out]
  try rw [World.size_alloc]
  refine wpIn_rangeFunc_ownG rfl (by decide) (gf := 69) (lb := #[.pointer (some ⟨w.heap.size + 1, 0, none⟩), .pointer (some ⟨w.heap.size + 1 + 1, 0, none⟩), .pointer (some ⟨w.heap.size + 1 + 2, 0, none⟩)]) rfl trivial (enters_of Try.func69 (by kernel_rfl) rfl)
    HST.out belowK_t (belowK_b (by have := HSZ.out; omega)) (Below.refl _ _) (fun _ => rfl)
    (fun pre W => (∃ s, Go.Boxed W w.heap.size 36 s ∧ W.ownsRow w.heap.size 3 1 s pre.length (pre.map (Value.int .i64)) ∧ True) ∧ Below w.heap.size w W)
    (fun _ _ _ => False)
    (OwnFrom.and (Own.from (holdsRow_own w.heap.size w.heap.size 36 3 1 (fun pre : List Int => pre.length) (fun pre => pre.map (Value.int .i64)) (fun pre s => True)) _) (ownFrom_below (Nat.le_refl _) (by have := HSZ.out; omega)))
    (fun _ _ _ _ _ hs _ _ => hs)
    ⟨⟨_, HBO.out, World.ownsRow_nil _ _ _ _, trivial⟩, HB0.out⟩
    (fun u => { tmps := #[v, .int .i64 x, .int .i64 y, undef, undef, undef, .slice none 0 0, .pointer (some ⟨w.heap.size, 0, none⟩), .int .i64 u, v, .int .i64 x, .int .i64 y, .func (.func 69) #[] #[.pointer (some ⟨w.heap.size + 1, 0, none⟩), .pointer (some ⟨w.heap.size + 1 + 1, 0, none⟩), .pointer (some ⟨w.heap.size + 1 + 2, 0, none⟩)], .int .i64 u, undef, undef, undef, undef, undef], defers := [] }) ?assign ?body ?done ?stop
  case assign =>
    intro l u W K hK
    gi_wp2
    exact hK
  case body =>
    rintro l pre u W ⟨⟨s, hs, hrow, -⟩, hB⟩ hlt
    have hc := hs.cell
    have hpl : pre.length < 1000000 := by have := HN.out; omega
    gi_wp2_with (gi_at_builtin; refine wpListIn_append_own _ rfl _ _ 36 rfl w.heap.size 3 i0 (.int .i64 0) 1 8 Try.underlying36 hi hz0 hz1 hz2 rfl (by decide) _ _ _ rfl (hrow.alloc _) ⟨W.heap.size, 0, none⟩ 1 1 [.int .i64 u] rfl rfl (cell_one_new _ _ _) (by simp [Value.oneCell']) (by unfold maxLen; omega) (by omega) (by have := hB.size; simp; omega) ?_; intro v' w1 hown' hgrow _; obtain ⟨g', cap', rfl⟩ := ownsRow_succ hown'; obtain ⟨hv1, hv2, hr2, hk2, hb2⟩ := hs.appended (by decide) hrow hB.size (Nat.le_refl _) hown' hgrow; have hc1 := hv1.cell; have hf1 := hv1.frozen)
    exact ⟨hk2.from _, hb2, ⟨_, hv2, by simpa using hr2, trivial⟩, hB.trans hb2⟩
  case done =>
    rintro D ys W hD rfl ⟨⟨s, hs, hrow, -⟩, hB⟩ hK
    have hc := hs.cell
    gi_wp2
    refine ⟨by simp, .inl ⟨_, _, rfl, run_takeDeferred hK, ?_⟩⟩
    exact ⟨_, results_tmp rfl _ _ _, s, rfl, ownsRow_putObj hrow _ hK rfl, hB.trans (belowK_b (w := w) (Nat.le_refl _) W D _ _ (by have := HSZ.out; omega) hK rfl rfl)⟩
  case stop =>
    rintro D c pre W _ _ h _
    exact h.elim

/-- Slots, whatever v is, if index of it is. -/
theorem slots_is (v : Value) (x y : Int) (mv : Value) (ix : Int → List Nat) (z : Nat) (hz : z ≤ 1000000) (w : World) (hy : I64 y) (hX : Idx w v x mv) (hI : IdxAt w z mv ix) (hv : v = .pointer none ∨ ∃ h, v = ptrV h) (hlen : ∀ y, (ix y).length ≤ z) :
    Calls Try.prog 17 #[v, .int .i64 x, .int .i64 y] w fun e w' => ∃ s, e = .returned s ∧ RowI w' s (natI (ix y)) ∧ (∀ k, s.ownBlock = some k → w.heap.size ≤ k) ∧ Below w.heap.size w w' := by
  obtain ⟨a, c, hlk, hr⟩ := hI.look hy
  refine ((callsIn_wide (n := 6)).1 (slots_in v x y mv a _ c (natI (ix y)) (natI_len _) (Nat.le_trans (hlen y) hz) w hX hlk hr hv)).mono ?_
  rintro e w' ⟨s, rfl, h1, h2⟩
  exact ⟨s, rfl, RowI.of_own h1, own_ge h1, h2⟩

end Go.Proofs.Ytkedkeelbbfmkaa
