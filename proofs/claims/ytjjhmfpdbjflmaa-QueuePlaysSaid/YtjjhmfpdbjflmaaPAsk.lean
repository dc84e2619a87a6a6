/-
  Ask and Drop: walked (stage 14).
-/
import Derived.Test.YtjjhmfpdbjflmaaPSet
namespace Go.Proofs.Ytjjhmfpdbjflmaa.RX
section
variable {P : Program} {md : Region.Mode} {ops : Array Oper} {Q : Exit → Act → World → Prop} {S : World → Prop}
/-- The next one is an append. -/
theorem anyH_app {i : Nat} {o : Oper} {fuel : Nat} {listed : Array Bool} {a : Act} {w w' : World} {v u v' : Value} (s x : Operand) (t t' : TypeId) (hr : Region.ready md ops listed = [i]) (ho : ops[i]? = some o) (hw : Region.wanted o (yielded ops a.tmps) = true)
    (hop : o.op = .call { callee := .builtin .append, args := #[s, x], argTypes := #[t, t'] }) (hs : a.eval s = v) (hx : a.eval x = u) (hrun : (Builtin.append_ #[t, t'] o.type #[v, u]).run P w = .ok v' w') (hS : S w')
    (h : wpAnyH P md ops Q S fuel (listed.setIfInBounds i true) (a.put o.dst v') w') : wpAnyH P md ops Q S (fuel + 1) listed a w :=
  anyH_val hr ho hw (by simp [execOp, hop, resolve, invoke, builtin, hs, hx, hrun, Result.andThen]) hS h

/-- The next one writes. -/
theorem anyH_skip {i : Nat} {o : Oper} {fuel : Nat} {listed : Array Bool} {a : Act} {w w' : World} (hr : Region.ready md ops listed = [i]) (ho : ops[i]? = some o) (hd : o.dst = none) (hw : Region.wanted o (yielded ops a.tmps) = true)
    (hrun : (execOp a.eval o).run P w = .ok .skip w') (hS : S w') (h : wpAnyH P md ops Q S fuel (listed.setIfInBounds i true) a w') : wpAnyH P md ops Q S (fuel + 1) listed a w := by
  refine wpAnyH_all hr (by simp) fun j hj => ?_
  obtain rfl : j = i := by simpa using hj
  unfold wpOp
  simp only [ho, hw, if_true]
  left
  unfold Oper.wp
  rw [hrun]
  have e : a.put o.dst undef = a := by rw [hd]; rfl
  refine ⟨hS, ?_⟩
  rw [e]
  exact h
end
end Go.Proofs.Ytjjhmfpdbjflmaa.RX
namespace Go.Proofs.Ytjjhmfpdbjflmaa
open Go.RowKit
set_option linter.unusedVariables false

/-- One request more behind a row of them. -/
theorem row_snocQ {W : World} {s : Value} {l : PL} (h : RowQ W s l) (p : Int × Int) (hn : l.length + 1 ≤ 1000000) :
    ∃ a' c' W6, (∀ ty, (Builtin.append_ #[56, 56] ty #[s, .slice (some ⟨W.heap.size, 0, none⟩) 1 1]).run Try.prog (W.alloc (.cells #[.int .i64 p.1, .int .u8 p.2] 65)) = .ok (.slice a' (l.length + 1) c') W6) ∧ RowQ W6 (.slice a' (l.length + 1) c') (l ++ [p]) ∧ Touch (fun k => s.ownBlock = some k) W W6 ∧ ∀ k, Value.ownBlock (.slice a' (l.length + 1) c') = some k → s.ownBlock = some k ∨ W.heap.size ≤ k := by
  obtain ⟨i0, hi, hz0, hz1, hz2⟩ := info_parts info_q
  have hal := Below.allocs W (.cells #[.int .i64 p.1, .int .u8 p.2] 65)
  have hlit := Lit.new W 65 [.int .i64 p.1, .int .u8 p.2]
  obtain ⟨s', W', hrun, hrow, hg, hown⟩ := (RowF.below h hal).append (P := Try.prog) 56 56 i0 _ 16 Try.underlying56 hi hz0 hz1 hz2 rfl (by decide) (by decide) (b := W.heap.size) (k := 1) (c := 1) (q := fun _ => rqC p)
    (fun j hj o v hv => by
      obtain rfl : j = 0 := by omega
      rw [Nat.zero_mul, Nat.zero_add]
      exact hlit.cell hv) (fun _ _ => rfl) (fun _ _ v hv => by
      simp only [rqC, List.mem_cons, List.not_mem_nil, or_false] at hv
      rcases hv with rfl | rfl <;> rfl) (by omega)
  obtain ⟨a', c', e, _, _⟩ := hrow.form
  subst e
  refine ⟨a', c', W', fun _ => hrun, ?_, (Touch.of_below hal).trans (Touch.grown (F := fun k => s.ownBlock = some k) hg (fun k hk => hk)) (fun _ _ h => h), fun k hk => ?_⟩
  · unfold RowQ
    rw [List.length_append, List.length_singleton]
    refine hrow.congr fun j hj => ?_
    by_cases hjl : j < l.length
    · simp only [if_pos hjl]
      simp [List.getElem?_append_left hjl, hjl]
    · have e : j = l.length := by omega
      subst e
      simp
  · rcases hown with e | e
    · left; rw [← e]; exact hk
    · rw [e] at hk
      right
      have := Option.some.inj hk
      rw [World.size_alloc] at this
      omega

set_option maxRecDepth 100000 in
set_option maxHeartbeats 8000000 in
theorem ask_nil (x m : Int) (w : World) : Calls Try.prog 16 #[.pointer none, .int .i64 x, .int .u8 m] w fun e w' => e = .returned (.tuple #[.bool false, .int .i64 2]) ∧ Below w.heap.size w w' := by
  go_enter Try.func16, Try.ntmps16
  go_wp2_with fail
  exact bodyPost_ret (v := .tuple #[.bool false, .int .i64 2]) (by first | (simp [results, Try.results16, go_sem]; done) | (simp [results, Try.results16, go_sem]; rfl)) rfl ⟨rfl, Below.refl _ _⟩

set_option maxRecDepth 100000 in
set_option maxHeartbeats 8000000 in
theorem ask_low (x m : Int) (hx : x < 1) (h : Nat) (w : World) : Calls Try.prog 16 #[.pointer (some ⟨h, 0, none⟩), .int .i64 x, .int .u8 m] w fun e w' => e = .returned (.tuple #[.bool false, .int .i64 1]) ∧ Below w.heap.size w w' := by
  go_enter Try.func16, Try.ntmps16
  go_wp2_with fail
  exact bodyPost_ret (v := .tuple #[.bool false, .int .i64 1]) (by first | (simp [results, Try.results16, go_sem]; done) | (simp [results, Try.results16, go_sem]; rfl)) rfl ⟨rfl, Below.refl _ _⟩

set_option maxRecDepth 100000 in
set_option maxHeartbeats 8000000 in
theorem ask_mode (w : World) (h b : Nat) (s : Value) (n : Nat) (A : Lk) (x m : Int) (hx : ¬ x < 1) (hm : U8 m) (hb : mayB A.c m = false) (H : LkM w h b s n A) : Calls Try.prog 16 #[.pointer (some ⟨h, 0, none⟩), .int .i64 x, .int .u8 m] w fun e w' => e = .returned (.tuple #[.bool false, .int .i64 1]) ∧ Below w.heap.size w w' := by
  have HCON := Lib.hid (may_is A.c m hm w false hb)
  obtain ⟨d0, d1, d2, dl⟩ := H.cells
  clear H hm hb
  go_enter Try.func16, Try.ntmps16
  go_wp2_with fail
  refine HCON.out.mono ?_
  rintro e w1 ⟨rfl, hb1⟩
  have HB := Lib.hid hb1
  clear hb1 HCON
  go_wp2_with fail
  exact bodyPost_ret (v := .tuple #[.bool false, .int .i64 1]) (by first | (simp [results, Try.results16, go_sem]; done) | (simp [results, Try.results16, go_sem]; rfl)) rfl ⟨rfl, HB.out⟩

set_option maxRecDepth 100000 in
set_option maxHeartbeats 8000000 in
theorem ask_cov (w : World) (h b : Nat) (s : Value) (n : Nat) (A : Lk) (x m : Int) (hok : Ok0 A) (hx1 : ¬ x < 1) (hx : I64 x) (hm : mayB A.c m = true) (H : LkM w h b s n A) (hcv : covB A.c (heldL A.hd x) m = true) : Calls Try.prog 16 #[.pointer (some ⟨h, 0, none⟩), .int .i64 x, .int .u8 m] w fun e w' => e = .returned (.tuple #[.bool true, .int .i64 0]) ∧ Below w.heap.size w w' := by
  have mixed : Try.prog.follows Departure.mixedOrders = true := by kernel_rfl
  have HCON := Lib.hid (may_is A.c m (may_u8 hm) w true hm)
  obtain ⟨d0, d1, d2, dl⟩ := H.cells
  obtain ⟨hv, hhv⟩ : ∃ hv, heldL A.hd x = hv := ⟨_, rfl⟩
  have HHV := Lib.hid hhv
  have HL0 := Lib.hid H
  have HX := Lib.hid hx
  have HM : Hid (U8 m) := Lib.hid (may_u8 hm)
  have HMC : Hid (mayB A.c m = true) := Lib.hid hm
  have HU : Hid (U16 hv) := Lib.hid (by rw [← hhv]; exact held_u16 hok x)
  have HOK := Lib.hid hok
  rw [hhv] at hcv
  have HCV := Lib.hid hcv
  clear H hx hm hok hhv hcv
  go_enter Try.func16, Try.ntmps16
  go_wp2_with fail
  refine HCON.out.mono ?_
  rintro e w1 ⟨rfl, hb1⟩
  have HB1 := Lib.hid hb1
  have HL1 := Lib.hid (HL0.out.below hb1)
  clear hb1 HCON HL0 d0 d1 d2 dl
  go_upto_region 5 with (fail)
  have hdr := below_drw w1
  try simp only [List.append_eq, List.cons_append, List.nil_append]
  refine RX.wp_region_plan (fun w w' => Below w.heap.size w w') [.it (.pointer (some ⟨h, 0, none⟩)), .it (.pointer (some ⟨h, 0, none⟩)), .it (.pointer (some ⟨h, 0, none⟩)), .it (.int .u8 A.c), .it (.pointer (some ⟨h, 0, none⟩)), .it (.pointer (some ⟨h, 0, none⟩)), .it (.pointer (some ⟨h, 1, none⟩)), .it (.map (some b)), .it (.int .i64 x), .it (.int .u16 hv), .it (.int .u8 m), .it (.bool true), .it (.bool true)] (by kernel_rfl) (by kernel_rfl) (fun _ => Below.refl _ _) (fun _ _ _ => below_tr) ?_
  refine RX.seqP_value (fun _ => Below.refl _ _) _ (by first | rfl | simp) (fun w' hw' hctx => by (go_simp); (try first | with_reducible rfl | simp)) ?_
  simp only [Act.put, List.setIfInBounds_toArray, List.set_cons_zero, List.set_cons_succ]
  refine RX.seqP_value (fun _ => Below.refl _ _) _ (by first | rfl | simp) (fun w' hw' hctx => by (go_simp); (try first | with_reducible rfl | simp)) ?_
  simp only [Act.put, List.setIfInBounds_toArray, List.set_cons_zero, List.set_cons_succ]
  refine RX.seqP_value (fun _ => Below.refl _ _) _ (by first | rfl | simp) (fun w' hw' hctx => by (go_simp); (try first | with_reducible rfl | simp)) ?_
  simp only [Act.put, List.setIfInBounds_toArray, List.set_cons_zero, List.set_cons_succ]
  refine RX.seqP_value (fun _ => Below.refl _ _) _ (by first | rfl | simp) (fun w' hw' hctx => ?_) ?_
  · have q := HL1.out.below (below_tr hdr hw')
    obtain ⟨d0, d1, d2, dl⟩ := q.cells
    go_simp
    try first | with_reducible rfl | simp
  simp only [Act.put, List.setIfInBounds_toArray, List.set_cons_zero, List.set_cons_succ]
  refine RX.seqP_value (fun _ => Below.refl _ _) _ (by first | rfl | simp) (fun w' hw' hctx => by (go_simp); (try first | with_reducible rfl | simp)) ?_
  simp only [Act.put, List.setIfInBounds_toArray, List.set_cons_zero, List.set_cons_succ]
  refine RX.seqP_value (fun _ => Below.refl _ _) _ (by first | rfl | simp) (fun w' hw' hctx => by (go_simp); (try first | with_reducible rfl | simp)) ?_
  simp only [Act.put, List.setIfInBounds_toArray, List.set_cons_zero, List.set_cons_succ]
  refine RX.seqP_value (fun _ => Below.refl _ _) _ (by first | rfl | simp) (fun w' hw' hctx => by (go_simp); (try first | with_reducible rfl | simp)) ?_
  simp only [Act.put, List.setIfInBounds_toArray, List.set_cons_zero, List.set_cons_succ]
  refine RX.seqP_value (fun _ => Below.refl _ _) _ (by first | rfl | simp) (fun w' hw' hctx => ?_) ?_
  · have q := HL1.out.below (below_tr hdr hw')
    obtain ⟨d0, d1, d2, dl⟩ := q.cells
    go_simp
    try first | with_reducible rfl | simp
  simp only [Act.put, List.setIfInBounds_toArray, List.set_cons_zero, List.set_cons_succ]
  refine RX.seqP_value (fun _ => Below.refl _ _) _ (by first | rfl | simp) (fun w' hw' hctx => by (go_simp); (try first | with_reducible rfl | simp)) ?_
  simp only [Act.put, List.setIfInBounds_toArray, List.set_cons_zero, List.set_cons_succ]
  refine RX.seqP_value (fun _ => Below.refl _ _) _ (by first | rfl | simp) (fun w' hw' hctx => ?_) ?_
  · have q := (HL1.out.below (below_tr hdr hw')).look HX.out
    rw [HHV.out] at q
    go_simp
    try first | with_reducible rfl | simp
  simp only [Act.put, List.setIfInBounds_toArray, List.set_cons_zero, List.set_cons_succ]
  refine RX.seqP_value (fun _ => Below.refl _ _) _ (by first | rfl | simp) (fun w' hw' hctx => by (go_simp); (try first | with_reducible rfl | simp)) ?_
  simp only [Act.put, List.setIfInBounds_toArray, List.set_cons_zero, List.set_cons_succ]
  refine RX.seqP_call (27) #[.int .u8 A.c, .int .u16 hv, .int .u8 m] (.bool true) (by first | rfl | simp) (fun w' hw' hctx => ?_) (fun w' hw' hctx => covers_is A.c hv m HM.out HU.out w' true HCV.out) ?_
  · go_simp
  simp only [Act.put, List.setIfInBounds_toArray, List.set_cons_zero, List.set_cons_succ]
  refine RX.seqP_value (fun _ => Below.refl _ _) _ (by first | rfl | simp) (fun w' hw' hctx => by (go_simp); (try first | with_reducible rfl | simp)) ?_
  simp only [Act.put, List.setIfInBounds_toArray, List.set_cons_zero, List.set_cons_succ]
  refine RX.seqP_nil (fun w2 hR hctx _ => ?_)
  have hb2 := below_tr hdr hR
  clear hctx hR
  have HB2 := Lib.hid (below_tr HB1.out hb2)
  clear hb2 hdr HL1 HB1
  go_wp2_with fail
  exact bodyPost_ret (v := .tuple #[.bool true, .int .i64 0]) (by first | (simp [results, Try.results16, go_sem]; done) | (simp [results, Try.results16, go_sem]; rfl)) rfl ⟨rfl, HB2.out⟩

set_option maxRecDepth 100000 in
set_option maxHeartbeats 8000000 in
theorem ask_wts (w : World) (h b : Nat) (s : Value) (n : Nat) (A : Lk) (x m : Int) (hok : Ok0 A) (hx1 : ¬ x < 1) (hx : I64 x) (hm : mayB A.c m = true) (H : LkM w h b s n A) (hcv : covB A.c (heldL A.hd x) m = false) (hnw : A.wt.length ≤ 100000) (hin : x ∈ fsts A.wt) : Calls Try.prog 16 #[.pointer (some ⟨h, 0, none⟩), .int .i64 x, .int .u8 m] w fun e w' => e = .returned (.tuple #[.bool false, .int .i64 0]) ∧ Below w.heap.size w w' := by
  obtain ⟨i, hi⟩ : ∃ i, idxL A.wt x = i := ⟨_, rfl⟩
  have hpl : placeI A.wt x = (i : Int) := by unfold placeI; rw [if_pos hin, hi]
  have hi0 : ¬ (i : Int) < 0 := by omega
  clear hi hin
  have mixed : Try.prog.follows Departure.mixedOrders = true := by kernel_rfl
  have HCON := Lib.hid (may_is A.c m (may_u8 hm) w true hm)
  obtain ⟨d0, d1, d2, dl⟩ := H.cells
  obtain ⟨hv, hhv⟩ : ∃ hv, heldL A.hd x = hv := ⟨_, rfl⟩
  have HHV := Lib.hid hhv
  have HL0 := Lib.hid H
  have HX := Lib.hid hx
  have HM : Hid (U8 m) := Lib.hid (may_u8 hm)
  have HMC : Hid (mayB A.c m = true) := Lib.hid hm
  have HU : Hid (U16 hv) := Lib.hid (by rw [← hhv]; exact held_u16 hok x)
  have HOK := Lib.hid hok
  rw [hhv] at hcv
  have HCV := Lib.hid hcv
  clear H hx hm hok hhv hcv
  go_enter Try.func16, Try.ntmps16
  go_wp2_with fail
  refine HCON.out.mono ?_
  rintro e w1 ⟨rfl, hb1⟩
  have HB1 := Lib.hid hb1
  have HL1 := Lib.hid (HL0.out.below hb1)
  clear hb1 HCON HL0 d0 d1 d2 dl
  go_upto_region 5 with (fail)
  have hdr := below_drw w1
  try simp only [List.append_eq, List.cons_append, List.nil_append]
  refine RX.wp_region_plan (fun w w' => Below w.heap.size w w') [.it (.pointer (some ⟨h, 0, none⟩)), .it (.pointer (some ⟨h, 0, none⟩)), .it (.pointer (some ⟨h, 0, none⟩)), .it (.int .u8 A.c), .it (.pointer (some ⟨h, 0, none⟩)), .it (.pointer (some ⟨h, 0, none⟩)), .it (.pointer (some ⟨h, 1, none⟩)), .it (.map (some b)), .it (.int .i64 x), .it (.int .u16 hv), .it (.int .u8 m), .it (.bool false), .it (.bool false)] (by kernel_rfl) (by kernel_rfl) (fun _ => Below.refl _ _) (fun _ _ _ => below_tr) ?_
  refine RX.seqP_value (fun _ => Below.refl _ _) _ (by first | rfl | simp) (fun w' hw' hctx => by (go_simp); (try first | with_reducible rfl | simp)) ?_
  simp only [Act.put, List.setIfInBounds_toArray, List.set_cons_zero, List.set_cons_succ]
  refine RX.seqP_value (fun _ => Below.refl _ _) _ (by first | rfl | simp) (fun w' hw' hctx => by (go_simp); (try first | with_reducible rfl | simp)) ?_
  simp only [Act.put, List.setIfInBounds_toArray, List.set_cons_zero, List.set_cons_succ]
  refine RX.seqP_value (fun _ => Below.refl _ _) _ (by first | rfl | simp) (fun w' hw' hctx => by (go_simp); (try first | with_reducible rfl | simp)) ?_
  simp only [Act.put, List.setIfInBounds_toArray, List.set_cons_zero, List.set_cons_succ]
  refine RX.seqP_value (fun _ => Below.refl _ _) _ (by first | rfl | simp) (fun w' hw' hctx => ?_) ?_
  · have q := HL1.out.below (below_tr hdr hw')
    obtain ⟨d0, d1, d2, dl⟩ := q.cells
    go_simp
    try first | with_reducible rfl | simp
  simp only [Act.put, List.setIfInBounds_toArray, List.set_cons_zero, List.set_cons_succ]
  refine RX.seqP_value (fun _ => Below.refl _ _) _ (by first | rfl | simp) (fun w' hw' hctx => by (go_simp); (try first | with_reducible rfl | simp)) ?_
  simp only [Act.put, List.setIfInBounds_toArray, List.set_cons_zero, List.set_cons_succ]
  refine RX.seqP_value (fun _ => Below.refl _ _) _ (by first | rfl | simp) (fun w' hw' hctx => by (go_simp); (try first | with_reducible rfl | simp)) ?_
  simp only [Act.put, List.setIfInBounds_toArray, List.set_cons_zero, List.set_cons_succ]
  refine RX.seqP_value (fun _ => Below.refl _ _) _ (by first | rfl | simp) (fun w' hw' hctx => by (go_simp); (try first | with_reducible rfl | simp)) ?_
  simp only [Act.put, List.setIfInBounds_toArray, List.set_cons_zero, List.set_cons_succ]
  refine RX.seqP_value (fun _ => Below.refl _ _) _ (by first | rfl | simp) (fun w' hw' hctx => ?_) ?_
  · have q := HL1.out.below (below_tr hdr hw')
    obtain ⟨d0, d1, d2, dl⟩ := q.cells
    go_simp
    try first | with_reducible rfl | simp
  simp only [Act.put, List.setIfInBounds_toArray, List.set_cons_zero, List.set_cons_succ]
  refine RX.seqP_value (fun _ => Below.refl _ _) _ (by first | rfl | simp) (fun w' hw' hctx => by (go_simp); (try first | with_reducible rfl | simp)) ?_
  simp only [Act.put, List.setIfInBounds_toArray, List.set_cons_zero, List.set_cons_succ]
  refine RX.seqP_value (fun _ => Below.refl _ _) _ (by first | rfl | simp) (fun w' hw' hctx => ?_) ?_
  · have q := (HL1.out.below (below_tr hdr hw')).look HX.out
    rw [HHV.out] at q
    go_simp
    try first | with_reducible rfl | simp
  simp only [Act.put, List.setIfInBounds_toArray, List.set_cons_zero, List.set_cons_succ]
  refine RX.seqP_value (fun _ => Below.refl _ _) _ (by first | rfl | simp) (fun w' hw' hctx => by (go_simp); (try first | with_reducible rfl | simp)) ?_
  simp only [Act.put, List.setIfInBounds_toArray, List.set_cons_zero, List.set_cons_succ]
  refine RX.seqP_call (27) #[.int .u8 A.c, .int .u16 hv, .int .u8 m] (.bool false) (by first | rfl | simp) (fun w' hw' hctx => ?_) (fun w' hw' hctx => covers_is A.c hv m HM.out HU.out w' false HCV.out) ?_
  · go_simp
  simp only [Act.put, List.setIfInBounds_toArray, List.set_cons_zero, List.set_cons_succ]
  refine RX.seqP_value (fun _ => Below.refl _ _) _ (by first | rfl | simp) (fun w' hw' hctx => by (go_simp); (try first | with_reducible rfl | simp)) ?_
  simp only [Act.put, List.setIfInBounds_toArray, List.set_cons_zero, List.set_cons_succ]
  refine RX.seqP_nil (fun w2 hR hctx _ => ?_)
  have hb2 := below_tr hdr hR
  clear hctx hR
  have HB2 := Lib.hid (below_tr HB1.out hb2)
  have HL2 := Lib.hid (HL1.out.below hb2)
  clear hb2 hdr HL1 HB1
  have HPL := Lib.hid (place_is w2 h b _ n A x hnw HL2.out _ hpl)
  clear hpl
  go_wp2_with fail
  refine HPL.out.mono ?_
  rintro e w3 ⟨rfl, hb3⟩
  have HB3 := Lib.hid (below_tr HB2.out hb3)
  have HL3 := Lib.hid (HL2.out.below hb3)
  clear hb3 HPL HB2 HL2
  go_wp2_with fail
  exact bodyPost_ret (v := .tuple #[.bool false, .int .i64 0]) (by first | (simp [results, Try.results16, go_sem]; done) | (simp [results, Try.results16, go_sem]; rfl)) rfl ⟨rfl, HB3.out⟩

set_option maxRecDepth 100000 in
set_option maxHeartbeats 8000000 in
theorem ask_grant (w : World) (h b : Nat) (s : Value) (n : Nat) (A : Lk) (x m : Int) (hok : Ok0 A) (hx1 : ¬ x < 1) (hx : I64 x) (hm : mayB A.c m = true) (H : LkM w h b s n A) (hcv : covB A.c (heldL A.hd x) m = false) (hnb : n + A.wt.length ≤ 50000) (hin : x ∉ fsts A.wt) (hfr : forL A.c A.hd A.wt x m = []) : Calls Try.prog 16 #[.pointer (some ⟨h, 0, none⟩), .int .i64 x, .int .u8 m] w fun e w' => e = .returned (.tuple #[.bool true, .int .i64 0]) ∧ LkM w' h b s (n + 1) ⟨A.c, giveL A.hd x m, A.wt⟩ ∧ Touch (LkF h b s) w w' := by
  have hpl : placeI A.wt x = (-1 : Int) := by unfold placeI; rw [if_neg hin]
  have HBF : Hid (∀ p ∈ A.wt, U8 p.2 ∧ p.1 ≠ x) := Lib.hid (fun p hp => ⟨may_u8 (hok.wts p hp).2.2, fun e => hin (by rw [← e]; exact fst_mem hp)⟩)
  have HNN : Hid (n + A.wt.length ≤ 100000) := Lib.hid (by omega)
  have hnw : A.wt.length ≤ 100000 := by omega
  have HNB := Lib.hid hnb
  obtain ⟨sa, sc, hsf, -, -⟩ := H.row.form
  obtain ⟨k, hk⟩ : ∃ k, A.wt.length = k := ⟨_, rfl⟩
  rw [hk] at hsf
  subst hsf
  have HK := Lib.hid hk
  clear hin hnb hk
  have HQ : Hid ((!decide (forL A.c A.hd A.wt x m = [])) = false) := Lib.hid (by rw [decide_eq_true hfr]; rfl)
  clear hfr
  have mixed : Try.prog.follows Departure.mixedOrders = true := by kernel_rfl
  have HCON := Lib.hid (may_is A.c m (may_u8 hm) w true hm)
  obtain ⟨d0, d1, d2, dl⟩ := H.cells
  obtain ⟨hv, hhv⟩ : ∃ hv, heldL A.hd x = hv := ⟨_, rfl⟩
  have HHV := Lib.hid hhv
  have HL0 := Lib.hid H
  have HX := Lib.hid hx
  have HM : Hid (U8 m) := Lib.hid (may_u8 hm)
  have HMC : Hid (mayB A.c m = true) := Lib.hid hm
  have HU : Hid (U16 hv) := Lib.hid (by rw [← hhv]; exact held_u16 hok x)
  have HOK := Lib.hid hok
  rw [hhv] at hcv
  have HCV := Lib.hid hcv
  clear H hx hm hok hhv hcv
  go_enter Try.func16, Try.ntmps16
  go_wp2_with fail
  refine HCON.out.mono ?_
  rintro e w1 ⟨rfl, hb1⟩
  have HB1 := Lib.hid hb1
  have HL1 := Lib.hid (HL0.out.below hb1)
  clear hb1 HCON HL0 d0 d1 d2 dl
  go_upto_region 5 with (fail)
  have hdr := below_drw w1
  try simp only [List.append_eq, List.cons_append, List.nil_append]
  refine RX.wp_region_plan (fun w w' => Below w.heap.size w w') [.it (.pointer (some ⟨h, 0, none⟩)), .it (.pointer (some ⟨h, 0, none⟩)), .it (.pointer (some ⟨h, 0, none⟩)), .it (.int .u8 A.c), .it (.pointer (some ⟨h, 0, none⟩)), .it (.pointer (some ⟨h, 0, none⟩)), .it (.pointer (some ⟨h, 1, none⟩)), .it (.map (some b)), .it (.int .i64 x), .it (.int .u16 hv), .it (.int .u8 m), .it (.bool false), .it (.bool false)] (by kernel_rfl) (by kernel_rfl) (fun _ => Below.refl _ _) (fun _ _ _ => below_tr) ?_
  refine RX.seqP_value (fun _ => Below.refl _ _) _ (by first | rfl | simp) (fun w' hw' hctx => by (go_simp); (try first | with_reducible rfl | simp)) ?_
  simp only [Act.put, List.setIfInBounds_toArray, List.set_cons_zero, List.set_cons_succ]
  refine RX.seqP_value (fun _ => Below.refl _ _) _ (by first | rfl | simp) (fun w' hw' hctx => by (go_simp); (try first | with_reducible rfl | simp)) ?_
  simp only [Act.put, List.setIfInBounds_toArray, List.set_cons_zero, List.set_cons_succ]
  refine RX.seqP_value (fun _ => Below.refl _ _) _ (by first | rfl | simp) (fun w' hw' hctx => by (go_simp); (try first | with_reducible rfl | simp)) ?_
  simp only [Act.put, List.setIfInBounds_toArray, List.set_cons_zero, List.set_cons_succ]
  refine RX.seqP_value (fun _ => Below.refl _ _) _ (by first | rfl | simp) (fun w' hw' hctx => ?_) ?_
  · have q := HL1.out.below (below_tr hdr hw')
    obtain ⟨d0, d1, d2, dl⟩ := q.cells
    go_simp
    try first | with_reducible rfl | simp
  simp only [Act.put, List.setIfInBounds_toArray, List.set_cons_zero, List.set_cons_succ]
  refine RX.seqP_value (fun _ => Below.refl _ _) _ (by first | rfl | simp) (fun w' hw' hctx => by (go_simp); (try first | with_reducible rfl | simp)) ?_
  simp only [Act.put, List.setIfInBounds_toArray, List.set_cons_zero, List.set_cons_succ]
  refine RX.seqP_value (fun _ => Below.refl _ _) _ (by first | rfl | simp) (fun w' hw' hctx => by (go_simp); (try first | with_reducible rfl | simp)) ?_
  simp only [Act.put, List.setIfInBounds_toArray, List.set_cons_zero, List.set_cons_succ]
  refine RX.seqP_value (fun _ => Below.refl _ _) _ (by first | rfl | simp) (fun w' hw' hctx => by (go_simp); (try first | with_reducible rfl | simp)) ?_
  simp only [Act.put, List.setIfInBounds_toArray, List.set_cons_zero, List.set_cons_succ]
  refine RX.seqP_value (fun _ => Below.refl _ _) _ (by first | rfl | simp) (fun w' hw' hctx => ?_) ?_
  · have q := HL1.out.below (below_tr hdr hw')
    obtain ⟨d0, d1, d2, dl⟩ := q.cells
    go_simp
    try first | with_reducible rfl | simp
  simp only [Act.put, List.setIfInBounds_toArray, List.set_cons_zero, List.set_cons_succ]
  refine RX.seqP_value (fun _ => Below.refl _ _) _ (by first | rfl | simp) (fun w' hw' hctx => by (go_simp); (try first | with_reducible rfl | simp)) ?_
  simp only [Act.put, List.setIfInBounds_toArray, List.set_cons_zero, List.set_cons_succ]
  refine RX.seqP_value (fun _ => Below.refl _ _) _ (by first | rfl | simp) (fun w' hw' hctx => ?_) ?_
  · have q := (HL1.out.below (below_tr hdr hw')).look HX.out
    rw [HHV.out] at q
    go_simp
    try first | with_reducible rfl | simp
  simp only [Act.put, List.setIfInBounds_toArray, List.set_cons_zero, List.set_cons_succ]
  refine RX.seqP_value (fun _ => Below.refl _ _) _ (by first | rfl | simp) (fun w' hw' hctx => by (go_simp); (try first | with_reducible rfl | simp)) ?_
  simp only [Act.put, List.setIfInBounds_toArray, List.set_cons_zero, List.set_cons_succ]
  refine RX.seqP_call (27) #[.int .u8 A.c, .int .u16 hv, .int .u8 m] (.bool false) (by first | rfl | simp) (fun w' hw' hctx => ?_) (fun w' hw' hctx => covers_is A.c hv m HM.out HU.out w' false HCV.out) ?_
  · go_simp
  simp only [Act.put, List.setIfInBounds_toArray, List.set_cons_zero, List.set_cons_succ]
  refine RX.seqP_value (fun _ => Below.refl _ _) _ (by first | rfl | simp) (fun w' hw' hctx => by (go_simp); (try first | with_reducible rfl | simp)) ?_
  simp only [Act.put, List.setIfInBounds_toArray, List.set_cons_zero, List.set_cons_succ]
  refine RX.seqP_nil (fun w2 hR hctx _ => ?_)
  have hb2 := below_tr hdr hR
  clear hctx hR
  have HB2 := Lib.hid (below_tr HB1.out hb2)
  have HL2 := Lib.hid (HL1.out.below hb2)
  clear hb2 hdr HL1 HB1
  have HPL := Lib.hid (place_is w2 h b _ n A x hnw HL2.out _ hpl)
  clear hpl
  go_wp2_with fail
  refine HPL.out.mono ?_
  rintro e w3 ⟨rfl, hb3⟩
  have HB3 := Lib.hid (below_tr HB2.out hb3)
  have HL3 := Lib.hid (HL2.out.below hb3)
  clear hb3 HPL HB2 HL2
  obtain ⟨W4, hW4⟩ : ∃ W4, w3.alloc (.cells #[.int .i64 x, .int .u8 m] 65) = W4 := ⟨_, rfl⟩
  obtain ⟨g4, hg4⟩ : ∃ g4, w3.heap.size = g4 := ⟨_, rfl⟩
  have hnew : Lit W4 g4 65 [.int .i64 x, .int .u8 m] := by rw [← hW4, ← hg4]; exact Lit.new w3 _ _
  have hal : Below w3.heap.size w3 W4 := by rw [← hW4]; exact Below.allocs _ _
  have HNEW := Lib.hid hnew
  have HL4 := Lib.hid (HL3.out.below hal)
  have HB4 := Lib.hid (below_tr HB3.out hal)
  have HG4 : Hid (w.heap.size ≤ g4) := Lib.hid (by rw [← hg4]; exact HB3.out.size)
  clear hnew hal HB3 HL3
  go_upto_region 10 with (fail)
  clear hW4 hg4
  have hdr := below_drw W4
  try simp only [List.append_eq, List.cons_append, List.nil_append]
  refine RX.wp_region_plan (fun w w' => Below w.heap.size w w') [.it (.pointer (some ⟨h, 0, none⟩)), .it (.agg #[.int .i64 x, .int .u8 m]), .it (.pointer (some ⟨h, 0, none⟩)), .it (.pointer (some ⟨h, 0, none⟩)), .it (.pointer (some ⟨h, 2, none⟩)), .it (.slice sa k sc), .it (.bool false)] (by kernel_rfl) (by kernel_rfl) (fun _ => Below.refl _ _) (fun _ _ _ => below_tr) ?_
  refine RX.seqP_value (fun _ => Below.refl _ _) _ (by first | rfl | simp) (fun w' hw' hctx => by (go_simp); (try first | with_reducible rfl | simp)) ?_
  simp only [Act.put, List.setIfInBounds_toArray, List.set_cons_zero, List.set_cons_succ]
  refine RX.seqP_value (fun _ => Below.refl _ _) _ (by first | rfl | simp) (fun w' hw' hctx => ?_) ?_
  · have q := HNEW.out.below (below_tr hdr hw')
    have d0 := q.cell (o := 0) rfl
    have d1 := q.cell (o := 1) rfl
    have dl := q.lt
    go_simp
    try first | with_reducible rfl | simp
  simp only [Act.put, List.setIfInBounds_toArray, List.set_cons_zero, List.set_cons_succ]
  refine RX.seqP_value (fun _ => Below.refl _ _) _ (by first | rfl | simp) (fun w' hw' hctx => by (go_simp); (try first | with_reducible rfl | simp)) ?_
  simp only [Act.put, List.setIfInBounds_toArray, List.set_cons_zero, List.set_cons_succ]
  refine RX.seqP_value (fun _ => Below.refl _ _) _ (by first | rfl | simp) (fun w' hw' hctx => by (go_simp); (try first | with_reducible rfl | simp)) ?_
  simp only [Act.put, List.setIfInBounds_toArray, List.set_cons_zero, List.set_cons_succ]
  refine RX.seqP_value (fun _ => Below.refl _ _) _ (by first | rfl | simp) (fun w' hw' hctx => by (go_simp); (try first | with_reducible rfl | simp)) ?_
  simp only [Act.put, List.setIfInBounds_toArray, List.set_cons_zero, List.set_cons_succ]
  refine RX.seqP_value (fun _ => Below.refl _ _) _ (by first | rfl | simp) (fun w' hw' hctx => ?_) ?_
  · have q := HL4.out.below (below_tr hdr hw')
    obtain ⟨d0, d1, d2, dl⟩ := q.cells
    go_simp
    try first | with_reducible rfl | simp
  simp only [Act.put, List.setIfInBounds_toArray, List.set_cons_zero, List.set_cons_succ]
  refine RX.seqP_call (39) #[.pointer (some ⟨h, 0, none⟩), .agg #[.int .i64 x, .int .u8 m], .slice sa k sc] (.bool false) (by first | rfl | simp) (fun w' hw' hctx => ?_) (fun w' hw' hctx => blocked_is w' h b _ n A x m _ A.wt (HL4.out.below (below_tr hdr hw')) (HL4.out.below (below_tr hdr hw')).row HOK.out HM.out HX.out HBF.out HNN.out false HQ.out) ?_
  · go_simp
  simp only [Act.put, List.setIfInBounds_toArray, List.set_cons_zero, List.set_cons_succ]
  refine RX.seqP_nil (fun w5 hR hctx _ => ?_)
  have hb5 := below_tr hdr hR
  clear hctx hR
  have HL5 := Lib.hid (HL4.out.below hb5)
  have HB5 := Lib.hid (below_tr HB4.out hb5)
  have hnew5 := HNEW.out.below hb5
  have e0 := hnew5.cell (o := 0) rfl
  have e1 := hnew5.cell (o := 1) rfl
  have el := hnew5.lt
  have HGR := Lib.hid (grant_is w5 h b _ n A x m HOK.out HX.out HMC.out (by have := HNB.out; omega) HL5.out)
  clear hb5 hdr HL4 HB4 HNEW hnew5
  go_wp2_with fail
  refine HGR.out.mono ?_
  rintro e w6 ⟨rfl, h6, ht6⟩
  have HE := Lib.hid (And.intro h6 ht6)
  clear h6 ht6 HGR
  go_wp2_with fail
  exact bodyPost_ret (v := .tuple #[.bool true, .int .i64 0]) (by first | (simp [results, Try.results16, go_sem]; done) | (simp [results, Try.results16, go_sem]; rfl)) rfl ⟨rfl, HE.out.1, (Touch.of_below HB5.out).trans HE.out.2 (fun k _ hk => .inr (.inl hk))⟩

set_option maxRecDepth 100000 in
set_option maxHeartbeats 8000000 in
theorem ask_wait (w : World) (h b : Nat) (s : Value) (n : Nat) (A : Lk) (x m : Int) (hok : Ok0 A) (hx1 : ¬ x < 1) (hx : I64 x) (hm : mayB A.c m = true) (H : LkM w h b s n A) (hcv : covB A.c (heldL A.hd x) m = false) (hnb : n + A.wt.length ≤ 50000) (hin : x ∉ fsts A.wt) (hfr : forL A.c A.hd A.wt x m ≠ []) : Calls Try.prog 16 #[.pointer (some ⟨h, 0, none⟩), .int .i64 x, .int .u8 m] w fun e w' => e = .returned (.tuple #[.bool false, .int .i64 0]) ∧ ∃ s', LkM w' h b s' n ⟨A.c, A.hd, A.wt ++ [(x, m)]⟩ ∧ (∀ k, s'.ownBlock = some k → s.ownBlock = some k ∨ w.heap.size ≤ k) ∧ Touch (LkF h b s) w w' := by
  have hpl : placeI A.wt x = (-1 : Int) := by unfold placeI; rw [if_neg hin]
  have HBF : Hid (∀ p ∈ A.wt, U8 p.2 ∧ p.1 ≠ x) := Lib.hid (fun p hp => ⟨may_u8 (hok.wts p hp).2.2, fun e => hin (by rw [← e]; exact fst_mem hp)⟩)
  have HNN : Hid (n + A.wt.length ≤ 100000) := Lib.hid (by omega)
  have hnw : A.wt.length ≤ 100000 := by omega
  have HNB := Lib.hid hnb
  obtain ⟨sa, sc, hsf, -, -⟩ := H.row.form
  obtain ⟨k, hk⟩ : ∃ k, A.wt.length = k := ⟨_, rfl⟩
  rw [hk] at hsf
  subst hsf
  have HK := Lib.hid hk
  clear hin hnb hk
  have HL0W := Lib.hid H.row.lt
  have HQ : Hid ((!decide (forL A.c A.hd A.wt x m = [])) = true) := Lib.hid (by rw [decide_eq_false hfr]; rfl)
  clear hfr
  have mixed : Try.prog.follows Departure.mixedOrders = true := by kernel_rfl
  have HCON := Lib.hid (may_is A.c m (may_u8 hm) w true hm)
  obtain ⟨d0, d1, d2, dl⟩ := H.cells
  obtain ⟨hv, hhv⟩ : ∃ hv, heldL A.hd x = hv := ⟨_, rfl⟩
  have HHV := Lib.hid hhv
  have HL0 := Lib.hid H
  have HX := Lib.hid hx
  have HM : Hid (U8 m) := Lib.hid (may_u8 hm)
  have HMC : Hid (mayB A.c m = true) := Lib.hid hm
  have HU : Hid (U16 hv) := Lib.hid (by rw [← hhv]; exact held_u16 hok x)
  have HOK := Lib.hid hok
  rw [hhv] at hcv
  have HCV := Lib.hid hcv
  clear H hx hm hok hhv hcv
  go_enter Try.func16, Try.ntmps16
  go_wp2_with fail
  refine HCON.out.mono ?_
  rintro e w1 ⟨rfl, hb1⟩
  have HB1 := Lib.hid hb1
  have HL1 := Lib.hid (HL0.out.below hb1)
  clear hb1 HCON HL0 d0 d1 d2 dl
  go_upto_region 5 with (fail)
  have hdr := below_drw w1
  try simp only [List.append_eq, List.cons_append, List.nil_append]
  refine RX.wp_region_plan (fun w w' => Below w.heap.size w w') [.it (.pointer (some ⟨h, 0, none⟩)), .it (.pointer (some ⟨h, 0, none⟩)), .it (.pointer (some ⟨h, 0, none⟩)), .it (.int .u8 A.c), .it (.pointer (some ⟨h, 0, none⟩)), .it (.pointer (some ⟨h, 0, none⟩)), .it (.pointer (some ⟨h, 1, none⟩)), .it (.map (some b)), .it (.int .i64 x), .it (.int .u16 hv), .it (.int .u8 m), .it (.bool false), .it (.bool false)] (by kernel_rfl) (by kernel_rfl) (fun _ => Below.refl _ _) (fun _ _ _ => below_tr) ?_
  refine RX.seqP_value (fun _ => Below.refl _ _) _ (by first | rfl | simp) (fun w' hw' hctx => by (go_simp); (try first | with_reducible rfl | simp)) ?_
  simp only [Act.put, List.setIfInBounds_toArray, List.set_cons_zero, List.set_cons_succ]
  refine RX.seqP_value (fun _ => Below.refl _ _) _ (by first | rfl | simp) (fun w' hw' hctx => by (go_simp); (try first | with_reducible rfl | simp)) ?_
  simp only [Act.put, List.setIfInBounds_toArray, List.set_cons_zero, List.set_cons_succ]
  refine RX.seqP_value (fun _ => Below.refl _ _) _ (by first | rfl | simp) (fun w' hw' hctx => by (go_simp); (try first | with_reducible rfl | simp)) ?_
  simp only [Act.put, List.setIfInBounds_toArray, List.set_cons_zero, List.set_cons_succ]
  refine RX.seqP_value (fun _ => Below.refl _ _) _ (by first | rfl | simp) (fun w' hw' hctx => ?_) ?_
  · have q := HL1.out.below (below_tr hdr hw')
    obtain ⟨d0, d1, d2, dl⟩ := q.cells
    go_simp
    try first | with_reducible rfl | simp
  simp only [Act.put, List.setIfInBounds_toArray, List.set_cons_zero, List.set_cons_succ]
  refine RX.seqP_value (fun _ => Below.refl _ _) _ (by first | rfl | simp) (fun w' hw' hctx => by (go_simp); (try first | with_reducible rfl | simp)) ?_
  simp only [Act.put, List.setIfInBounds_toArray, List.set_cons_zero, List.set_cons_succ]
  refine RX.seqP_value (fun _ => Below.refl _ _) _ (by first | rfl | simp) (fun w' hw' hctx => by (go_simp); (try first | with_reducible rfl | simp)) ?_
  simp only [Act.put, List.setIfInBounds_toArray, List.set_cons_zero, List.set_cons_succ]
  refine RX.seqP_value (fun _ => Below.refl _ _) _ (by first | rfl | simp) (fun w' hw' hctx => by (go_simp); (try first | with_reducible rfl | simp)) ?_
  simp only [Act.put, List.setIfInBounds_toArray, List.set_cons_zero, List.set_cons_succ]
  refine RX.seqP_value (fun _ => Below.refl _ _) _ (by first | rfl | simp) (fun w' hw' hctx => ?_) ?_
  · have q := HL1.out.below (below_tr hdr hw')
    obtain ⟨d0, d1, d2, dl⟩ := q.cells
    go_simp
    try first | with_reducible rfl | simp
  simp only [Act.put, List.setIfInBounds_toArray, List.set_cons_zero, List.set_cons_succ]
  refine RX.seqP_value (fun _ => Below.refl _ _) _ (by first | rfl | simp) (fun w' hw' hctx => by (go_simp); (try first | with_reducible rfl | simp)) ?_
  simp only [Act.put, List.setIfInBounds_toArray, List.set_cons_zero, List.set_cons_succ]
  refine RX.seqP_value (fun _ => Below.refl _ _) _ (by first | rfl | simp) (fun w' hw' hctx => ?_) ?_
  · have q := (HL1.out.below (below_tr hdr hw')).look HX.out
    rw [HHV.out] at q
    go_simp
    try first | with_reducible rfl | simp
  simp only [Act.put, List.setIfInBounds_toArray, List.set_cons_zero, List.set_cons_succ]
  refine RX.seqP_value (fun _ => Below.refl _ _) _ (by first | rfl | simp) (fun w' hw' hctx => by (go_simp); (try first | with_reducible rfl | simp)) ?_
  simp only [Act.put, List.setIfInBounds_toArray, List.set_cons_zero, List.set_cons_succ]
  refine RX.seqP_call (27) #[.int .u8 A.c, .int .u16 hv, .int .u8 m] (.bool false) (by first | rfl | simp) (fun w' hw' hctx => ?_) (fun w' hw' hctx => covers_is A.c hv m HM.out HU.out w' false HCV.out) ?_
  · go_simp
  simp only [Act.put, List.setIfInBounds_toArray, List.set_cons_zero, List.set_cons_succ]
  refine RX.seqP_value (fun _ => Below.refl _ _) _ (by first | rfl | simp) (fun w' hw' hctx => by (go_simp); (try first | with_reducible rfl | simp)) ?_
  simp only [Act.put, List.setIfInBounds_toArray, List.set_cons_zero, List.set_cons_succ]
  refine RX.seqP_nil (fun w2 hR hctx _ => ?_)
  have hb2 := below_tr hdr hR
  clear hctx hR
  have HB2 := Lib.hid (below_tr HB1.out hb2)
  have HL2 := Lib.hid (HL1.out.below hb2)
  clear hb2 hdr HL1 HB1
  have HPL := Lib.hid (place_is w2 h b _ n A x hnw HL2.out _ hpl)
  clear hpl
  go_wp2_with fail
  refine HPL.out.mono ?_
  rintro e w3 ⟨rfl, hb3⟩
  have HB3 := Lib.hid (below_tr HB2.out hb3)
  have HL3 := Lib.hid (HL2.out.below hb3)
  clear hb3 HPL HB2 HL2
  obtain ⟨W4, hW4⟩ : ∃ W4, w3.alloc (.cells #[.int .i64 x, .int .u8 m] 65) = W4 := ⟨_, rfl⟩
  obtain ⟨g4, hg4⟩ : ∃ g4, w3.heap.size = g4 := ⟨_, rfl⟩
  have hnew : Lit W4 g4 65 [.int .i64 x, .int .u8 m] := by rw [← hW4, ← hg4]; exact Lit.new w3 _ _
  have hal : Below w3.heap.size w3 W4 := by rw [← hW4]; exact Below.allocs _ _
  have HNEW := Lib.hid hnew
  have HL4 := Lib.hid (HL3.out.below hal)
  have HB4 := Lib.hid (below_tr HB3.out hal)
  have HG4 : Hid (w.heap.size ≤ g4) := Lib.hid (by rw [← hg4]; exact HB3.out.size)
  clear hnew hal HB3 HL3
  go_upto_region 10 with (fail)
  clear hW4 hg4
  have hdr := below_drw W4
  try simp only [List.append_eq, List.cons_append, List.nil_append]
  refine RX.wp_region_plan (fun w w' => Below w.heap.size w w') [.it (.pointer (some ⟨h, 0, none⟩)), .it (.agg #[.int .i64 x, .int .u8 m]), .it (.pointer (some ⟨h, 0, none⟩)), .it (.pointer (some ⟨h, 0, none⟩)), .it (.pointer (some ⟨h, 2, none⟩)), .it (.slice sa k sc), .it (.bool true)] (by kernel_rfl) (by kernel_rfl) (fun _ => Below.refl _ _) (fun _ _ _ => below_tr) ?_
  refine RX.seqP_value (fun _ => Below.refl _ _) _ (by first | rfl | simp) (fun w' hw' hctx => by (go_simp); (try first | with_reducible rfl | simp)) ?_
  simp only [Act.put, List.setIfInBounds_toArray, List.set_cons_zero, List.set_cons_succ]
  refine RX.seqP_value (fun _ => Below.refl _ _) _ (by first | rfl | simp) (fun w' hw' hctx => ?_) ?_
  · have q := HNEW.out.below (below_tr hdr hw')
    have d0 := q.cell (o := 0) rfl
    have d1 := q.cell (o := 1) rfl
    have dl := q.lt
    go_simp
    try first | with_reducible rfl | simp
  simp only [Act.put, List.setIfInBounds_toArray, List.set_cons_zero, List.set_cons_succ]
  refine RX.seqP_value (fun _ => Below.refl _ _) _ (by first | rfl | simp) (fun w' hw' hctx => by (go_simp); (try first | with_reducible rfl | simp)) ?_
  simp only [Act.put, List.setIfInBounds_toArray, List.set_cons_zero, List.set_cons_succ]
  refine RX.seqP_value (fun _ => Below.refl _ _) _ (by first | rfl | simp) (fun w' hw' hctx => by (go_simp); (try first | with_reducible rfl | simp)) ?_
  simp only [Act.put, List.setIfInBounds_toArray, List.set_cons_zero, List.set_cons_succ]
  refine RX.seqP_value (fun _ => Below.refl _ _) _ (by first | rfl | simp) (fun w' hw' hctx => by (go_simp); (try first | with_reducible rfl | simp)) ?_
  simp only [Act.put, List.setIfInBounds_toArray, List.set_cons_zero, List.set_cons_succ]
  refine RX.seqP_value (fun _ => Below.refl _ _) _ (by first | rfl | simp) (fun w' hw' hctx => ?_) ?_
  · have q := HL4.out.below (below_tr hdr hw')
    obtain ⟨d0, d1, d2, dl⟩ := q.cells
    go_simp
    try first | with_reducible rfl | simp
  simp only [Act.put, List.setIfInBounds_toArray, List.set_cons_zero, List.set_cons_succ]
  refine RX.seqP_call (39) #[.pointer (some ⟨h, 0, none⟩), .agg #[.int .i64 x, .int .u8 m], .slice sa k sc] (.bool true) (by first | rfl | simp) (fun w' hw' hctx => ?_) (fun w' hw' hctx => blocked_is w' h b _ n A x m _ A.wt (HL4.out.below (below_tr hdr hw')) (HL4.out.below (below_tr hdr hw')).row HOK.out HM.out HX.out HBF.out HNN.out true HQ.out) ?_
  · go_simp
  simp only [Act.put, List.setIfInBounds_toArray, List.set_cons_zero, List.set_cons_succ]
  refine RX.seqP_nil (fun w5 hR hctx _ => ?_)
  have hb5 := below_tr hdr hR
  clear hctx hR
  have HL5 := Lib.hid (HL4.out.below hb5)
  have HB5 := Lib.hid (below_tr HB4.out hb5)
  have HNW5 := Lib.hid (HNEW.out.below hb5)
  clear hb5 hdr HL4 HB4 HNEW
  have hdr := below_drw w5
  have hl6 := HL5.out.below hdr
  have hn6 := HNW5.out.below hdr
  have hS0 : w5.drew.cell? ⟨h, 2, none⟩ = some (.slice sa k sc) ∧ w5.drew.cell? ⟨g4, 0, none⟩ = some (.int .i64 x) ∧ w5.drew.cell? ⟨g4, 1, none⟩ = some (.int .u8 m) := ⟨hl6.cells.2.2.1, hn6.cell (o := 0) rfl, hn6.cell (o := 1) rfl⟩
  have hal := Below.allocs w5.drew (.cells #[.int .i64 x, .int .u8 m] 65)
  have hS1 : (w5.drew.alloc (.cells #[.int .i64 x, .int .u8 m] 65)).cell? ⟨h, 2, none⟩ = some (.slice sa k sc) ∧ (w5.drew.alloc (.cells #[.int .i64 x, .int .u8 m] 65)).cell? ⟨g4, 0, none⟩ = some (.int .i64 x) ∧ (w5.drew.alloc (.cells #[.int .i64 x, .int .u8 m] 65)).cell? ⟨g4, 1, none⟩ = some (.int .u8 m) := ⟨(hl6.below hal).cells.2.2.1, (hn6.below hal).cell (o := 0) rfl, (hn6.below hal).cell (o := 1) rfl⟩
  obtain ⟨a7, c7, W7, hrun, hrow7, ht7, ho7⟩ := row_snocQ hl6.row (x, m) (by have := HNB.out; omega)
  rw [HK.out] at hrun hrow7 ho7
  have hown := hl6.own
  have hst7 := ht7.stay (G := fun j => (Value.slice sa k sc).ownBlock ≠ some j) (fun j hj e => hj e)
  have hg4o : (Value.slice sa k sc).ownBlock ≠ some g4 := fun e => by
    have h1 := HNW5.out
    rcases HL5.out.row.own.2 with ⟨h2, _⟩ | ⟨g, c9, cur, h2, _, hg, _⟩
    · rw [h2] at e; cases e
    · have h3 : g = g4 := by rw [h2] at e; exact Option.some.inj e
      have h4 := HL0W.out g (by rw [h2]; rfl)
      have h5 := HG4.out
      omega
  have hS6 : W7.cell? ⟨h, 2, none⟩ = some (.slice sa k sc) ∧ W7.cell? ⟨g4, 0, none⟩ = some (.int .i64 x) ∧ W7.cell? ⟨g4, 1, none⟩ = some (.int .u8 m) := ⟨(hl6.lit.stay hst7 (fun e => (hown h e).1 rfl)).cell (o := 2) rfl, (hn6.stay hst7 hg4o).cell (o := 0) rfl, (hn6.stay hst7 hg4o).cell (o := 1) rfl⟩
  have x0 := (hl6.lit.stay hst7 (fun e => (hown h e).1 rfl))
  have y0 := x0.cell (o := 2) rfl
  have yl := x0.lt
  have yf := x0.fz 2
  have HS0 := Lib.hid hS0
  have HS1 := Lib.hid hS1
  have HS6 := Lib.hid hS6
  have HRUN := Lib.hid hrun
  have HE := Lib.hid (And.intro hrow7 (And.intro ht7 ho7))
  have HL6 := Lib.hid hl6
  clear hdr hl6 hn6 hS0 hS1 hS6 hal hrun hrow7 ht7 ho7 hown hst7 hg4o x0
  go_upto_region 11 with (fail)
  refine RX.wp_region_lastH 8 (fun W => W.cell? ⟨h, 2, none⟩ = some (.slice sa k sc) ∧ W.cell? ⟨g4, 0, none⟩ = some (.int .i64 x) ∧ W.cell? ⟨g4, 1, none⟩ = some (.int .u8 m)) mixed (by kernel_rfl) ?_
  simp only [List.take_succ_cons, List.take_zero, List.drop_succ_cons, List.drop_zero]
  refine wpAnyH_take (i := 0) (oi := _) (v := .pointer (some ⟨h, 0, none⟩)) rfl (by kernel_rfl) (by kernel_rfl) (by kernel_rfl) (fun _ _ _ h => h) (Or.inl ⟨by rfl, fun w' hw' => ?_⟩) (HS0.out) ?_
  · obtain ⟨j0, j1, j2⟩ := hw'
    go_simp
    try first | with_reducible rfl | simp
  refine wpAnyH_take (i := 1) (oi := _) (v := .pointer (some ⟨h, 0, none⟩)) rfl (by kernel_rfl) (by kernel_rfl) (by kernel_rfl) (fun _ _ _ h => h) (Or.inl ⟨by rfl, fun w' hw' => ?_⟩) (HS0.out) ?_
  · obtain ⟨j0, j1, j2⟩ := hw'
    go_simp
    try first | with_reducible rfl | simp
  refine wpAnyH_take (i := 2) (oi := _) (v := .pointer (some ⟨h, 0, none⟩)) rfl (by kernel_rfl) (by kernel_rfl) (by kernel_rfl) (fun _ _ _ h => h) (Or.inl ⟨by rfl, fun w' hw' => ?_⟩) (HS0.out) ?_
  · obtain ⟨j0, j1, j2⟩ := hw'
    go_simp
    try first | with_reducible rfl | simp
  refine wpAnyH_take (i := 3) (oi := _) (v := .pointer (some ⟨h, 2, none⟩)) rfl (by kernel_rfl) (by kernel_rfl) (by kernel_rfl) (fun _ _ _ h => h) (Or.inl ⟨by rfl, fun w' hw' => ?_⟩) (HS0.out) ?_
  · obtain ⟨j0, j1, j2⟩ := hw'
    go_simp
    try first | with_reducible rfl | simp
  refine wpAnyH_take (i := 4) (oi := _) (v := .slice sa k sc) rfl (by kernel_rfl) (by kernel_rfl) (by kernel_rfl) (fun _ _ _ h => h) (Or.inl ⟨by rfl, fun w' hw' => ?_⟩) (HS0.out) ?_
  · obtain ⟨j0, j1, j2⟩ := hw'
    go_simp
    try first | with_reducible rfl | simp
  refine wpAnyH_take (i := 5) (oi := _) (v := .agg #[.int .i64 x, .int .u8 m]) rfl (by kernel_rfl) (by kernel_rfl) (by kernel_rfl) (fun _ _ _ h => h) (Or.inl ⟨by rfl, fun w' hw' => ?_⟩) (HS0.out) ?_
  · obtain ⟨j0, j1, j2⟩ := hw'
    go_simp
    try first | with_reducible rfl | simp
  refine RX.anyH_val (i := 6) (v := .slice (some ⟨w5.drew.heap.size, 0, none⟩) 1 1) (w' := w5.drew.alloc (.cells #[.int .i64 x, .int .u8 m] 65)) (by kernel_rfl) rfl (by rfl) (by go_simp) (HS1.out) ?_
  refine RX.anyH_app (i := 7) (v := .slice sa k sc) (u := .slice (some ⟨w5.drew.heap.size, 0, none⟩) 1 1) (.tmp 56) (.tmp 58) (56) (56) (by kernel_rfl) rfl (by rfl) rfl (by go_simp) (by go_simp) (HRUN.out _) (HS6.out) ?_
  refine wpAnyH_done (by kernel_rfl) ?_ _
  unfold RX.lastQ
  go_wp2_with fail
  obtain ⟨hrow7, ht7, ho7⟩ := HE.out
  have H6 := HL6.out
  have hts := Touch.setCell W7 (F := fun j => j = h) rfl 2 (.slice a7 (k + 1) c7)
  have hst7 := ht7.stay (G := fun j => (Value.slice sa k sc).ownBlock ≠ some j) (fun j hj e => hj e)
  have hsts := hts.stay (G := fun j => j ≠ h) (fun j hj e => hj e)
  have hb0 : ∀ j, Value.ownBlock (.slice a7 (k + 1) c7) = some j → j ≠ h ∧ j ≠ b := fun j hj => by
    rcases ho7 j hj with e | e
    · exact H6.own j e
    · have h1 := H6.lit.lt
      have h2 := H6.map.lt
      constructor <;> omega
  have hlk : LkM (W7.setCell ⟨h, 2, none⟩ (.slice a7 (k + 1) c7)) h b (.slice a7 (k + 1) c7) n ⟨A.c, A.hd, A.wt ++ [(x, m)]⟩ := ⟨(H6.lit.stay hst7 (fun e => (H6.own h e).1 rfl)).set 2 _, (H6.map.stay hst7 (fun e => (H6.own b e).2 rfl)).stay hsts H6.ne, RowQ.stay hrow7 hsts (fun j hj => (hb0 j hj).1), H6.ne, hb0⟩
  have hown : ∀ j, Value.ownBlock (.slice a7 (k + 1) c7) = some j → (Value.slice sa k sc).ownBlock = some j ∨ w.heap.size ≤ j := fun j hj => (ho7 j hj).imp id (fun e => Nat.le_trans HB5.out.size e)
  have htt : Touch (LkF h b (.slice sa k sc)) w (W7.setCell ⟨h, 2, none⟩ (.slice a7 (k + 1) c7)) := (((Touch.of_below HB5.out).trans (Touch.of_below (below_drw w5)) (fun _ _ h => h)).trans ht7 (fun j _ hj => .inr (.inr hj))).trans hts (fun j _ hj => .inl hj)
  exact bodyPost_ret (v := .tuple #[.bool false, .int .i64 0]) (by first | (simp [results, Try.results16, go_sem]; done) | (simp [results, Try.results16, go_sem]; rfl)) rfl ⟨rfl, _, hlk, hown, htt⟩

theorem ask_is (w : World) (h b : Nat) (s : Value) (n : Nat) (A : Lk) (x m : Int) (hok : Ok0 A) (hx : I64 x) (hm : U8 m) (hnb : n + A.wt.length ≤ 50000) (H : LkM w h b s n A) :
    Calls Try.prog 16 #[.pointer (some ⟨h, 0, none⟩), .int .i64 x, .int .u8 m] w fun e w' => e = .returned (.tuple #[.bool (A.askB x m), .int .i64 (A.askE x m)]) ∧ ∃ s' n', LkM w' h b s' n' (A.ask x m) ∧ n' + (A.ask x m).wt.length ≤ n + A.wt.length + 1 ∧ (∀ k, s'.ownBlock = some k → s.ownBlock = some k ∨ w.heap.size ≤ k) ∧ Touch (LkF h b s) w w' := by
  unfold Lk.askB Lk.askE Lk.ask
  by_cases h1 : x < 1 ∨ mayB A.c m = false
  · rw [if_pos h1, if_pos h1, if_pos h1]
    have hc : Calls Try.prog 16 #[.pointer (some ⟨h, 0, none⟩), .int .i64 x, .int .u8 m] w fun e w' => e = .returned (.tuple #[.bool false, .int .i64 1]) ∧ Below w.heap.size w w' := by
      by_cases hx1 : x < 1
      · exact ask_low x m hx1 h w
      · exact ask_mode w h b s n A x m hx1 hm (h1.resolve_left hx1) H
    refine hc.mono ?_
    rintro e w' ⟨rfl, hb⟩
    exact ⟨rfl, s, n, H.below hb, Nat.le_succ _, fun k hk => .inl hk, Touch.of_below hb⟩
  · rw [if_neg h1, if_neg h1, if_neg h1]
    have hx1 : ¬ x < 1 := fun e => h1 (.inl e)
    have hmc : mayB A.c m = true := by
      cases hh : mayB A.c m with
      | true => rfl
      | false => exact absurd (.inr hh) h1
    by_cases h2 : covB A.c (heldL A.hd x) m = true
    · rw [if_pos h2, if_pos h2]
      refine (ask_cov w h b s n A x m hok hx1 hx hmc H h2).mono ?_
      rintro e w' ⟨rfl, hb⟩
      exact ⟨rfl, s, n, H.below hb, Nat.le_succ _, fun k hk => .inl hk, Touch.of_below hb⟩
    · rw [if_neg h2, if_neg h2]
      have h2' : covB A.c (heldL A.hd x) m = false := by simpa using h2
      by_cases h3 : x ∈ fsts A.wt
      · rw [if_pos h3, if_pos h3]
        refine (ask_wts w h b s n A x m hok hx1 hx hmc H h2' (by omega) h3).mono ?_
        rintro e w' ⟨rfl, hb⟩
        exact ⟨rfl, s, n, H.below hb, Nat.le_succ _, fun k hk => .inl hk, Touch.of_below hb⟩
      · rw [if_neg h3, if_neg h3]
        by_cases h4 : forL A.c A.hd A.wt x m = []
        · rw [if_pos h4, decide_eq_true h4]
          refine (ask_grant w h b s n A x m hok hx1 hx hmc H h2' hnb h3 h4).mono ?_
          rintro e w' ⟨rfl, q1, q2⟩
          exact ⟨rfl, s, n + 1, q1, by show n + 1 + A.wt.length ≤ _; omega, fun k hk => .inl hk, q2⟩
        · rw [if_neg h4, decide_eq_false h4]
          refine (ask_wait w h b s n A x m hok hx1 hx hmc H h2' hnb h3 h4).mono ?_
          rintro e w' ⟨rfl, s', q1, q2, q3⟩
          exact ⟨rfl, s', n, q1, by show n + (A.wt ++ [(x, m)]).length ≤ _; simp; omega, q2, q3⟩

set_option maxRecDepth 100000 in
set_option maxHeartbeats 8000000 in
theorem drop_nil (x : Int) (w : World) : Calls Try.prog 13 #[.pointer none, .int .i64 x] w fun e w' => e = .returned (.tuple #[.slice none 0 0, .int .i64 2]) ∧ Below w.heap.size w w' := by
  go_enter Try.func13, Try.ntmps13
  go_wp2_with fail
  exact bodyPost_ret (v := .tuple #[.slice none 0 0, .int .i64 2]) (by first | (simp [results, Try.results13, go_sem]; done) | (simp [results, Try.results13, go_sem]; rfl)) rfl ⟨rfl, Below.refl _ _⟩

set_option maxRecDepth 100000 in
set_option maxHeartbeats 8000000 in
theorem drop_low (x : Int) (hx : x < 1) (h : Nat) (w : World) : Calls Try.prog 13 #[.pointer (some ⟨h, 0, none⟩), .int .i64 x] w fun e w' => e = .returned (.tuple #[.slice none 0 0, .int .i64 1]) ∧ Below w.heap.size w w' := by
  go_enter Try.func13, Try.ntmps13
  go_wp2_with fail
  exact bodyPost_ret (v := .tuple #[.slice none 0 0, .int .i64 1]) (by first | (simp [results, Try.results13, go_sem]; done) | (simp [results, Try.results13, go_sem]; rfl)) rfl ⟨rfl, Below.refl _ _⟩

set_option maxRecDepth 100000 in
set_option maxHeartbeats 8000000 in
theorem drop_in (w : World) (h b : Nat) (s : Value) (n : Nat) (A : Lk) (x : Int) (hok : Ok0 A) (hx1 : ¬ x < 1) (hx : I64 x) (hnb : n + A.wt.length ≤ 50000) (H : LkM w h b s n A) (HD WT : PL) (G : List Int) (hto : A.dropS x = (HD, WT, G)) :
    Calls Try.prog 13 #[.pointer (some ⟨h, 0, none⟩), .int .i64 x] w fun e w' => ∃ v, e = .returned (.tuple #[v, .int .i64 0]) ∧ RowI w' v G ∧ (∀ k, v.ownBlock = some k → w.heap.size ≤ k) ∧ ∃ s' n', LkM w' h b s' n' ⟨A.c, HD, WT⟩ ∧ s'.ownBlock = s.ownBlock ∧ n' + WT.length ≤ n + A.wt.length ∧ Touch (LkF h b s) w w' := by
  have mixed : Try.prog.follows Departure.mixedOrders = true := by kernel_rfl
  obtain ⟨sa, sc, hsf, -, -⟩ := H.row.form
  obtain ⟨k, hk⟩ : ∃ k, A.wt.length = k := ⟨_, rfl⟩
  rw [hk] at hsf
  subst hsf
  have HK := Lib.hid hk
  have HNB := Lib.hid hnb
  have HL0 := Lib.hid H
  have HX := Lib.hid hx
  have HOK := Lib.hid hok
  have HTO := Lib.hid hto
  obtain ⟨d0, d1, d2, dl⟩ := H.cells
  clear H hok hx hnb hto hk
  go_enter Try.func13, Try.ntmps13
  go_wp2_with (first | (at_delete; refine del_f rfl _ _ 55 rfl 45 Try.underlying55 b n (mapV A.hd) rfl HL0.out.map x HX.out rfl ?_; intro w2 hm2 hg2) | fail)
  have ht2 : Touch (fun j => j = b) w w2 := Touch.grown hg2 (fun j hj => (Option.some.inj hj).symm)
  have hst2 := ht2.stay (G := fun j => j ≠ b) (fun j hj e => hj e)
  have H0 := HL0.out
  have hl2 : LkM w2 h b (.slice sa k sc) n ⟨A.c, without A.hd x, A.wt⟩ := ⟨H0.lit.stay hst2 (fun e => H0.ne e.symm), by show MapF w2 b n (mapV (without A.hd x)); rw [mapV_without]; exact hm2, RowF.stay H0.row hst2 (fun j hj => (H0.own j hj).2), H0.ne, H0.own⟩
  have HT2 := Lib.hid ht2
  have HL2 := Lib.hid hl2
  have HLD := Lib.hid (hl2.below (below_drw w2))
  have HS0 : Hid (w2.drew.cell? ⟨h, 2, none⟩ = some (.slice sa k sc)) := Lib.hid HLD.out.cells.2.2.1
  clear hm2 hg2 ht2 hst2 H0 hl2 d0 d1 d2 dl
  go_upto_region 6 with (fail)
  refine RX.wp_region_lastH 8 (fun W => W.cell? ⟨h, 2, none⟩ = some (.slice sa k sc)) mixed (by kernel_rfl) ?_
  simp only [List.take_succ_cons, List.take_zero, List.drop_succ_cons, List.drop_zero]
  refine wpAnyH_take (i := 0) (oi := _) (v := .pointer (some ⟨h, 0, none⟩)) rfl (by kernel_rfl) (by kernel_rfl) (by kernel_rfl) (fun _ _ _ h => h) (Or.inl ⟨by rfl, fun w' hw' => ?_⟩) (HS0.out) ?_
  · go_simp
    try first | with_reducible rfl | simp
  refine wpAnyH_take (i := 1) (oi := _) (v := .pointer (some ⟨h, 0, none⟩)) rfl (by kernel_rfl) (by kernel_rfl) (by kernel_rfl) (fun _ _ _ h => h) (Or.inl ⟨by rfl, fun w' hw' => ?_⟩) (HS0.out) ?_
  · go_simp
    try first | with_reducible rfl | simp
  refine wpAnyH_take (i := 2) (oi := _) (v := .pointer (some ⟨h, 0, none⟩)) rfl (by kernel_rfl) (by kernel_rfl) (by kernel_rfl) (fun _ _ _ h => h) (Or.inl ⟨by rfl, fun w' hw' => ?_⟩) (HS0.out) ?_
  · go_simp
    try first | with_reducible rfl | simp
  refine wpAnyH_take (i := 3) (oi := _) (v := .pointer (some ⟨h, 2, none⟩)) rfl (by kernel_rfl) (by kernel_rfl) (by kernel_rfl) (fun _ _ _ h => h) (Or.inl ⟨by rfl, fun w' hw' => ?_⟩) (HS0.out) ?_
  · go_simp
    try first | with_reducible rfl | simp
  refine wpAnyH_take (i := 4) (oi := _) (v := .slice sa k sc) rfl (by kernel_rfl) (by kernel_rfl) (by kernel_rfl) (fun _ _ _ h => h) (Or.inl ⟨by rfl, fun w' hw' => ?_⟩) (HS0.out) ?_
  · go_simp
    try first | with_reducible rfl | simp
  refine wpAnyH_take (i := 5) (oi := _) (v := .int .i64 x) rfl (by kernel_rfl) (by kernel_rfl) (by kernel_rfl) (fun _ _ _ h => h) (Or.inl ⟨by rfl, fun w' hw' => ?_⟩) (HS0.out) ?_
  · go_simp
    try first | with_reducible rfl | simp
  refine RX.anyH_call (i := 6) (f := 33) (args := #[.int .i64 x]) (by kernel_rfl) rfl (by rfl) (by go_simp) ?_
  refine (show Calls Try.prog _ _ _ _ from by_is x w2.drew).mono ?_
  rintro e w3 ⟨rfl, hl3, hb3⟩
  have hl3k := HLD.out.below hb3
  have HS3 : Hid (w3.cell? ⟨h, 2, none⟩ = some (.slice sa k sc)) := Lib.hid hl3k.cells.2.2.1
  have HB3 := Lib.hid hb3
  have HL3 := Lib.hid hl3k
  have HCL := Lib.hid hl3
  have HDEL := Lib.hid (deleteF_is (.slice sa k sc) A.wt x w2.drew.heap.size w3 (by have := HNB.out; omega) hl3k.row hl3 (fun e => by have := HLD.out.row.lt _ e; omega))
  clear hl3k hb3 hl3
  refine ⟨.func (.func 56) #[] #[.pointer (some ⟨w2.drew.heap.size, 0, none⟩)], rfl, HS3.out, ?_⟩
  refine RX.anyH_call (i := 7) (f := 32) (args := #[.slice sa k sc, .func (.func 56) #[] #[.pointer (some ⟨w2.drew.heap.size, 0, none⟩)]]) (by kernel_rfl) rfl (by rfl) (by go_simp) ?_
  refine (show Calls Try.prog _ _ _ _ from HDEL.out).mono ?_
  rintro e w4 ⟨s4, rfl, q1, q2, q3⟩
  have hst4 := q3.stay (G := fun j => (Value.slice sa k sc).ownBlock ≠ some j) (fun j hj e => hj e)
  have H3 := HL3.out
  have hl4 := H3.lit.stay hst4 (fun e => (H3.own h e).1 rfl)
  have hm4 := H3.map.stay hst4 (fun e => (H3.own b e).2 rfl)
  have HS4 : Hid (w4.cell? ⟨h, 2, none⟩ = some (.slice sa k sc)) := Lib.hid (hl4.cell (o := 2) rfl)
  have y0 := hl4.cell (o := 2) rfl
  have yl := hl4.lt
  have yf := hl4.fz 2
  obtain ⟨a4, c4, hf4, -, -⟩ := q1.form
  obtain ⟨k4, hk4⟩ : ∃ k4, (without A.wt x).length = k4 := ⟨_, rfl⟩
  rw [hk4] at hf4
  subst hf4
  have HK4 := Lib.hid hk4
  have HE4 := Lib.hid (And.intro hl4 (And.intro hm4 (And.intro q1 (And.intro q2 q3))))
  clear hst4 H3 hl4 hm4 q1 q2 q3 HDEL hk4
  refine ⟨.slice a4 k4 c4, rfl, HS4.out, ?_⟩
  refine wpAnyH_done (by kernel_rfl) ?_ _
  unfold RX.lastQ
  go_upto_region 7 with (fail)
  obtain ⟨hl4, hm4, q1, q2, q3⟩ := HE4.out
  obtain ⟨W5, hW5⟩ : ∃ W5, w4.setCell ⟨h, 2, none⟩ (.slice a4 k4 c4) = W5 := ⟨_, rfl⟩
  have hts : Touch (fun j => j = h) w4 W5 := by rw [← hW5]; exact Touch.setCell w4 (F := fun j => j = h) rfl 2 _
  have hsts := hts.stay (G := fun j => j ≠ h) (fun j hj e => hj e)
  have h5 : LkM W5 h b (.slice a4 k4 c4) n ⟨A.c, without A.hd x, without A.wt x⟩ := ⟨by rw [← hW5]; exact hl4.set 2 _, hm4.stay hsts HL2.out.ne, RowQ.stay q1 hsts (fun j hj => (HL2.out.own j (by rw [← q2]; exact hj)).1), HL2.out.ne, fun j hj => HL2.out.own j (by rw [← q2]; exact hj)⟩
  have hlen : (without A.wt x).length ≤ A.wt.length := without_len _ _
  have hset := settle_is W5 h b _ n ⟨A.c, without A.hd x, without A.wt x⟩ (HOK.out.less x) (by have := HNB.out; show n + (without A.wt x).length ≤ _; omega) h5 HD WT G HTO.out
  have htt : Touch (LkF h b (.slice sa k sc)) w W5 := (((((HT2.out.mono (F' := LkF h b (.slice sa k sc)) (fun j hj => .inr (.inl hj))).trans (Touch.of_below (below_drw w2)) (fun _ _ h => h)).trans (Touch.of_below HB3.out) (fun _ _ h => h)).trans q3 (fun j _ hj => .inr (.inr hj))).trans hts (fun j _ hj => .inl hj))
  have HSET := Lib.hid hset
  have HTT := Lib.hid htt
  have HQ2 := Lib.hid q2
  have HLEN := Lib.hid hlen
  rw [hW5]
  clear hl4 hm4 q1 q2 q3 hW5 hts hsts h5 hset htt hlen HE4 y0 yl yf
  go_wp2_with fail
  refine HSET.out.mono ?_
  rintro e w6 ⟨v, rfl, r1, r2, s6, n6, r3, r4, r5, r6⟩
  obtain ⟨va, vc, hvf, -, -⟩ := r1.form
  obtain ⟨vn, hvn⟩ : ∃ vn, G.length = vn := ⟨_, rfl⟩
  rw [hvn] at hvf
  subst hvf
  have HE := Lib.hid (And.intro r1 (And.intro r2 (And.intro r3 (And.intro r4 (And.intro r5 r6)))))
  clear r1 r2 r3 r4 r5 r6 HSET hvn
  go_wp2_with fail
  obtain ⟨r1, r2, r3, r4, r5, r6⟩ := HE.out
  have hfin : ∃ s' n', LkM w6 h b s' n' ⟨A.c, HD, WT⟩ ∧ s'.ownBlock = (Value.slice sa k sc).ownBlock ∧ n' + WT.length ≤ n + A.wt.length ∧ Touch (LkF h b (.slice sa k sc)) w w6 := ⟨s6, n6, r3, by rw [r4, HQ2.out], by have := HLEN.out; have r5 : n6 + WT.length ≤ n + (without A.wt x).length := r5; omega, HTT.out.trans r6 (fun j _ hj => by
    rcases hj with hj | hj | hj
    · exact .inl hj
    · exact .inr (.inl hj)
    · rw [HQ2.out] at hj; exact .inr (.inr hj))⟩
  have hown : ∀ j, Value.ownBlock (.slice va vn vc) = some j → w.heap.size ≤ j := fun j hj => Nat.le_trans HTT.out.size (r2 j hj)
  exact bodyPost_ret (v := .tuple #[.slice va vn vc, .int .i64 0]) (by first | (simp [results, Try.results13, go_sem]; done) | (simp [results, Try.results13, go_sem]; rfl)) rfl ⟨_, rfl, r1, hown, hfin⟩

theorem drop_is (w : World) (h b : Nat) (s : Value) (n : Nat) (A : Lk) (x : Int) (hok : Ok0 A) (hx : I64 x) (hnb : n + A.wt.length ≤ 50000) (H : LkM w h b s n A) :
    Calls Try.prog 13 #[.pointer (some ⟨h, 0, none⟩), .int .i64 x] w fun e w' => ∃ v, e = .returned (.tuple #[v, .int .i64 (Lk.dropE x)]) ∧ RowI w' v (A.dropG x) ∧ (∀ k, v.ownBlock = some k → w.heap.size ≤ k) ∧ ∃ s' n', LkM w' h b s' n' (A.drop x) ∧ s'.ownBlock = s.ownBlock ∧ n' + (A.drop x).wt.length ≤ n + A.wt.length ∧ Touch (LkF h b s) w w' := by
  unfold Lk.dropE Lk.dropG Lk.drop
  by_cases hx1 : x < 1
  · rw [if_pos hx1, if_pos hx1, if_pos hx1]
    refine (drop_low x hx1 h w).mono ?_
    rintro e w' ⟨rfl, hb⟩
    exact ⟨_, rfl, RowF.nil _ _ _ _, fun k hk => (by cases hk), s, n, H.below hb, rfl, Nat.le_refl _, Touch.of_below hb⟩
  · rw [if_neg hx1, if_neg hx1, if_neg hx1]
    exact drop_in w h b s n A x hok hx1 hx hnb H _ _ _ rfl

end Go.Proofs.Ytjjhmfpdbjflmaa
