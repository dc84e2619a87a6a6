/-
  Copy of the document's lock (stage 14).
-/
import Derived.Test.YtjjhmfpdbjflmaaPRcp
namespace Go.Proofs.Ytjjhmfpdbjflmaa.RX
section
variable {P : Program} {md : Region.Mode} {ops : Array Oper} {Q : Exit → Act → World → Prop} {S : World → Prop}
theorem anyH_fork {i1 i2 : Nat} {fuel : Nat} {listed : Array Bool} {a : Act} {w : World} (hr : Region.ready md ops listed = [i1, i2])
    (h1 : wpOp P ops Q i1 (fun a' w' => S w' ∧ wpAnyH P md ops Q S fuel (listed.setIfInBounds i1 true) a' w') a w)
    (h2 : wpOp P ops Q i2 (fun a' w' => S w' ∧ wpAnyH P md ops Q S fuel (listed.setIfInBounds i2 true) a' w') a w) : wpAnyH P md ops Q S (fuel + 1) listed a w := by
  refine wpAnyH_all hr (by simp) fun j hj => ?_
  rcases (show j = i1 ∨ j = i2 by simpa using hj) with rfl | rfl
  · exact h1
  · exact h2
theorem opH_val {i : Nat} {o : Oper} {fuel : Nat} {listed : Array Bool} {a : Act} {w w' : World} {v : Value} (ho : ops[i]? = some o) (hw : Region.wanted o (yielded ops a.tmps) = true)
    (hrun : (execOp a.eval o).run P w = .ok (.value v) w') (hS : S w') (h : wpAnyH P md ops Q S fuel (listed.setIfInBounds i true) (a.put o.dst v) w') : wpOp P ops Q i (fun a' w' => S w' ∧ wpAnyH P md ops Q S fuel (listed.setIfInBounds i true) a' w') a w := by
  unfold wpOp
  simp only [ho, hw, if_true]
  left
  unfold Oper.wp
  rw [hrun]
  exact ⟨hS, h⟩
theorem opH_app {i : Nat} {o : Oper} {fuel : Nat} {listed : Array Bool} {a : Act} {w w' : World} {v u v' : Value} (s x : Operand) (t t' : TypeId) (ho : ops[i]? = some o) (hw : Region.wanted o (yielded ops a.tmps) = true)
    (hop : o.op = Op.call { callee := Callee.builtin Builtin.append, args := #[s, x], argTypes := #[t, t'] }) (hs : a.eval s = v) (hx : a.eval x = u)
    (hrun : (Builtin.append_ #[t, t'] o.type #[v, u]).run P w = .ok v' w') (hS : S w') (h : wpAnyH P md ops Q S fuel (listed.setIfInBounds i true) (a.put o.dst v') w') : wpOp P ops Q i (fun a' w' => S w' ∧ wpAnyH P md ops Q S fuel (listed.setIfInBounds i true) a' w') a w := by
  refine opH_val ho hw (v := v') (w' := w') ?_ hS h
  simp [execOp, hop, resolve, invoke, builtin, hs, hx, hrun, Result.andThen]
end
end Go.Proofs.Ytjjhmfpdbjflmaa.RX
namespace Go.Proofs.Ytjjhmfpdbjflmaa
open Go.RowKit
set_option linter.unusedVariables false

theorem copy_fin {w W : World} {A : Lk} {s t : Value} (hr1 : RowO true W s A.hd) (hr2 : RowO false W t A.wt) (ho1 : ∀ j, s.ownBlock = some j → w.heap.size ≤ j) (ho2 : ∀ j, t.ownBlock = some j → w.heap.size ≤ j) (hap : ∀ j, s.ownBlock = some j → t.ownBlock ≠ some j) (hb : Below w.heap.size w W) :
    RkM (W.alloc (.cells #[.int .u8 A.c, s, t] 61)) W.heap.size s t A ∧ (∀ j, RkF W.heap.size s t j → w.heap.size ≤ j) ∧ Below w.heap.size w (W.alloc (.cells #[.int .u8 A.c, s, t] 61)) := by
  have hal := Below.allocs W (.cells #[.int .u8 A.c, s, t] 61)
  refine ⟨⟨Lit.new W 61 [.int .u8 A.c, s, t], hr1.below hal, hr2.below hal, fun j hj => ⟨by have := hr1.lt j hj; omega, hap j hj⟩, fun j hj => by have := hr2.lt j hj; omega⟩, fun j hj => ?_, below_tr hb hal⟩
  rcases hj with hj | hj | hj
  · have := hb.size; omega
  · exact ho1 j hj
  · exact ho2 j hj

set_option maxRecDepth 100000 in
set_option maxHeartbeats 8000000 in
theorem rcopy_ex (w : World) (x : Nat) (sa : Option Addr) (n1 sc : Nat) (ta : Option Addr) (n2 tc : Nat) (A : Lk) (hn1 : n1 ≤ 100000) (hn2 : n2 ≤ 100000) (H : RkM w x (.slice sa n1 sc) (.slice ta n2 tc) A) :
    Calls Try.prog 12 #[.pointer (some ⟨x, 0, none⟩)] w fun e w' => ∃ x' s' t', e = .returned (.pointer (some ⟨x', 0, none⟩)) ∧ RkM w' x' s' t' A ∧ (∀ j, RkF x' s' t' j → w.heap.size ≤ j) ∧ Below w.heap.size w w' := by
  have mixed : Try.prog.follows Departure.mixedOrders = true := by kernel_rfl
  have HRK := Lib.hid H
  clear H
  go_enter Try.func12, Try.ntmps12
  go_upto_region 1 with (fail)
  refine wp_region_noPanic ?_
  refine wp_region_held_drew (S := fun W => Below w.heap.size w W) mixed ((below_drw w)) (fun hS0 => ?_)
  have HS0 := Lib.hid hS0
  clear hS0
  show wpAnyH _ _ _ _ _ 19 _ _ _
  refine wpAnyH_take (i := 0) (oi := _) (v := .pointer (some ⟨x, 0, none⟩)) rfl (by kernel_rfl) (by kernel_rfl) (by kernel_rfl) (fun _ _ _ h => h) (Or.inl ⟨by rfl, fun w' hw' => ?_⟩) (HS0.out) ?_
  · obtain ⟨d0, d1, d2, dl⟩ := (HRK.out.below hw').cells
    go_simp
    try first | with_reducible rfl | simp
  simp only [List.getElem_toArray, List.getElem_cons_zero, Act.put, List.setIfInBounds_toArray, List.set_cons_zero, List.set_cons_succ]
  refine wpAnyH_take (i := 1) (oi := _) (v := .pointer (some ⟨x, 0, none⟩)) rfl (by kernel_rfl) (by kernel_rfl) (by kernel_rfl) (fun _ _ _ h => h) (Or.inl ⟨by rfl, fun w' hw' => ?_⟩) (HS0.out) ?_
  · obtain ⟨d0, d1, d2, dl⟩ := (HRK.out.below hw').cells
    go_simp
    try first | with_reducible rfl | simp
  simp only [List.getElem_toArray, List.getElem_cons_succ, List.getElem_cons_zero, Act.put, List.setIfInBounds_toArray, List.set_cons_zero, List.set_cons_succ]
  refine wpAnyH_take (i := 2) (oi := _) (v := .pointer (some ⟨x, 0, none⟩)) rfl (by kernel_rfl) (by kernel_rfl) (by kernel_rfl) (fun _ _ _ h => h) (Or.inl ⟨by rfl, fun w' hw' => ?_⟩) (HS0.out) ?_
  · obtain ⟨d0, d1, d2, dl⟩ := (HRK.out.below hw').cells
    go_simp
    try first | with_reducible rfl | simp
  simp only [List.getElem_toArray, List.getElem_cons_succ, List.getElem_cons_zero, Act.put, List.setIfInBounds_toArray, List.set_cons_zero, List.set_cons_succ]
  refine wpAnyH_take (i := 3) (oi := _) (v := .int .u8 A.c) rfl (by kernel_rfl) (by kernel_rfl) (by kernel_rfl) (fun _ _ _ h => h) (Or.inl ⟨by rfl, fun w' hw' => ?_⟩) (HS0.out) ?_
  · obtain ⟨d0, d1, d2, dl⟩ := (HRK.out.below hw').cells
    go_simp
    try first | with_reducible rfl | simp
  simp only [List.getElem_toArray, List.getElem_cons_succ, List.getElem_cons_zero, Act.put, List.setIfInBounds_toArray, List.set_cons_zero, List.set_cons_succ]
  refine wpAnyH_take (i := 5) (oi := _) (v := .pointer (some ⟨x, 0, none⟩)) rfl (by kernel_rfl) (by kernel_rfl) (by kernel_rfl) (fun _ _ _ h => h) (Or.inl ⟨by rfl, fun w' hw' => ?_⟩) (HS0.out) ?_
  · obtain ⟨d0, d1, d2, dl⟩ := (HRK.out.below hw').cells
    go_simp
    try first | with_reducible rfl | simp
  simp only [List.getElem_toArray, List.getElem_cons_succ, List.getElem_cons_zero, Act.put, List.setIfInBounds_toArray, List.set_cons_zero, List.set_cons_succ]
  refine wpAnyH_take (i := 6) (oi := _) (v := .pointer (some ⟨x, 0, none⟩)) rfl (by kernel_rfl) (by kernel_rfl) (by kernel_rfl) (fun _ _ _ h => h) (Or.inl ⟨by rfl, fun w' hw' => ?_⟩) (HS0.out) ?_
  · obtain ⟨d0, d1, d2, dl⟩ := (HRK.out.below hw').cells
    go_simp
    try first | with_reducible rfl | simp
  simp only [List.getElem_toArray, List.getElem_cons_succ, List.getElem_cons_zero, Act.put, List.setIfInBounds_toArray, List.set_cons_zero, List.set_cons_succ]
  refine wpAnyH_take (i := 7) (oi := _) (v := .pointer (some ⟨x, 1, none⟩)) rfl (by kernel_rfl) (by kernel_rfl) (by kernel_rfl) (fun _ _ _ h => h) (Or.inl ⟨by rfl, fun w' hw' => ?_⟩) (HS0.out) ?_
  · obtain ⟨d0, d1, d2, dl⟩ := (HRK.out.below hw').cells
    go_simp
    try first | with_reducible rfl | simp
  simp only [List.getElem_toArray, List.getElem_cons_succ, List.getElem_cons_zero, Act.put, List.setIfInBounds_toArray, List.set_cons_zero, List.set_cons_succ]
  refine wpAnyH_take (i := 8) (oi := _) (v := .slice sa n1 sc) rfl (by kernel_rfl) (by kernel_rfl) (by kernel_rfl) (fun _ _ _ h => h) (Or.inl ⟨by rfl, fun w' hw' => ?_⟩) (HS0.out) ?_
  · obtain ⟨d0, d1, d2, dl⟩ := (HRK.out.below hw').cells
    go_simp
    try first | with_reducible rfl | simp
  simp only [List.getElem_toArray, List.getElem_cons_succ, List.getElem_cons_zero, Act.put, List.setIfInBounds_toArray, List.set_cons_zero, List.set_cons_succ]
  refine wpAnyH_take (i := 11) (oi := _) (v := .pointer (some ⟨x, 0, none⟩)) rfl (by kernel_rfl) (by kernel_rfl) (by kernel_rfl) (fun _ _ _ h => h) (Or.inl ⟨by rfl, fun w' hw' => ?_⟩) (HS0.out) ?_
  · obtain ⟨d0, d1, d2, dl⟩ := (HRK.out.below hw').cells
    go_simp
    try first | with_reducible rfl | simp
  simp only [List.getElem_toArray, List.getElem_cons_succ, List.getElem_cons_zero, Act.put, List.setIfInBounds_toArray, List.set_cons_zero, List.set_cons_succ]
  refine wpAnyH_take (i := 12) (oi := _) (v := .pointer (some ⟨x, 0, none⟩)) rfl (by kernel_rfl) (by kernel_rfl) (by kernel_rfl) (fun _ _ _ h => h) (Or.inl ⟨by rfl, fun w' hw' => ?_⟩) (HS0.out) ?_
  · obtain ⟨d0, d1, d2, dl⟩ := (HRK.out.below hw').cells
    go_simp
    try first | with_reducible rfl | simp
  simp only [List.getElem_toArray, List.getElem_cons_succ, List.getElem_cons_zero, Act.put, List.setIfInBounds_toArray, List.set_cons_zero, List.set_cons_succ]
  refine wpAnyH_take (i := 13) (oi := _) (v := .pointer (some ⟨x, 2, none⟩)) rfl (by kernel_rfl) (by kernel_rfl) (by kernel_rfl) (fun _ _ _ h => h) (Or.inl ⟨by rfl, fun w' hw' => ?_⟩) (HS0.out) ?_
  · obtain ⟨d0, d1, d2, dl⟩ := (HRK.out.below hw').cells
    go_simp
    try first | with_reducible rfl | simp
  simp only [List.getElem_toArray, List.getElem_cons_succ, List.getElem_cons_zero, Act.put, List.setIfInBounds_toArray, List.set_cons_zero, List.set_cons_succ]
  refine wpAnyH_take (i := 14) (oi := _) (v := .slice ta n2 tc) rfl (by kernel_rfl) (by kernel_rfl) (by kernel_rfl) (fun _ _ _ h => h) (Or.inl ⟨by rfl, fun w' hw' => ?_⟩) (HS0.out) ?_
  · obtain ⟨d0, d1, d2, dl⟩ := (HRK.out.below hw').cells
    go_simp
    try first | with_reducible rfl | simp
  simp only [List.getElem_toArray, List.getElem_cons_succ, List.getElem_cons_zero, Act.put, List.setIfInBounds_toArray, List.set_cons_zero, List.set_cons_succ]
  have hz0 : w.drew.heap.size = w.heap.size := rfl
  refine RX.anyH_fork (i1 := 4) (i2 := 10) (by kernel_rfl) ?_ ?_
  · obtain ⟨V1, hV1⟩ : ∃ V, w.drew.alloc (.cells #[] 71) = V := ⟨_, rfl⟩
    obtain ⟨g4, hg4⟩ : ∃ g, w.drew.heap.size = g := ⟨_, rfl⟩
    have hl4 : RowO true V1 (.slice (some ⟨g4, 0, none⟩) 0 0) [] := by rw [← hV1, ← hg4]; exact lit_rowO true w.drew
    have hz1 : V1.heap.size = w.drew.heap.size + 1 := by rw [← hV1]; exact World.size_alloc _ _
    have ha1 : Below w.drew.heap.size w.drew V1 := by rw [← hV1]; exact Below.allocs _ _
    have hb1 : Below w.heap.size w V1 := below_tr (below_drw w) ha1
    refine RX.opH_val (i := 4) (v := .slice (some ⟨w.drew.heap.size, 0, none⟩) 0 0) (w' := w.drew.alloc (.cells #[] 71)) rfl (by rfl) (by go_simp) (by rw [hV1]; exact below_tr (below_drw w) ha1) ?_
    simp only [List.getElem_toArray, List.getElem_cons_succ, List.getElem_cons_zero, Act.put, List.setIfInBounds_toArray, List.set_cons_zero, List.set_cons_succ]
    rw [hV1, hg4]
    refine RX.anyH_fork (i1 := 9) (i2 := 10) (by kernel_rfl) ?_ ?_
    · obtain ⟨a9, c9, V2, r9, q9, ha2, o9⟩ := copy_low hl4 (HRK.out.below hb1).hd hn1
      have hz2 := ha2.size
      have ht9 := (q9).lt
      have hb2 : Below w.heap.size w V2 := below_tr hb1 ha2
      have lit4_2 := RowO.below hl4 ha2
      refine RX.opH_app (i := 9) (v := .slice (some ⟨g4, 0, none⟩) 0 0) (u := .slice sa n1 sc) (.tmp 7) (.tmp 11) (59) (59) rfl (by rfl) rfl (by go_simp) (by go_simp) (r9 _) (below_tr hb1 ha2) ?_
      simp only [List.getElem_toArray, List.getElem_cons_succ, List.getElem_cons_zero, Act.put, List.setIfInBounds_toArray, List.set_cons_zero, List.set_cons_succ]
      obtain ⟨V3, hV3⟩ : ∃ V, V2.alloc (.cells #[] 71) = V := ⟨_, rfl⟩
      obtain ⟨g10, hg10⟩ : ∃ g, V2.heap.size = g := ⟨_, rfl⟩
      have hl10 : RowO false V3 (.slice (some ⟨g10, 0, none⟩) 0 0) [] := by rw [← hV3, ← hg10]; exact lit_rowO false V2
      have hz3 : V3.heap.size = V2.heap.size + 1 := by rw [← hV3]; exact World.size_alloc _ _
      have ha3 : Below V2.heap.size V2 V3 := by rw [← hV3]; exact Below.allocs _ _
      have hb3 : Below w.heap.size w V3 := below_tr hb2 ha3
      have lit4_3 := RowO.below lit4_2 ha3
      have row9_3 := RowO.below q9 ha3
      refine RX.anyH_val (i := 10) (v := .slice (some ⟨V2.heap.size, 0, none⟩) 0 0) (w' := V2.alloc (.cells #[] 71)) (by kernel_rfl) rfl (by rfl) (by go_simp) (by rw [hV3]; exact below_tr hb2 ha3) ?_
      simp only [List.getElem_toArray, List.getElem_cons_succ, List.getElem_cons_zero, Act.put, List.setIfInBounds_toArray, List.set_cons_zero, List.set_cons_succ]
      rw [hV3, hg10]
      obtain ⟨a15, c15, V4, r15, q15, ha4, o15⟩ := copy_low hl10 (HRK.out.below hb3).wt hn2
      have hz4 := ha4.size
      have ht15 := (q15).lt
      have hb4 : Below w.heap.size w V4 := below_tr hb3 ha4
      have lit4_4 := RowO.below lit4_3 ha4
      have lit10_4 := RowO.below hl10 ha4
      have row9_4 := RowO.below row9_3 ha4
      refine RX.anyH_app (i := 15) (v := .slice (some ⟨g10, 0, none⟩) 0 0) (u := .slice ta n2 tc) (.tmp 13) (.tmp 17) (59) (59) (by kernel_rfl) rfl (by rfl) rfl (by go_simp) (by go_simp) (r15 _) (below_tr hb3 ha4) ?_
      simp only [List.getElem_toArray, List.getElem_cons_succ, List.getElem_cons_zero, Act.put, List.setIfInBounds_toArray, List.set_cons_zero, List.set_cons_succ]
      have HE := Lib.hid (copy_fin (A := A) row9_4 q15 (fun j hj => by rcases o9 j hj with e | e <;> omega) (fun j hj => by rcases o15 j hj with e | e <;> omega) (fun j hj e => by have h1 := ht9 j hj; have h2 := ht15 j e; rcases o9 j hj with e1 | e1 <;> rcases o15 j e with e2 | e2 <;> omega) hb4)
      refine wpAnyH_take (i := 16) (oi := _) (v := .agg #[.int .u8 A.c, .slice a9 n1 c9, .slice a15 n2 c15]) rfl (by kernel_rfl) (by kernel_rfl) (by kernel_rfl) (fun _ _ _ h => h) (Or.inl ⟨by rfl, fun w' hw' => ?_⟩) (hb4) ?_
      · go_simp
        try first | with_reducible rfl | simp
      simp only [List.getElem_toArray, List.getElem_cons_succ, List.getElem_cons_zero, Act.put, List.setIfInBounds_toArray, List.set_cons_zero, List.set_cons_succ]
      refine RX.anyH_val (i := 17) (v := .pointer (some ⟨V4.heap.size, 0, none⟩)) (w' := V4.alloc (.cells #[.int .u8 A.c, .slice a9 n1 c9, .slice a15 n2 c15] 61)) (by kernel_rfl) rfl (by rfl) (by go_simp) (HE.out.2.2) ?_
      simp only [List.getElem_toArray, List.getElem_cons_succ, List.getElem_cons_zero, Act.put, List.setIfInBounds_toArray, List.set_cons_zero, List.set_cons_succ]
      refine wpAnyH_take (i := 18) (oi := _) (v := .pointer (some ⟨V4.heap.size, 0, none⟩)) rfl (by kernel_rfl) (by kernel_rfl) (by kernel_rfl) (fun _ _ _ h => h) (Or.inl ⟨by rfl, fun w' hw' => ?_⟩) (HE.out.2.2) ?_
      · go_simp
        try first | with_reducible rfl | simp
      simp only [List.getElem_toArray, List.getElem_cons_succ, List.getElem_cons_zero, Act.put, List.setIfInBounds_toArray, List.set_cons_zero, List.set_cons_succ]
      refine wpAnyH_done (by kernel_rfl) ?_ _
      refine NoPanic.normal ?_
      go_wp2_with fail
      go_ret
      exact ⟨_, _, _, rfl, HE.out.1, HE.out.2.1, HE.out.2.2⟩
    · obtain ⟨V2, hV2⟩ : ∃ V, V1.alloc (.cells #[] 71) = V := ⟨_, rfl⟩
      obtain ⟨g10, hg10⟩ : ∃ g, V1.heap.size = g := ⟨_, rfl⟩
      have hl10 : RowO false V2 (.slice (some ⟨g10, 0, none⟩) 0 0) [] := by rw [← hV2, ← hg10]; exact lit_rowO false V1
      have hz2 : V2.heap.size = V1.heap.size + 1 := by rw [← hV2]; exact World.size_alloc _ _
      have ha2 : Below V1.heap.size V1 V2 := by rw [← hV2]; exact Below.allocs _ _
      have hb2 : Below w.heap.size w V2 := below_tr hb1 ha2
      have lit4_2 := RowO.below hl4 ha2
      refine RX.opH_val (i := 10) (v := .slice (some ⟨V1.heap.size, 0, none⟩) 0 0) (w' := V1.alloc (.cells #[] 71)) rfl (by rfl) (by go_simp) (by rw [hV2]; exact below_tr hb1 ha2) ?_
      simp only [List.getElem_toArray, List.getElem_cons_succ, List.getElem_cons_zero, Act.put, List.setIfInBounds_toArray, List.set_cons_zero, List.set_cons_succ]
      rw [hV2, hg10]
      obtain ⟨a9, c9, V3, r9, q9, ha3, o9⟩ := copy_low lit4_2 (HRK.out.below hb2).hd hn1
      have hz3 := ha3.size
      have ht9 := (q9).lt
      have hb3 : Below w.heap.size w V3 := below_tr hb2 ha3
      have lit4_3 := RowO.below lit4_2 ha3
      have lit10_3 := RowO.below hl10 ha3
      refine RX.anyH_app (i := 9) (v := .slice (some ⟨g4, 0, none⟩) 0 0) (u := .slice sa n1 sc) (.tmp 7) (.tmp 11) (59) (59) (by kernel_rfl) rfl (by rfl) rfl (by go_simp) (by go_simp) (r9 _) (below_tr hb2 ha3) ?_
      simp only [List.getElem_toArray, List.getElem_cons_succ, List.getElem_cons_zero, Act.put, List.setIfInBounds_toArray, List.set_cons_zero, List.set_cons_succ]
      obtain ⟨a15, c15, V4, r15, q15, ha4, o15⟩ := copy_low lit10_3 (HRK.out.below hb3).wt hn2
      have hz4 := ha4.size
      have ht15 := (q15).lt
      have hb4 : Below w.heap.size w V4 := below_tr hb3 ha4
      have lit4_4 := RowO.below lit4_3 ha4
      have lit10_4 := RowO.below lit10_3 ha4
      have row9_4 := RowO.below q9 ha4
      refine RX.anyH_app (i := 15) (v := .slice (some ⟨g10, 0, none⟩) 0 0) (u := .slice ta n2 tc) (.tmp 13) (.tmp 17) (59) (59) (by kernel_rfl) rfl (by rfl) rfl (by go_simp) (by go_simp) (r15 _) (below_tr hb3 ha4) ?_
      simp only [List.getElem_toArray, List.getElem_cons_succ, List.getElem_cons_zero, Act.put, List.setIfInBounds_toArray, List.set_cons_zero, List.set_cons_succ]
      have HE := Lib.hid (copy_fin (A := A) row9_4 q15 (fun j hj => by rcases o9 j hj with e | e <;> omega) (fun j hj => by rcases o15 j hj with e | e <;> omega) (fun j hj e => by have h1 := ht9 j hj; have h2 := ht15 j e; rcases o9 j hj with e1 | e1 <;> rcases o15 j e with e2 | e2 <;> omega) hb4)
      refine wpAnyH_take (i := 16) (oi := _) (v := .agg #[.int .u8 A.c, .slice a9 n1 c9, .slice a15 n2 c15]) rfl (by kernel_rfl) (by kernel_rfl) (by kernel_rfl) (fun _ _ _ h => h) (Or.inl ⟨by rfl, fun w' hw' => ?_⟩) (hb4) ?_
      · go_simp
        try first | with_reducible rfl | simp
      simp only [List.getElem_toArray, List.getElem_cons_succ, List.getElem_cons_zero, Act.put, List.setIfInBounds_toArray, List.set_cons_zero, List.set_cons_succ]
      refine RX.anyH_val (i := 17) (v := .pointer (some ⟨V4.heap.size, 0, none⟩)) (w' := V4.alloc (.cells #[.int .u8 A.c, .slice a9 n1 c9, .slice a15 n2 c15] 61)) (by kernel_rfl) rfl (by rfl) (by go_simp) (HE.out.2.2) ?_
      simp only [List.getElem_toArray, List.getElem_cons_succ, List.getElem_cons_zero, Act.put, List.setIfInBounds_toArray, List.set_cons_zero, List.set_cons_succ]
      refine wpAnyH_take (i := 18) (oi := _) (v := .pointer (some ⟨V4.heap.size, 0, none⟩)) rfl (by kernel_rfl) (by kernel_rfl) (by kernel_rfl) (fun _ _ _ h => h) (Or.inl ⟨by rfl, fun w' hw' => ?_⟩) (HE.out.2.2) ?_
      · go_simp
        try first | with_reducible rfl | simp
      simp only [List.getElem_toArray, List.getElem_cons_succ, List.getElem_cons_zero, Act.put, List.setIfInBounds_toArray, List.set_cons_zero, List.set_cons_succ]
      refine wpAnyH_done (by kernel_rfl) ?_ _
      refine NoPanic.normal ?_
      go_wp2_with fail
      go_ret
      exact ⟨_, _, _, rfl, HE.out.1, HE.out.2.1, HE.out.2.2⟩
  · obtain ⟨V1, hV1⟩ : ∃ V, w.drew.alloc (.cells #[] 71) = V := ⟨_, rfl⟩
    obtain ⟨g10, hg10⟩ : ∃ g, w.drew.heap.size = g := ⟨_, rfl⟩
    have hl10 : RowO false V1 (.slice (some ⟨g10, 0, none⟩) 0 0) [] := by rw [← hV1, ← hg10]; exact lit_rowO false w.drew
    have hz1 : V1.heap.size = w.drew.heap.size + 1 := by rw [← hV1]; exact World.size_alloc _ _
    have ha1 : Below w.drew.heap.size w.drew V1 := by rw [← hV1]; exact Below.allocs _ _
    have hb1 : Below w.heap.size w V1 := below_tr (below_drw w) ha1
    refine RX.opH_val (i := 10) (v := .slice (some ⟨w.drew.heap.size, 0, none⟩) 0 0) (w' := w.drew.alloc (.cells #[] 71)) rfl (by rfl) (by go_simp) (by rw [hV1]; exact below_tr (below_drw w) ha1) ?_
    simp only [List.getElem_toArray, List.getElem_cons_succ, List.getElem_cons_zero, Act.put, List.setIfInBounds_toArray, List.set_cons_zero, List.set_cons_succ]
    rw [hV1, hg10]
    obtain ⟨V2, hV2⟩ : ∃ V, V1.alloc (.cells #[] 71) = V := ⟨_, rfl⟩
    obtain ⟨g4, hg4⟩ : ∃ g, V1.heap.size = g := ⟨_, rfl⟩
    have hl4 : RowO true V2 (.slice (some ⟨g4, 0, none⟩) 0 0) [] := by rw [← hV2, ← hg4]; exact lit_rowO true V1
    have hz2 : V2.heap.size = V1.heap.size + 1 := by rw [← hV2]; exact World.size_alloc _ _
    have ha2 : Below V1.heap.size V1 V2 := by rw [← hV2]; exact Below.allocs _ _
    have hb2 : Below w.heap.size w V2 := below_tr hb1 ha2
    have lit10_2 := RowO.below hl10 ha2
    refine RX.anyH_val (i := 4) (v := .slice (some ⟨V1.heap.size, 0, none⟩) 0 0) (w' := V1.alloc (.cells #[] 71)) (by kernel_rfl) rfl (by rfl) (by go_simp) (by rw [hV2]; exact below_tr hb1 ha2) ?_
    simp only [List.getElem_toArray, List.getElem_cons_succ, List.getElem_cons_zero, Act.put, List.setIfInBounds_toArray, List.set_cons_zero, List.set_cons_succ]
    rw [hV2, hg4]
    obtain ⟨a9, c9, V3, r9, q9, ha3, o9⟩ := copy_low hl4 (HRK.out.below hb2).hd hn1
    have hz3 := ha3.size
    have ht9 := (q9).lt
    have hb3 : Below w.heap.size w V3 := below_tr hb2 ha3
    have lit4_3 := RowO.below hl4 ha3
    have lit10_3 := RowO.below lit10_2 ha3
    refine RX.anyH_app (i := 9) (v := .slice (some ⟨g4, 0, none⟩) 0 0) (u := .slice sa n1 sc) (.tmp 7) (.tmp 11) (59) (59) (by kernel_rfl) rfl (by rfl) rfl (by go_simp) (by go_simp) (r9 _) (below_tr hb2 ha3) ?_
    simp only [List.getElem_toArray, List.getElem_cons_succ, List.getElem_cons_zero, Act.put, List.setIfInBounds_toArray, List.set_cons_zero, List.set_cons_succ]
    obtain ⟨a15, c15, V4, r15, q15, ha4, o15⟩ := copy_low lit10_3 (HRK.out.below hb3).wt hn2
    have hz4 := ha4.size
    have ht15 := (q15).lt
    have hb4 : Below w.heap.size w V4 := below_tr hb3 ha4
    have lit4_4 := RowO.below lit4_3 ha4
    have lit10_4 := RowO.below lit10_3 ha4
    have row9_4 := RowO.below q9 ha4
    refine RX.anyH_app (i := 15) (v := .slice (some ⟨g10, 0, none⟩) 0 0) (u := .slice ta n2 tc) (.tmp 13) (.tmp 17) (59) (59) (by kernel_rfl) rfl (by rfl) rfl (by go_simp) (by go_simp) (r15 _) (below_tr hb3 ha4) ?_
    simp only [List.getElem_toArray, List.getElem_cons_succ, List.getElem_cons_zero, Act.put, List.setIfInBounds_toArray, List.set_cons_zero, List.set_cons_succ]
    have HE := Lib.hid (copy_fin (A := A) row9_4 q15 (fun j hj => by rcases o9 j hj with e | e <;> omega) (fun j hj => by rcases o15 j hj with e | e <;> omega) (fun j hj e => by have h1 := ht9 j hj; have h2 := ht15 j e; rcases o9 j hj with e1 | e1 <;> rcases o15 j e with e2 | e2 <;> omega) hb4)
    refine wpAnyH_take (i := 16) (oi := _) (v := .agg #[.int .u8 A.c, .slice a9 n1 c9, .slice a15 n2 c15]) rfl (by kernel_rfl) (by kernel_rfl) (by kernel_rfl) (fun _ _ _ h => h) (Or.inl ⟨by rfl, fun w' hw' => ?_⟩) (hb4) ?_
    · go_simp
      try first | with_reducible rfl | simp
    simp only [List.getElem_toArray, List.getElem_cons_succ, List.getElem_cons_zero, Act.put, List.setIfInBounds_toArray, List.set_cons_zero, List.set_cons_succ]
    refine RX.anyH_val (i := 17) (v := .pointer (some ⟨V4.heap.size, 0, none⟩)) (w' := V4.alloc (.cells #[.int .u8 A.c, .slice a9 n1 c9, .slice a15 n2 c15] 61)) (by kernel_rfl) rfl (by rfl) (by go_simp) (HE.out.2.2) ?_
    simp only [List.getElem_toArray, List.getElem_cons_succ, List.getElem_cons_zero, Act.put, List.setIfInBounds_toArray, List.set_cons_zero, List.set_cons_succ]
    refine wpAnyH_take (i := 18) (oi := _) (v := .pointer (some ⟨V4.heap.size, 0, none⟩)) rfl (by kernel_rfl) (by kernel_rfl) (by kernel_rfl) (fun _ _ _ h => h) (Or.inl ⟨by rfl, fun w' hw' => ?_⟩) (HE.out.2.2) ?_
    · go_simp
      try first | with_reducible rfl | simp
    simp only [List.getElem_toArray, List.getElem_cons_succ, List.getElem_cons_zero, Act.put, List.setIfInBounds_toArray, List.set_cons_zero, List.set_cons_succ]
    refine wpAnyH_done (by kernel_rfl) ?_ _
    refine NoPanic.normal ?_
    go_wp2_with fail
    go_ret
    exact ⟨_, _, _, rfl, HE.out.1, HE.out.2.1, HE.out.2.2⟩

theorem rcopy_is (w : World) (x : Nat) (s t : Value) (A : Lk) (hn1 : A.hd.length ≤ 100000) (hn2 : A.wt.length ≤ 100000) (H : RkM w x s t A) :
    Calls Try.prog 12 #[.pointer (some ⟨x, 0, none⟩)] w fun e w' => ∃ x' s' t', e = .returned (.pointer (some ⟨x', 0, none⟩)) ∧ RkM w' x' s' t' A ∧ (∀ j, RkF x' s' t' j → w.heap.size ≤ j) ∧ Below w.heap.size w w' := by
  obtain ⟨a, c, rfl, -, -⟩ := H.hd.form
  obtain ⟨a2, c2, rfl, -, -⟩ := H.wt.form
  exact rcopy_ex w x a _ c a2 _ c2 A hn1 hn2 H

end Go.Proofs.Ytjjhmfpdbjflmaa
