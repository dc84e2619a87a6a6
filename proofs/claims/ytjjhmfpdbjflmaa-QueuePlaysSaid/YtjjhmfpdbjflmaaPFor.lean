/-
  slices.Compact of numbers that stand by size, and For: walked (stage 14).
-/
import Derived.Test.YtjjhmfpdbjflmaaPBkd
namespace Go.Proofs.Ytjjhmfpdbjflmaa
open Go.RowKit
set_option linter.unusedVariables false

theorem compact_rise (d : Array Int) : ∀ m, m ≤ d.size → (∀ j, j + 1 < m → d[j]! ≤ d[j + 1]!) → RiseL (Lib.compactUpTo d m) ∧ (∀ y, y ∈ Lib.compactUpTo d m ↔ ∃ j, j < m ∧ d[j]! = y) ∧ ∀ y ∈ Lib.compactUpTo d m, y ≤ d[m - 1]!
  | 0, _, _ => ⟨List.Pairwise.nil, fun y => ⟨fun h => (by cases h), fun ⟨j, hj, _⟩ => (by omega)⟩, fun y hy => (by cases hy)⟩
  | m + 1, hm, hs => by
    obtain ⟨h1, h2, h3⟩ := compact_rise d m (by omega) (fun j hj => hs j (by omega))
    rw [Lib.compactUpTo_succ]
    by_cases hk : Lib.keeps d m = true
    · rw [if_pos hk]
      have hlt : ∀ y ∈ Lib.compactUpTo d m, y < d[m]! := fun y hy => by
        obtain ⟨j, hj, _⟩ := (h2 y).1 hy
        have hm0 : m ≠ 0 := by omega
        have hne : d[m]! ≠ d[m - 1]! := by
          unfold Lib.keeps at hk
          simp [hm0] at hk
          simpa using hk
        have h4 := hs (m - 1) (by omega)
        rw [show m - 1 + 1 = m by omega] at h4
        have := h3 y hy
        omega
      refine ⟨?_, fun y => ?_, fun y hy => ?_⟩
      · unfold RiseL
        rw [List.pairwise_append]
        exact ⟨h1, List.pairwise_singleton _ _, fun a ha c hc => by rw [List.mem_singleton] at hc; rw [hc]; exact hlt a ha⟩
      · rw [List.mem_append, h2, List.mem_singleton]
        constructor
        · rintro (⟨j, hj, e⟩ | rfl)
          · exact ⟨j, by omega, e⟩
          · exact ⟨m, by omega, rfl⟩
        · rintro ⟨j, hj, e⟩
          by_cases hjm : j = m
          · right; rw [← e, hjm]
          · left; exact ⟨j, by omega, e⟩
      · rw [Nat.add_sub_cancel]
        rcases List.mem_append.1 hy with hy | hy
        · exact Int.le_of_lt (hlt y hy)
        · rw [List.mem_singleton] at hy; rw [hy]; exact Int.le_refl _
    · have hk' : m ≠ 0 ∧ d[m]! = d[m - 1]! := by
        unfold Lib.keeps at hk
        simpa [not_or] using hk
      rw [if_neg hk, List.append_nil]
      refine ⟨h1, fun y => ?_, fun y hy => ?_⟩
      · rw [h2]
        constructor
        · rintro ⟨j, hj, e⟩; exact ⟨j, by omega, e⟩
        · rintro ⟨j, hj, e⟩
          by_cases hjm : j = m
          · exact ⟨m - 1, by omega, by rw [← hk'.2, ← hjm]; exact e⟩
          · exact ⟨j, by omega, e⟩
      · rw [Nat.add_sub_cancel, hk'.2]
        exact h3 y hy

/-- Numbers by size, each once. -/
def onceL (l : List Int) : List Int := Lib.compactUpTo (sortI l).toArray (sortI l).length
theorem sortI_le (l : List Int) : (sortI l).Pairwise fun x y => x ≤ y := by
  have h1 : (sortI l).Pairwise fun x y => decide (x ≤ y) = true := List.pairwise_mergeSort (le := fun x y : Int => decide (x ≤ y)) (fun a b c h1 h2 => by simp at h1 h2 ⊢; omega) (fun a b => by simp; omega) l
  exact h1.imp fun h => by simpa using h
theorem once_is (l : List Int) : RiseL (onceL l) ∧ ∀ y, y ∈ onceL l ↔ y ∈ l := by
  have hp := List.pairwise_iff_getElem.1 (sortI_le l)
  obtain ⟨h1, h2, _⟩ := compact_rise (sortI l).toArray (sortI l).length (by simp) (fun j hj => by
    have := hp j (j + 1) (by omega) hj (by omega)
    rw [getElem!_pos _ j (by simp; omega), getElem!_pos _ (j + 1) (by simpa using hj)]
    simpa using this)
  refine ⟨h1, fun y => (h2 y).trans ?_⟩
  rw [← (sortI_perm l).mem_iff, List.mem_iff_getElem]
  constructor
  · rintro ⟨j, hj, e⟩
    refine ⟨j, hj, ?_⟩
    rw [getElem!_pos _ j (by simpa using hj)] at e
    simpa using e
  · rintro ⟨j, hj, e⟩
    refine ⟨j, hj, ?_⟩
    rw [getElem!_pos _ j (by simpa using hj)]
    simpa using e
theorem once_fin {A : Lk} {x m : Int} {bef : PL} {S : List Int} (h : FinB A x m bef S) : onceL S = forL A.c A.hd bef x m :=
  rise_eq (once_is S).1 (forL_rise _ _ _ _ _) fun y => by rw [(once_is S).2, h y, mem_forL]

set_option maxRecDepth 100000 in
set_option maxHeartbeats 4000000 in
theorem compact_nil (w : World) : Calls Try.prog 49 #[.slice none 0 0] w fun r w' => r = .returned (.slice none 0 0) ∧ Below w.heap.size w w' := by
  go_enter Try.func49, Try.ntmps49
  go_wp2_with fail
  go_ret
  exact ⟨rfl, Below.refl _ _⟩

theorem compact_is (w : World) (v : Value) (S : List Int) (hS : S.length ≤ 100000) (h : RowI w v (sortI S)) :
    Calls Try.prog 49 #[v] w fun r w' => ∃ v', r = .returned v' ∧ RowI w' v' (onceL S) ∧ v'.ownBlock = v.ownBlock ∧ Touch (fun k => v.ownBlock = some k) w w' := by
  have hl : (sortI S).length ≤ 100000 := by rw [(sortI_perm S).length_eq]; exact hS
  obtain ⟨L, hL⟩ : ∃ L, sortI S = L := ⟨_, rfl⟩
  have hon : onceL S = Lib.compactUpTo L.toArray L.length := by unfold onceL; rw [hL]
  rw [hL] at h hl
  have ho := h.own
  rcases ho.2 with ⟨rfl, h0⟩ | ⟨b, c, cur, rfl, hb, hg, hnc, hcm, hcs, hx⟩
  · have e : L = [] := List.eq_nil_of_length_eq_zero h0
    subst e
    refine (compact_nil w).mono ?_
    rintro e w' ⟨rfl, hb⟩
    refine ⟨_, rfl, ?_, rfl, Touch.of_below hb⟩
    rw [hon]
    exact RowF.nil _ _ _ _
  · have hH : Sort.Holds (Value.int .i64) w b 0 L.toArray := fun j hj => by
      have hj' : j < L.length := by simpa using hj
      rw [Nat.zero_add, ho.cellAt j (by omega)]
      refine ⟨?_, ho.frozenAt j⟩
      rw [getElem!_pos L.toArray j hj]
      simp [hj']
    have hcon := AnyE.slices_Compact Try.compactI (Value.int .i64) (fun _ => rfl) (EqlAt.intD _ _ _) (NeqAt.intD _ _ _) 0 (fun w => by kernel_rfl) b 0 c L.toArray w hH (by simp; omega) (by simpa using hnc)
    refine (show Calls Try.prog 49 _ _ _ from hcon).mono ?_
    rintro e w' ⟨rfl, q, rfl⟩
    have hd : Below w.heap.size w (Sort.ahead w q) := ⟨rfl, rfl, rfl, Nat.le_refl _, fun _ _ => rfl⟩
    simp only [List.size_toArray]
    obtain ⟨C, hC⟩ : ∃ C, Lib.compactUpTo L.toArray L.length = C := ⟨_, rfl⟩
    have hCl : C.length ≤ L.length := by
      rw [← hC]
      unfold Lib.compactUpTo
      rw [List.length_map]
      exact Nat.le_trans (List.length_filter_le _ _) (by simp)
    rw [hC] at hon ⊢
    obtain ⟨M, hM⟩ : ∃ M, C ++ List.replicate (L.length - C.length) 0 = M := ⟨_, rfl⟩
    have hMl : M.length = L.length := by rw [← hM]; simp; omega
    rw [hM]
    have h1 := rowI_putRow (m := M) (RowF.below h hd) rfl hMl
    refine ⟨_, rfl, ?_, rfl, ((Touch.of_below hd).trans (putRow_touch _ b _) (fun _ _ h => h)).mono (fun k hk => by rw [hk]; rfl)⟩
    rw [hon]
    have h2 : RowF 3 1 (Sort.putRow (Value.int .i64) (Sort.ahead w q) b 0 M.toArray) (.slice (some ⟨b, 0, none⟩) L.length c) L.length (numR fun j => M.getD j 0) := by
      unfold RowI at h1
      rw [hMl] at h1
      exact h1
    refine (row_cut h2 hCl).congr fun j hj => ?_
    unfold numR
    rw [← hM]
    simp [hj, List.getElem?_append_left]

theorem befs {A : Lk} (hok : Ok0 A) {x : Int} (hx : x ∈ fsts A.wt) : ∀ p ∈ A.wt.take (idxL A.wt x), U8 p.2 ∧ p.1 ≠ x := by
  intro p hp
  refine ⟨may_u8 (hok.wts p (List.mem_of_mem_take hp)).2.2, ?_⟩
  obtain ⟨j, hj⟩ := List.getElem?_of_mem hp
  have hjl : j < idxL A.wt x := by
    have := (List.getElem?_eq_some_iff.1 hj).1
    rw [List.length_take] at this
    omega
  rw [List.getElem?_take_of_lt hjl] at hj
  exact (idx_in hx).2.2 j hjl p hj

set_option maxRecDepth 100000 in
set_option maxHeartbeats 4000000 in
theorem for_nil (x : Int) (w : World) : Calls Try.prog 21 #[.pointer none, .int .i64 x] w fun e w' => e = .returned (.slice none 0 0) ∧ Below w.heap.size w w' := by
  have HC := Lib.hid (place_nil x w)
  go_enter Try.func21, Try.ntmps21
  go_wp2_with fail
  refine HC.out.mono ?_
  rintro e w1 ⟨rfl, hb1⟩
  have HB := Lib.hid hb1
  clear hb1 HC
  go_wp2_with fail
  go_ret
  exact ⟨rfl, HB.out⟩

set_option maxRecDepth 100000 in
set_option maxHeartbeats 4000000 in
theorem for_no (w : World) (h b : Nat) (s : Value) (n : Nat) (A : Lk) (x : Int) (hn : A.wt.length ≤ 100000) (H : LkM w h b s n A) (hx : x ∉ fsts A.wt) :
    Calls Try.prog 21 #[.pointer (some ⟨h, 0, none⟩), .int .i64 x] w fun e w' => e = .returned (.slice none 0 0) ∧ Below w.heap.size w w' := by
  have hr : placeI A.wt x = -1 := by unfold placeI; rw [if_neg hx]
  have HC := Lib.hid (place_is w h b s n A x hn H _ hr)
  clear H hr
  go_enter Try.func21, Try.ntmps21
  go_wp2_with fail
  refine HC.out.mono ?_
  rintro e w1 ⟨rfl, hb1⟩
  have HB := Lib.hid hb1
  clear hb1 HC
  go_wp2_with fail
  go_ret
  exact ⟨rfl, HB.out⟩

set_option maxRecDepth 100000 in
set_option maxHeartbeats 4000000 in
theorem for_yes (w : World) (h b : Nat) (bq k c : Nat) (n : Nat) (A : Lk) (x : Int) (hok : Ok0 A) (hnn : n + A.wt.length ≤ 100000) (hk : A.wt.length = k) (H : LkM w h b (.slice (some ⟨bq, 0, none⟩) k c) n A) (hx : x ∈ fsts A.wt) :
    Calls Try.prog 21 #[.pointer (some ⟨h, 0, none⟩), .int .i64 x] w fun e w' => ∃ v, e = .returned v ∧ RowI w' v (A.whom x) ∧ (∀ k, v.ownBlock = some k → w.heap.size ≤ k) ∧ Below w.heap.size w w' := by
  have mixed : Try.prog.follows Departure.mixedOrders = true := by kernel_rfl
  obtain ⟨i1, i2, i3⟩ := idx_in hx
  have hbf := befs hok hx
  have hwm : A.whom x = forL A.c A.hd (A.wt.take (idxL A.wt x)) x (heldL A.wt x) := by unfold Lk.whom; rw [if_pos hx]
  obtain ⟨i, hi⟩ : ∃ i, idxL A.wt x = i := ⟨_, rfl⟩
  obtain ⟨m, hm⟩ : ∃ m, heldL A.wt x = m := ⟨_, rfl⟩
  rw [hi, hm] at i2 hwm
  rw [hi] at i1 hbf
  have hpm := hok.wts (x, m) (List.mem_of_getElem? i2)
  have hr : placeI A.wt x = i := by unfold placeI; rw [if_pos hx, hi]
  have HC := Lib.hid (place_is w h b _ n A x (by omega) H _ hr)
  obtain ⟨bef, hbe⟩ : ∃ bef, A.wt.take i = bef := ⟨_, rfl⟩
  have hlb : bef.length = i := by rw [← hbe, List.length_take]; omega
  have hbr : RowQ w (.slice (some ⟨bq, 0, none⟩) i c) bef := by
    have h1 := (RowQ.rowP hk H.row).cut (k := i) (by omega)
    refine (RowP.rowQ h1 ?_).1
    rw [← hbe]
    apply List.ext_getElem?
    intro t
    by_cases ht : t < i
    · rw [List.getElem?_map, List.getElem?_range ht, List.getElem?_take_of_lt ht, List.getElem?_eq_getElem (by omega)]
      have : t < A.wt.length := by omega
      simp [this]
    · rw [List.getElem?_eq_none (by simp; omega), List.getElem?_eq_none (by rw [List.length_take]; omega)]
  rw [hbe] at hwm hbf
  have HWM := Lib.hid hwm
  have HL0 := Lib.hid H
  have HI := Lib.hid i2
  have HK := Lib.hid hk
  have HOK := Lib.hid hok
  have HM : Hid (U8 m) := Lib.hid (may_u8 hpm.2.2)
  have HX : Hid (I64 x) := Lib.hid hpm.2.1
  have HBF := Lib.hid hbf
  have HBR0 := Lib.hid hbr
  have HNN : Hid (n + bef.length ≤ 100000) := Lib.hid (by omega)
  have HZ : Hid ((0 : Int) ≤ (i : Int) ∧ (i : Int) < (k : Int)) := Lib.hid ⟨by omega, by omega⟩
  have HZC : Hid (i ≤ c) := Lib.hid (by obtain ⟨h1, h2⟩ := (RowQ.rowP hk H.row).cap; omega)
  have i1n : ¬ (i : Int) < 0 := by omega
  clear H hok hnn hr i1 i2 i3 hx hi hm hbf hwm hpm hbe hlb hbr hk
  go_enter Try.func21, Try.ntmps21
  go_wp2_with fail
  refine HC.out.mono ?_
  rintro e w1 ⟨rfl, hb1⟩
  have HB1 := Lib.hid hb1
  have HL := Lib.hid (HL0.out.below hb1)
  have HBR := Lib.hid (HBR0.out.below hb1)
  clear hb1 HC HL0 HBR0
  go_upto_region 4 with (fail)
  have hdr := below_drw w1
  try simp only [List.append_eq, List.cons_append, List.nil_append]
  refine RX.wp_region_planG 16 (fun w w' => Below w.heap.size w w') [.it (.pointer (some ⟨h, 0, none⟩)), .it (.pointer (some ⟨h, 0, none⟩)), .it (.pointer (some ⟨h, 0, none⟩)), .it (.pointer (some ⟨h, 2, none⟩)), .it (.slice (some ⟨bq, 0, none⟩) k c), .it (.int .i64 i), .it (.pointer (some ⟨bq, i * 2, none⟩)), .it (.agg #[.int .i64 x, .int .u8 m]), .it (.pointer (some ⟨h, 0, none⟩)), .it (.pointer (some ⟨h, 0, none⟩)), .it (.pointer (some ⟨h, 2, none⟩)), .it (.slice (some ⟨bq, 0, none⟩) k c), .it (.int .i64 i), .it (.slice (some ⟨bq, 0, none⟩) i c), .of (fun W v => ∃ e9, v = blkV e9 ∧ ∃ ob9, Cau h b (.slice (some ⟨bq, 0, none⟩) k c) n A e9 x m (.slice (some ⟨bq, 0, none⟩) i c) bef ob9 W), .of (fun W v => ∃ S, FinB A x m bef S ∧ RowI W v (sortI S) ∧ S.length ≤ 100000 ∧ ∀ k, v.ownBlock = some k → w1.heap.size ≤ k)] mixed (by kernel_rfl) (fun _ => Below.refl _ _) (fun _ _ _ => below_tr) ?_
  simp only [List.take_succ_cons, List.take_zero, List.drop_succ_cons, List.drop_zero]
  refine RX.seqP_value (fun _ => Below.refl _ _) _ (by first | rfl | simp) (fun w' hw' hctx => by (go_simp); (try first | with_reducible rfl | simp)) ?_
  simp only [Act.put, List.setIfInBounds_toArray, List.set_cons_zero, List.set_cons_succ]
  refine RX.seqP_value (fun _ => Below.refl _ _) _ (by first | rfl | simp) (fun w' hw' hctx => by (go_simp); (try first | with_reducible rfl | simp)) ?_
  simp only [Act.put, List.setIfInBounds_toArray, List.set_cons_zero, List.set_cons_succ]
  refine RX.seqP_value (fun _ => Below.refl _ _) _ (by first | rfl | simp) (fun w' hw' hctx => by (go_simp); (try first | with_reducible rfl | simp)) ?_
  simp only [Act.put, List.setIfInBounds_toArray, List.set_cons_zero, List.set_cons_succ]
  refine RX.seqP_value (fun _ => Below.refl _ _) _ (by first | rfl | simp) (fun w' hw' hctx => by (go_simp); (try first | with_reducible rfl | simp)) ?_
  simp only [Act.put, List.setIfInBounds_toArray, List.set_cons_zero, List.set_cons_succ]
  refine RX.seqP_value (fun _ => Below.refl _ _) _ (by first | rfl | simp) (fun w' hw' hctx => ?_) ?_
  · have q := HL.out.below (below_tr hdr hw')
    obtain ⟨d0, d1, d2, dl⟩ := q.cells
    go_simp
    try first | with_reducible rfl | simp
  simp only [Act.put, List.setIfInBounds_toArray, List.set_cons_zero, List.set_cons_succ]
  refine RX.seqP_value (fun _ => Below.refl _ _) _ (by first | rfl | simp) (fun w' hw' hctx => by (go_simp); (try first | with_reducible rfl | simp)) ?_
  simp only [Act.put, List.setIfInBounds_toArray, List.set_cons_zero, List.set_cons_succ]
  refine RX.seqP_value (fun _ => Below.refl _ _) _ (by first | rfl | simp) (fun w' hw' hctx => ?_) ?_
  · have z0 := HZ.out.1
    have z1 := HZ.out.2
    go_simp
    try first | with_reducible rfl | simp
  simp only [Act.put, List.setIfInBounds_toArray, List.set_cons_zero, List.set_cons_succ]
  refine RX.seqP_value (fun _ => Below.refl _ _) _ (by first | rfl | simp) (fun w' hw' hctx => ?_) ?_
  · obtain ⟨b9, c9, e9, -, -, d5, d3, d4⟩ := (HL.out.below (below_tr hdr hw')).row.at HI.out
    rw [HK.out] at e9
    cases e9
    have z0 := HZ.out.1
    have z1 := HZ.out.2
    go_simp
    try first | with_reducible rfl | simp
  simp only [Act.put, List.setIfInBounds_toArray, List.set_cons_zero, List.set_cons_succ]
  refine RX.seqP_value (fun _ => Below.refl _ _) _ (by first | rfl | simp) (fun w' hw' hctx => by (go_simp); (try first | with_reducible rfl | simp)) ?_
  simp only [Act.put, List.setIfInBounds_toArray, List.set_cons_zero, List.set_cons_succ]
  refine RX.seqP_value (fun _ => Below.refl _ _) _ (by first | rfl | simp) (fun w' hw' hctx => by (go_simp); (try first | with_reducible rfl | simp)) ?_
  simp only [Act.put, List.setIfInBounds_toArray, List.set_cons_zero, List.set_cons_succ]
  refine RX.seqP_value (fun _ => Below.refl _ _) _ (by first | rfl | simp) (fun w' hw' hctx => by (go_simp); (try first | with_reducible rfl | simp)) ?_
  simp only [Act.put, List.setIfInBounds_toArray, List.set_cons_zero, List.set_cons_succ]
  refine RX.seqP_value (fun _ => Below.refl _ _) _ (by first | rfl | simp) (fun w' hw' hctx => ?_) ?_
  · have q := HL.out.below (below_tr hdr hw')
    obtain ⟨d0, d1, d2, dl⟩ := q.cells
    go_simp
    try first | with_reducible rfl | simp
  simp only [Act.put, List.setIfInBounds_toArray, List.set_cons_zero, List.set_cons_succ]
  refine RX.seqP_value (fun _ => Below.refl _ _) _ (by first | rfl | simp) (fun w' hw' hctx => by (go_simp); (try first | with_reducible rfl | simp)) ?_
  simp only [Act.put, List.setIfInBounds_toArray, List.set_cons_zero, List.set_cons_succ]
  refine RX.seqP_value (fun _ => Below.refl _ _) _ (by first | rfl | simp) (fun w' hw' hctx => ?_) ?_
  · have z0 := HZ.out.1
    have z1 := HZ.out.2
    have z2 := HZC.out
    go_simp
    try first | with_reducible rfl | simp
  simp only [Act.put, List.setIfInBounds_toArray, List.set_cons_zero, List.set_cons_succ]
  refine RX.seqP_callOf (51) #[.pointer (some ⟨h, 0, none⟩), .agg #[.int .i64 x, .int .u8 m], .slice (some ⟨bq, 0, none⟩) i c] (fun W v => ∃ e9, v = blkV e9 ∧ ∃ ob9, Cau h b (.slice (some ⟨bq, 0, none⟩) k c) n A e9 x m (.slice (some ⟨bq, 0, none⟩) i c) bef ob9 W) (fun w w' v hb h => by obtain ⟨e9, h1, ob9, h2⟩ := h; exact ⟨e9, h1, ob9, h2.below hb⟩) (by first | rfl | simp) (fun w' hw' hctx => ?_) (fun w' hw' hctx => (blockers_is w' h b _ n A x m _ bef (HL.out.below (below_tr hdr hw')) (HBR.out.below (below_tr hdr hw'))).mono fun e w2 ⟨he, hl, hb⟩ => ⟨_, he, hb, _, rfl, _, hl⟩) (fun u14 => ?_)
  · go_simp
  simp only [Act.put, List.setIfInBounds_toArray, List.set_cons_zero, List.set_cons_succ]
  refine RX.seqP_callOf (50) #[u14] (fun W v => ∃ S, FinB A x m bef S ∧ RowI W v (sortI S) ∧ S.length ≤ 100000 ∧ ∀ k, v.ownBlock = some k → w1.heap.size ≤ k) (fun w w' v hb h => by obtain ⟨S, h1, h2, h3, h4⟩ := h; exact ⟨S, h1, RowF.below h2 hb, h3, h4⟩) (by first | rfl | simp) (fun w' hw' hctx => ?_) (fun w' hw' hctx => by obtain ⟨e9, hu, ob9, hc9⟩ := hctx.1; rw [hu]; exact (sortedB_is w' h b _ n A e9 x m _ bef ob9 hc9 HOK.out HM.out HX.out HBF.out HNN.out).mono fun e w2 ⟨v, he, S, q1, q2, q3, q4, q5⟩ => ⟨v, he, q5, S, q1, q2, q3, fun k hk => Nat.le_trans ((below_tr hdr hw')).size (q4 k hk)⟩) (fun u15 => ?_)
  · go_simp
  simp only [Act.put, List.setIfInBounds_toArray, List.set_cons_zero, List.set_cons_succ]
  refine RX.seqP_nil (fun w2 hR hctx _ => ?_)
  have hb2 := below_tr hdr hR
  obtain ⟨S, q1, q2, q3, q4⟩ := hctx.1
  have hcp := compact_is w2 u15 S q3 q2
  obtain ⟨va, vc, hvf, -, -⟩ := q2.form
  have HCP := Lib.hid hcp
  have HE := Lib.hid (And.intro q1 (And.intro q4 hb2))
  clear q1 q2 q3 q4 hb2 hcp hctx hR hdr hvf
  unfold RX.lastQ
  go_wp2_with fail
  refine HCP.out.mono ?_
  rintro e w3 ⟨v, rfl, r1, r2, r3⟩
  have HF := Lib.hid (And.intro r1 (And.intro r2 r3))
  clear r1 r2 r3 HCP
  go_wp2_with fail
  go_ret
  obtain ⟨q1, q4, hb2⟩ := HE.out
  obtain ⟨r1, r2, r3⟩ := HF.out
  rw [once_fin q1, ← HWM.out] at r1
  have hbb := below_tr HB1.out hb2
  exact ⟨v, rfl, r1, fun k hk => by rw [r2] at hk; exact Nat.le_trans HB1.out.size (q4 k hk), hbb.trans (r3.below (fun k hk => Nat.le_trans HB1.out.size (q4 k hk)) hbb.size)⟩

theorem for_is (w : World) (h b : Nat) (s : Value) (n : Nat) (A : Lk) (x : Int) (hok : Ok0 A) (hnn : n + A.wt.length ≤ 100000) (H : LkM w h b s n A) :
    Calls Try.prog 21 #[.pointer (some ⟨h, 0, none⟩), .int .i64 x] w fun e w' => ∃ v, e = .returned v ∧ RowI w' v (A.whom x) ∧ (∀ k, v.ownBlock = some k → w.heap.size ≤ k) ∧ Below w.heap.size w w' := by
  by_cases hx : x ∈ fsts A.wt
  · obtain ⟨p, hp⟩ := List.getElem?_of_mem (List.mem_map.1 hx).choose_spec.1
    obtain ⟨bq, c, rfl, -⟩ := H.row.at hp
    exact for_yes w h b bq _ c n A x hok hnn rfl H hx
  · refine (for_no w h b s n A x (by omega) H hx).mono ?_
    rintro e w' ⟨rfl, hb⟩
    refine ⟨_, rfl, ?_, fun k hk => (by cases hk), hb⟩
    unfold Lk.whom
    rw [if_neg hx]
    exact RowF.nil _ _ _ _

end Go.Proofs.Ytjjhmfpdbjflmaa
