/-
  Ask of the document's lock (stage 14).
-/
import Derived.Test.YtjjhmfpdbjflmaaPRrd
namespace Go.Proofs.Ytjjhmfpdbjflmaa
open Go.RowKit
set_option linter.unusedVariables false

theorem row_appR {kk : Bool} {W : World} {s : Value} {l m : PL} (h : RowO kk W s l) {a : Option Addr} {k c : Nat} (hm : RowO kk W (.slice a k c) m) (hn : l.length + k ≤ 1000000) :
    ∃ a' c' W6, (∀ ty, (Builtin.append_ #[59, 59] ty #[s, .slice a k c]).run Try.prog W = .ok (.slice a' (l.length + k) c') W6) ∧ RowO kk W6 (.slice a' (l.length + k) c') (l ++ m) ∧ Touch (fun j => s.ownBlock = some j) W W6 ∧ ∀ j, Value.ownBlock (.slice a' (l.length + k) c') = some j → s.ownBlock = some j ∨ W.heap.size ≤ j := by
  have hkm := hm.cap.2.2
  obtain ⟨xs, h1, h2⟩ := RowF.ex hm
  rcases h1.2 with ⟨e, -⟩ | ⟨g, c9, cur, e, -⟩
  · simp only [Value.slice.injEq] at e
    obtain ⟨rfl, e2, rfl⟩ := e
    have hm0 : m = [] := List.eq_nil_of_length_eq_zero (by rw [← hkm]; exact e2)
    subst hm0
    subst e2
    obtain ⟨sa, sc, rfl, -, -⟩ := h.form
    exact ⟨sa, sc, W, fun ty => row_app0 h ty, by rw [List.append_nil]; exact h, Touch.refl _ _, fun j hj => .inl hj⟩
  · simp only [Value.slice.injEq] at e
    obtain ⟨rfl, -, -⟩ := e
    exact row_appO h (b := g) (off := 0) m hkm.symm (fun j p hp o v hv => by
      have := hm.cells 0 j p (by simpa using hp) o v hv
      simpa using this) hn

set_option maxRecDepth 100000 in
set_option maxHeartbeats 8000000 in
theorem rask_low (w : World) (x : Nat) (y m : Int) (hy : y < 1) : Calls Try.prog 17 #[.pointer (some ⟨x, 0, none⟩), .int .i64 y, .int .u8 m] w fun e w' => e = .returned (.tuple #[.bool false, .int .i64 1]) ∧ Below w.heap.size w w' := by
  go_enter Try.func17, Try.ntmps17
  go_wp2_with fail
  exact bodyPost_ret (v := .tuple #[.bool false, .int .i64 1]) (by first | (simp [results, Try.results17, go_sem]; done) | (simp [results, Try.results17, go_sem]; rfl)) rfl ⟨rfl, Below.refl _ _⟩

set_option maxRecDepth 100000 in
set_option maxHeartbeats 8000000 in
theorem rask_mode (w : World) (x : Nat) (s t : Value) (A : Lk) (y m : Int) (hok : Ok0 A) (hm : U8 m) (H : RkM w x s t A) (hy : ¬ y < 1) (hb : mayB A.c m = false) : Calls Try.prog 17 #[.pointer (some ⟨x, 0, none⟩), .int .i64 y, .int .u8 m] w fun e w' => e = .returned (.tuple #[.bool false, .int .i64 1]) ∧ Below w.heap.size w w' := by
  have HC := Lib.hid (rmode_is w x s t A m hm hok.cls H false hb)
  clear hok hm H hb
  go_enter Try.func17, Try.ntmps17
  go_wp2_with fail
  refine HC.out.mono ?_
  rintro e w2 ⟨rfl, hb⟩
  have HB := Lib.hid hb
  clear hb HC
  go_wp2_with fail
  exact bodyPost_ret (v := .tuple #[.bool false, .int .i64 1]) (by first | (simp [results, Try.results17, go_sem]; done) | (simp [results, Try.results17, go_sem]; rfl)) rfl ⟨rfl, HB.out⟩

set_option maxRecDepth 100000 in
set_option maxHeartbeats 8000000 in
theorem rask_cov (w : World) (x : Nat) (s t : Value) (A : Lk) (y m : Int) (hok : Ok0 A) (hmc : mayB A.c m = true) (H : RkM w x s t A) (hy : ¬ y < 1) (hcv : covB A.c (heldL A.hd y) m = true) : Calls Try.prog 17 #[.pointer (some ⟨x, 0, none⟩), .int .i64 y, .int .u8 m] w fun e w' => e = .returned (.tuple #[.bool true, .int .i64 0]) ∧ Below w.heap.size w w' := by
  have mixed : Try.prog.follows Departure.mixedOrders = true := by kernel_rfl
  have HC := Lib.hid (rmode_is w x s _ A m (may_u8 hmc) hok.cls H true hmc)
  obtain ⟨hv, hhv⟩ : ∃ hv, heldL A.hd y = hv := ⟨_, rfl⟩
  have HHV := Lib.hid hhv
  have HRK := Lib.hid H
  have HM : Hid (U8 m ∧ m < 16) := Lib.hid ⟨may_u8 hmc, by have := may_8 hmc; omega⟩
  have HU : Hid (U16 hv) := Lib.hid (by rw [← hhv]; exact held_u16 hok y)
  have HOK := Lib.hid hok
  rw [hhv] at hcv
  have HCV := Lib.hid hcv
  clear H hok hmc hhv hcv
  go_enter Try.func17, Try.ntmps17
  go_wp2_with fail
  refine HC.out.mono ?_
  rintro e w1 ⟨rfl, hb1⟩
  have HB1 := Lib.hid hb1
  have HK1 := Lib.hid (HRK.out.below hb1)
  clear hb1 HC
  go_upto_region 3 with (fail)
  have hdr := below_drw w1
  try simp only [List.append_eq, List.cons_append, List.nil_append]
  refine RX.wp_region_plan (fun w w' => Below w.heap.size w w') [.it (.pointer (some ⟨x, 0, none⟩)), .it (.pointer (some ⟨x, 0, none⟩)), .it (.pointer (some ⟨x, 0, none⟩)), .it (.int .u8 A.c), .it (.pointer (some ⟨x, 0, none⟩)), .it (.int .i64 y), .it (.int .u16 hv), .it (.int .u8 m), .it (.bool true)] (by kernel_rfl) (by kernel_rfl) (fun _ => Below.refl _ _) (fun _ _ _ => below_tr) ?_
  refine RX.seqP_value (fun _ => Below.refl _ _) _ (by first | rfl | simp) (fun w' hw' hctx => by (go_simp); (try first | with_reducible rfl | simp)) ?_
  simp only [Act.put, List.setIfInBounds_toArray, List.set_cons_zero, List.set_cons_succ]
  refine RX.seqP_value (fun _ => Below.refl _ _) _ (by first | rfl | simp) (fun w' hw' hctx => by (go_simp); (try first | with_reducible rfl | simp)) ?_
  simp only [Act.put, List.setIfInBounds_toArray, List.set_cons_zero, List.set_cons_succ]
  refine RX.seqP_value (fun _ => Below.refl _ _) _ (by first | rfl | simp) (fun w' hw' hctx => by (go_simp); (try first | with_reducible rfl | simp)) ?_
  simp only [Act.put, List.setIfInBounds_toArray, List.set_cons_zero, List.set_cons_succ]
  refine RX.seqP_value (fun _ => Below.refl _ _) _ (by first | rfl | simp) (fun w' hw' hctx => ?_) ?_
  · have q := HK1.out.below (below_tr hdr hw')
    obtain ⟨d0, d1, d2, dl⟩ := q.cells
    go_simp
    try first | with_reducible rfl | simp
  simp only [Act.put, List.setIfInBounds_toArray, List.set_cons_zero, List.set_cons_succ]
  refine RX.seqP_value (fun _ => Below.refl _ _) _ (by first | rfl | simp) (fun w' hw' hctx => by (go_simp); (try first | with_reducible rfl | simp)) ?_
  simp only [Act.put, List.setIfInBounds_toArray, List.set_cons_zero, List.set_cons_succ]
  refine RX.seqP_value (fun _ => Below.refl _ _) _ (by first | rfl | simp) (fun w' hw' hctx => by (go_simp); (try first | with_reducible rfl | simp)) ?_
  simp only [Act.put, List.setIfInBounds_toArray, List.set_cons_zero, List.set_cons_succ]
  refine RX.seqP_call (43) #[.pointer (some ⟨x, 0, none⟩), .int .i64 y] (.int .u16 hv) (by first | rfl | simp) (fun w' hw' hctx => ?_) (fun w' hw' hctx => rheld_is w' x _ _ A y (HK1.out.below (below_tr hdr hw')) hv HHV.out) ?_
  · go_simp
  simp only [Act.put, List.setIfInBounds_toArray, List.set_cons_zero, List.set_cons_succ]
  refine RX.seqP_value (fun _ => Below.refl _ _) _ (by first | rfl | simp) (fun w' hw' hctx => by (go_simp); (try first | with_reducible rfl | simp)) ?_
  simp only [Act.put, List.setIfInBounds_toArray, List.set_cons_zero, List.set_cons_succ]
  refine RX.seqP_call (42) #[.int .u8 A.c, .int .u16 hv, .int .u8 m] (.bool true) (by first | rfl | simp) (fun w' hw' hctx => ?_) (fun w' hw' hctx => rcov_is A.c hv m HM.out.1 HU.out w' true HCV.out) ?_
  · go_simp
  simp only [Act.put, List.setIfInBounds_toArray, List.set_cons_zero, List.set_cons_succ]
  refine RX.seqP_nil (fun w2 hR hctx _ => ?_)
  have hb2 := below_tr hdr hR
  clear hctx hR
  have HB2 := Lib.hid (below_tr HB1.out hb2)
  have HK2 := Lib.hid (HK1.out.below hb2)
  clear hb2 hdr HK1 HB1
  go_wp2_with fail
  exact bodyPost_ret (v := .tuple #[.bool true, .int .i64 0]) (by first | (simp [results, Try.results17, go_sem]; done) | (simp [results, Try.results17, go_sem]; rfl)) rfl ⟨rfl, HB2.out⟩

set_option maxRecDepth 100000 in
set_option maxHeartbeats 8000000 in
theorem rask_wts (w : World) (x : Nat) (s t : Value) (A : Lk) (y m : Int) (hok : Ok0 A) (hmc : mayB A.c m = true) (H : RkM w x s t A) (hy : ¬ y < 1) (hcv : covB A.c (heldL A.hd y) m = false) (hin : y ∈ fsts A.wt) : Calls Try.prog 17 #[.pointer (some ⟨x, 0, none⟩), .int .i64 y, .int .u8 m] w fun e w' => e = .returned (.tuple #[.bool false, .int .i64 0]) ∧ Below w.heap.size w w' := by
  obtain ⟨i, hi⟩ : ∃ i, idxL A.wt y = i := ⟨_, rfl⟩
  have hpl : placeI A.wt y = (i : Int) := by unfold placeI; rw [if_pos hin, hi]
  have hi0 : (0 : Int) ≤ (i : Int) := by omega
  clear hi hin
  have mixed : Try.prog.follows Departure.mixedOrders = true := by kernel_rfl
  have HC := Lib.hid (rmode_is w x s _ A m (may_u8 hmc) hok.cls H true hmc)
  obtain ⟨hv, hhv⟩ : ∃ hv, heldL A.hd y = hv := ⟨_, rfl⟩
  have HHV := Lib.hid hhv
  have HRK := Lib.hid H
  have HM : Hid (U8 m ∧ m < 16) := Lib.hid ⟨may_u8 hmc, by have := may_8 hmc; omega⟩
  have HU : Hid (U16 hv) := Lib.hid (by rw [← hhv]; exact held_u16 hok y)
  have HOK := Lib.hid hok
  rw [hhv] at hcv
  have HCV := Lib.hid hcv
  clear H hok hmc hhv hcv
  go_enter Try.func17, Try.ntmps17
  go_wp2_with fail
  refine HC.out.mono ?_
  rintro e w1 ⟨rfl, hb1⟩
  have HB1 := Lib.hid hb1
  have HK1 := Lib.hid (HRK.out.below hb1)
  clear hb1 HC
  go_upto_region 3 with (fail)
  have hdr := below_drw w1
  try simp only [List.append_eq, List.cons_append, List.nil_append]
  refine RX.wp_region_plan (fun w w' => Below w.heap.size w w') [.it (.pointer (some ⟨x, 0, none⟩)), .it (.pointer (some ⟨x, 0, none⟩)), .it (.pointer (some ⟨x, 0, none⟩)), .it (.int .u8 A.c), .it (.pointer (some ⟨x, 0, none⟩)), .it (.int .i64 y), .it (.int .u16 hv), .it (.int .u8 m), .it (.bool false)] (by kernel_rfl) (by kernel_rfl) (fun _ => Below.refl _ _) (fun _ _ _ => below_tr) ?_
  refine RX.seqP_value (fun _ => Below.refl _ _) _ (by first | rfl | simp) (fun w' hw' hctx => by (go_simp); (try first | with_reducible rfl | simp)) ?_
  simp only [Act.put, List.setIfInBounds_toArray, List.set_cons_zero, List.set_cons_succ]
  refine RX.seqP_value (fun _ => Below.refl _ _) _ (by first | rfl | simp) (fun w' hw' hctx => by (go_simp); (try first | with_reducible rfl | simp)) ?_
  simp only [Act.put, List.setIfInBounds_toArray, List.set_cons_zero, List.set_cons_succ]
  refine RX.seqP_value (fun _ => Below.refl _ _) _ (by first | rfl | simp) (fun w' hw' hctx => by (go_simp); (try first | with_reducible rfl | simp)) ?_
  simp only [Act.put, List.setIfInBounds_toArray, List.set_cons_zero, List.set_cons_succ]
  refine RX.seqP_value (fun _ => Below.refl _ _) _ (by first | rfl | simp) (fun w' hw' hctx => ?_) ?_
  · have q := HK1.out.below (below_tr hdr hw')
    obtain ⟨d0, d1, d2, dl⟩ := q.cells
    go_simp
    try first | with_reducible rfl | simp
  simp only [Act.put, List.setIfInBounds_toArray, List.set_cons_zero, List.set_cons_succ]
  refine RX.seqP_value (fun _ => Below.refl _ _) _ (by first | rfl | simp) (fun w' hw' hctx => by (go_simp); (try first | with_reducible rfl | simp)) ?_
  simp only [Act.put, List.setIfInBounds_toArray, List.set_cons_zero, List.set_cons_succ]
  refine RX.seqP_value (fun _ => Below.refl _ _) _ (by first | rfl | simp) (fun w' hw' hctx => by (go_simp); (try first | with_reducible rfl | simp)) ?_
  simp only [Act.put, List.setIfInBounds_toArray, List.set_cons_zero, List.set_cons_succ]
  refine RX.seqP_call (43) #[.pointer (some ⟨x, 0, none⟩), .int .i64 y] (.int .u16 hv) (by first | rfl | simp) (fun w' hw' hctx => ?_) (fun w' hw' hctx => rheld_is w' x _ _ A y (HK1.out.below (below_tr hdr hw')) hv HHV.out) ?_
  · go_simp
  simp only [Act.put, List.setIfInBounds_toArray, List.set_cons_zero, List.set_cons_succ]
  refine RX.seqP_value (fun _ => Below.refl _ _) _ (by first | rfl | simp) (fun w' hw' hctx => by (go_simp); (try first | with_reducible rfl | simp)) ?_
  simp only [Act.put, List.setIfInBounds_toArray, List.set_cons_zero, List.set_cons_succ]
  refine RX.seqP_call (42) #[.int .u8 A.c, .int .u16 hv, .int .u8 m] (.bool false) (by first | rfl | simp) (fun w' hw' hctx => ?_) (fun w' hw' hctx => rcov_is A.c hv m HM.out.1 HU.out w' false HCV.out) ?_
  · go_simp
  simp only [Act.put, List.setIfInBounds_toArray, List.set_cons_zero, List.set_cons_succ]
  refine RX.seqP_nil (fun w2 hR hctx _ => ?_)
  have hb2 := below_tr hdr hR
  clear hctx hR
  have HB2 := Lib.hid (below_tr HB1.out hb2)
  have HK2 := Lib.hid (HK1.out.below hb2)
  clear hb2 hdr HK1 HB1
  have hcon := rplace_is w2 x _ _ A y HK2.out _ hpl
  clear hpl
  go_wp2_with fail
  refine (show Calls Try.prog _ _ _ _ from hcon).mono ?_
  rintro e w3 ⟨rfl, hb3⟩
  have HB3 := Lib.hid (below_tr HB2.out hb3)
  have HK3 := Lib.hid (HK2.out.below hb3)
  clear hcon hb3 HB2 HK2
  go_wp2_with fail
  exact bodyPost_ret (v := .tuple #[.bool false, .int .i64 0]) (by first | (simp [results, Try.results17, go_sem]; done) | (simp [results, Try.results17, go_sem]; rfl)) rfl ⟨rfl, HB3.out⟩

set_option maxRecDepth 100000 in
set_option maxHeartbeats 8000000 in
theorem rask_grant (w : World) (x : Nat) (s t : Value) (A : Lk) (y m : Int) (hok : Ok0 A) (hmc : mayB A.c m = true) (H : RkM w x s t A) (hy : ¬ y < 1) (hcv : covB A.c (heldL A.hd y) m = false) (hlen : A.hd.length + A.wt.length ≤ 50000) (hin : y ∉ fsts A.wt) (hfr : forL A.c A.hd A.wt y m = []) : Calls Try.prog 17 #[.pointer (some ⟨x, 0, none⟩), .int .i64 y, .int .u8 m] w fun e w' => e = .returned (.tuple #[.bool true, .int .i64 0]) ∧ ∃ s' t', RkM w' x s' t' ⟨A.c, giveL A.hd y m, A.wt⟩ ∧ (∀ j, RkF x s' t' j → RkF x s t j ∨ w.heap.size ≤ j) ∧ Touch (RkF x s t) w w'  := by
  have hpl : placeI A.wt y = (-1 : Int) := by unfold placeI; rw [if_neg hin]
  have HLEN : Hid (A.hd.length + A.wt.length ≤ 100000) := Lib.hid (by omega)
  obtain ⟨fl0, hfl⟩ : ∃ k, (forL A.c A.hd A.wt y m).length = k := ⟨_, rfl⟩
  have HFL := Lib.hid hfl
  obtain ⟨ta, tc, htf, -, -⟩ := H.wt.form
  obtain ⟨k, hk⟩ : ∃ k, A.wt.length = k := ⟨_, rfl⟩
  rw [hk] at htf
  subst htf
  have HKL := Lib.hid hk
  clear hin hk hfl hlen
  have hf0 : fl0 = 0 := by rw [← HFL.out, hfr]; rfl
  subst hf0
  clear hfr
  have mixed : Try.prog.follows Departure.mixedOrders = true := by kernel_rfl
  have HC := Lib.hid (rmode_is w x s _ A m (may_u8 hmc) hok.cls H true hmc)
  obtain ⟨hv, hhv⟩ : ∃ hv, heldL A.hd y = hv := ⟨_, rfl⟩
  have HHV := Lib.hid hhv
  have HRK := Lib.hid H
  have HM : Hid (U8 m ∧ m < 16) := Lib.hid ⟨may_u8 hmc, by have := may_8 hmc; omega⟩
  have HU : Hid (U16 hv) := Lib.hid (by rw [← hhv]; exact held_u16 hok y)
  have HOK := Lib.hid hok
  rw [hhv] at hcv
  have HCV := Lib.hid hcv
  clear H hok hmc hhv hcv
  go_enter Try.func17, Try.ntmps17
  go_wp2_with fail
  refine HC.out.mono ?_
  rintro e w1 ⟨rfl, hb1⟩
  have HB1 := Lib.hid hb1
  have HK1 := Lib.hid (HRK.out.below hb1)
  clear hb1 HC
  go_upto_region 3 with (fail)
  have hdr := below_drw w1
  try simp only [List.append_eq, List.cons_append, List.nil_append]
  refine RX.wp_region_plan (fun w w' => Below w.heap.size w w') [.it (.pointer (some ⟨x, 0, none⟩)), .it (.pointer (some ⟨x, 0, none⟩)), .it (.pointer (some ⟨x, 0, none⟩)), .it (.int .u8 A.c), .it (.pointer (some ⟨x, 0, none⟩)), .it (.int .i64 y), .it (.int .u16 hv), .it (.int .u8 m), .it (.bool false)] (by kernel_rfl) (by kernel_rfl) (fun _ => Below.refl _ _) (fun _ _ _ => below_tr) ?_
  refine RX.seqP_value (fun _ => Below.refl _ _) _ (by first | rfl | simp) (fun w' hw' hctx => by (go_simp); (try first | with_reducible rfl | simp)) ?_
  simp only [Act.put, List.setIfInBounds_toArray, List.set_cons_zero, List.set_cons_succ]
  refine RX.seqP_value (fun _ => Below.refl _ _) _ (by first | rfl | simp) (fun w' hw' hctx => by (go_simp); (try first | with_reducible rfl | simp)) ?_
  simp only [Act.put, List.setIfInBounds_toArray, List.set_cons_zero, List.set_cons_succ]
  refine RX.seqP_value (fun _ => Below.refl _ _) _ (by first | rfl | simp) (fun w' hw' hctx => by (go_simp); (try first | with_reducible rfl | simp)) ?_
  simp only [Act.put, List.setIfInBounds_toArray, List.set_cons_zero, List.set_cons_succ]
  refine RX.seqP_value (fun _ => Below.refl _ _) _ (by first | rfl | simp) (fun w' hw' hctx => ?_) ?_
  · have q := HK1.out.below (below_tr hdr hw')
    obtain ⟨d0, d1, d2, dl⟩ := q.cells
    go_simp
    try first | with_reducible rfl | simp
  simp only [Act.put, List.setIfInBounds_toArray, List.set_cons_zero, List.set_cons_succ]
  refine RX.seqP_value (fun _ => Below.refl _ _) _ (by first | rfl | simp) (fun w' hw' hctx => by (go_simp); (try first | with_reducible rfl | simp)) ?_
  simp only [Act.put, List.setIfInBounds_toArray, List.set_cons_zero, List.set_cons_succ]
  refine RX.seqP_value (fun _ => Below.refl _ _) _ (by first | rfl | simp) (fun w' hw' hctx => by (go_simp); (try first | with_reducible rfl | simp)) ?_
  simp only [Act.put, List.setIfInBounds_toArray, List.set_cons_zero, List.set_cons_succ]
  refine RX.seqP_call (43) #[.pointer (some ⟨x, 0, none⟩), .int .i64 y] (.int .u16 hv) (by first | rfl | simp) (fun w' hw' hctx => ?_) (fun w' hw' hctx => rheld_is w' x _ _ A y (HK1.out.below (below_tr hdr hw')) hv HHV.out) ?_
  · go_simp
  simp only [Act.put, List.setIfInBounds_toArray, List.set_cons_zero, List.set_cons_succ]
  refine RX.seqP_value (fun _ => Below.refl _ _) _ (by first | rfl | simp) (fun w' hw' hctx => by (go_simp); (try first | with_reducible rfl | simp)) ?_
  simp only [Act.put, List.setIfInBounds_toArray, List.set_cons_zero, List.set_cons_succ]
  refine RX.seqP_call (42) #[.int .u8 A.c, .int .u16 hv, .int .u8 m] (.bool false) (by first | rfl | simp) (fun w' hw' hctx => ?_) (fun w' hw' hctx => rcov_is A.c hv m HM.out.1 HU.out w' false HCV.out) ?_
  · go_simp
  simp only [Act.put, List.setIfInBounds_toArray, List.set_cons_zero, List.set_cons_succ]
  refine RX.seqP_nil (fun w2 hR hctx _ => ?_)
  have hb2 := below_tr hdr hR
  clear hctx hR
  have HB2 := Lib.hid (below_tr HB1.out hb2)
  have HK2 := Lib.hid (HK1.out.below hb2)
  clear hb2 hdr HK1 HB1
  have hcon := rplace_is w2 x _ _ A y HK2.out _ hpl
  clear hpl
  go_wp2_with fail
  refine (show Calls Try.prog _ _ _ _ from hcon).mono ?_
  rintro e w3 ⟨rfl, hb3⟩
  have HB3 := Lib.hid (below_tr HB2.out hb3)
  have HK3 := Lib.hid (HK2.out.below hb3)
  clear hcon hb3 HB2 HK2
  obtain ⟨d0, d1, d2, dl⟩ := HK3.out.cells
  have hcon := rfw_is w3 x _ _ A y m k (by rw [HKL.out]; exact Nat.le_refl _) HOK.out HM.out.1 HLEN.out HK3.out
  rw [show A.wt.take k = A.wt from by rw [← HKL.out, List.take_length]] at hcon
  go_wp2_with fail
  refine (show Calls Try.prog _ _ _ _ from hcon).mono ?_
  rintro e w4 ⟨fv, rfl, hr4, -, hb4⟩
  obtain ⟨fa, fc, rfl, -, -⟩ := hr4.form
  rw [HFL.out]
  have HB4 := Lib.hid (below_tr HB3.out hb4)
  have HK4 := Lib.hid (HK3.out.below hb4)
  clear hcon hr4 hb4 d0 d1 d2 dl HB3 HK3
  have hcon := rgive_is w4 x _ _ A y m HOK.out HM.out.1 HM.out.2 (by have := HLEN.out; omega) HK4.out
  go_wp2_with fail
  refine (show Calls Try.prog _ _ _ _ from hcon).mono ?_
  rintro e w5 ⟨rfl, s5, h5, o5, t5⟩
  have HE : Hid (RkM w5 x s5 (.slice ta k tc) ⟨A.c, giveL A.hd y m, A.wt⟩ ∧ (∀ j, RkF x s5 (.slice ta k tc) j → RkF x s (.slice ta k tc) j ∨ w.heap.size ≤ j) ∧ Touch (RkF x s (.slice ta k tc)) w w5) := Lib.hid ⟨h5, fun j hj => by
    rcases hj with hj | hj | hj
    · exact .inl (.inl hj)
    · exact (o5 j hj).imp (fun e => .inr (.inl e)) (fun e => Nat.le_trans HB4.out.size e)
    · exact .inl (.inr (.inr hj)), (Touch.of_below HB4.out).trans t5 (fun j _ hj => hj.elim (fun e => .inl e) (fun e => .inr (.inl e)))⟩
  clear hcon h5 o5 t5 HB4 HK4
  go_wp2_with fail
  exact bodyPost_ret (v := .tuple #[.bool true, .int .i64 0]) (by first | (simp [results, Try.results17, go_sem]; done) | (simp [results, Try.results17, go_sem]; rfl)) rfl ⟨rfl, _, _, HE.out⟩

set_option maxRecDepth 100000 in
set_option maxHeartbeats 8000000 in
theorem rask_wait (w : World) (x : Nat) (s t : Value) (A : Lk) (y m : Int) (hok : Ok0 A) (hmc : mayB A.c m = true) (H : RkM w x s t A) (hy : ¬ y < 1) (hcv : covB A.c (heldL A.hd y) m = false) (hlen : A.hd.length + A.wt.length ≤ 50000) (hin : y ∉ fsts A.wt) (hfr : forL A.c A.hd A.wt y m ≠ []) : Calls Try.prog 17 #[.pointer (some ⟨x, 0, none⟩), .int .i64 y, .int .u8 m] w fun e w' => e = .returned (.tuple #[.bool false, .int .i64 0]) ∧ ∃ s' t', RkM w' x s' t' ⟨A.c, A.hd, A.wt ++ [(y, m)]⟩ ∧ (∀ j, RkF x s' t' j → RkF x s t j ∨ w.heap.size ≤ j) ∧ Touch (RkF x s t) w w'  := by
  have hpl : placeI A.wt y = (-1 : Int) := by unfold placeI; rw [if_neg hin]
  have HLEN : Hid (A.hd.length + A.wt.length ≤ 100000) := Lib.hid (by omega)
  obtain ⟨fl0, hfl⟩ : ∃ k, (forL A.c A.hd A.wt y m).length = k := ⟨_, rfl⟩
  have HFL := Lib.hid hfl
  obtain ⟨ta, tc, htf, -, -⟩ := H.wt.form
  obtain ⟨k, hk⟩ : ∃ k, A.wt.length = k := ⟨_, rfl⟩
  rw [hk] at htf
  subst htf
  have HKL := Lib.hid hk
  clear hin hk hfl hlen
  have hf0 : ((fl0 : Int) == 0) = false := by
    rw [beq_eq_false_iff_ne]
    intro e
    exact hfr (List.eq_nil_of_length_eq_zero (by rw [HFL.out]; omega))
  clear hfr
  have mixed : Try.prog.follows Departure.mixedOrders = true := by kernel_rfl
  have HC := Lib.hid (rmode_is w x s _ A m (may_u8 hmc) hok.cls H true hmc)
  obtain ⟨hv, hhv⟩ : ∃ hv, heldL A.hd y = hv := ⟨_, rfl⟩
  have HHV := Lib.hid hhv
  have HRK := Lib.hid H
  have HM : Hid (U8 m ∧ m < 16) := Lib.hid ⟨may_u8 hmc, by have := may_8 hmc; omega⟩
  have HU : Hid (U16 hv) := Lib.hid (by rw [← hhv]; exact held_u16 hok y)
  have HOK := Lib.hid hok
  rw [hhv] at hcv
  have HCV := Lib.hid hcv
  clear H hok hmc hhv hcv
  go_enter Try.func17, Try.ntmps17
  go_wp2_with fail
  refine HC.out.mono ?_
  rintro e w1 ⟨rfl, hb1⟩
  have HB1 := Lib.hid hb1
  have HK1 := Lib.hid (HRK.out.below hb1)
  clear hb1 HC
  go_upto_region 3 with (fail)
  have hdr := below_drw w1
  try simp only [List.append_eq, List.cons_append, List.nil_append]
  refine RX.wp_region_plan (fun w w' => Below w.heap.size w w') [.it (.pointer (some ⟨x, 0, none⟩)), .it (.pointer (some ⟨x, 0, none⟩)), .it (.pointer (some ⟨x, 0, none⟩)), .it (.int .u8 A.c), .it (.pointer (some ⟨x, 0, none⟩)), .it (.int .i64 y), .it (.int .u16 hv), .it (.int .u8 m), .it (.bool false)] (by kernel_rfl) (by kernel_rfl) (fun _ => Below.refl _ _) (fun _ _ _ => below_tr) ?_
  refine RX.seqP_value (fun _ => Below.refl _ _) _ (by first | rfl | simp) (fun w' hw' hctx => by (go_simp); (try first | with_reducible rfl | simp)) ?_
  simp only [Act.put, List.setIfInBounds_toArray, List.set_cons_zero, List.set_cons_succ]
  refine RX.seqP_value (fun _ => Below.refl _ _) _ (by first | rfl | simp) (fun w' hw' hctx => by (go_simp); (try first | with_reducible rfl | simp)) ?_
  simp only [Act.put, List.setIfInBounds_toArray, List.set_cons_zero, List.set_cons_succ]
  refine RX.seqP_value (fun _ => Below.refl _ _) _ (by first | rfl | simp) (fun w' hw' hctx => by (go_simp); (try first | with_reducible rfl | simp)) ?_
  simp only [Act.put, List.setIfInBounds_toArray, List.set_cons_zero, List.set_cons_succ]
  refine RX.seqP_value (fun _ => Below.refl _ _) _ (by first | rfl | simp) (fun w' hw' hctx => ?_) ?_
  · have q := HK1.out.below (below_tr hdr hw')
    obtain ⟨d0, d1, d2, dl⟩ := q.cells
    go_simp
    try first | with_reducible rfl | simp
  simp only [Act.put, List.setIfInBounds_toArray, List.set_cons_zero, List.set_cons_succ]
  refine RX.seqP_value (fun _ => Below.refl _ _) _ (by first | rfl | simp) (fun w' hw' hctx => by (go_simp); (try first | with_reducible rfl | simp)) ?_
  simp only [Act.put, List.setIfInBounds_toArray, List.set_cons_zero, List.set_cons_succ]
  refine RX.seqP_value (fun _ => Below.refl _ _) _ (by first | rfl | simp) (fun w' hw' hctx => by (go_simp); (try first | with_reducible rfl | simp)) ?_
  simp only [Act.put, List.setIfInBounds_toArray, List.set_cons_zero, List.set_cons_succ]
  refine RX.seqP_call (43) #[.pointer (some ⟨x, 0, none⟩), .int .i64 y] (.int .u16 hv) (by first | rfl | simp) (fun w' hw' hctx => ?_) (fun w' hw' hctx => rheld_is w' x _ _ A y (HK1.out.below (below_tr hdr hw')) hv HHV.out) ?_
  · go_simp
  simp only [Act.put, List.setIfInBounds_toArray, List.set_cons_zero, List.set_cons_succ]
  refine RX.seqP_value (fun _ => Below.refl _ _) _ (by first | rfl | simp) (fun w' hw' hctx => by (go_simp); (try first | with_reducible rfl | simp)) ?_
  simp only [Act.put, List.setIfInBounds_toArray, List.set_cons_zero, List.set_cons_succ]
  refine RX.seqP_call (42) #[.int .u8 A.c, .int .u16 hv, .int .u8 m] (.bool false) (by first | rfl | simp) (fun w' hw' hctx => ?_) (fun w' hw' hctx => rcov_is A.c hv m HM.out.1 HU.out w' false HCV.out) ?_
  · go_simp
  simp only [Act.put, List.setIfInBounds_toArray, List.set_cons_zero, List.set_cons_succ]
  refine RX.seqP_nil (fun w2 hR hctx _ => ?_)
  have hb2 := below_tr hdr hR
  clear hctx hR
  have HB2 := Lib.hid (below_tr HB1.out hb2)
  have HK2 := Lib.hid (HK1.out.below hb2)
  clear hb2 hdr HK1 HB1
  have hcon := rplace_is w2 x _ _ A y HK2.out _ hpl
  clear hpl
  go_wp2_with fail
  refine (show Calls Try.prog _ _ _ _ from hcon).mono ?_
  rintro e w3 ⟨rfl, hb3⟩
  have HB3 := Lib.hid (below_tr HB2.out hb3)
  have HK3 := Lib.hid (HK2.out.below hb3)
  clear hcon hb3 HB2 HK2
  obtain ⟨d0, d1, d2, dl⟩ := HK3.out.cells
  have hcon := rfw_is w3 x _ _ A y m k (by rw [HKL.out]; exact Nat.le_refl _) HOK.out HM.out.1 HLEN.out HK3.out
  rw [show A.wt.take k = A.wt from by rw [← HKL.out, List.take_length]] at hcon
  go_wp2_with fail
  refine (show Calls Try.prog _ _ _ _ from hcon).mono ?_
  rintro e w4 ⟨fv, rfl, hr4, -, hb4⟩
  obtain ⟨fa, fc, rfl, -, -⟩ := hr4.form
  rw [HFL.out]
  have HB4 := Lib.hid (below_tr HB3.out hb4)
  have HK4 := Lib.hid (HK3.out.below hb4)
  clear hcon hr4 hb4 d0 d1 d2 dl HB3 HK3
  have hb1 := Below.allocs w4 (.cells #[] 71)
  have h0 := lit_rowO false w4
  have hs1 := hb1.size
  obtain ⟨a1, c1, W2, r1, q1, t1, o1⟩ := row_appR h0 (HK4.out.wt.below hb1) (by have := HLEN.out; have := HKL.out; simp; omega)
  simp only [List.length_nil, Nat.zero_add, List.nil_append] at r1 q1 o1
  have hb2 : Below w4.heap.size w4 W2 := hb1.trans (t1.below (fun j hj => by have e : w4.heap.size = j := Option.some.inj hj; omega) hs1)
  have hown1 : ∀ j, Value.ownBlock (.slice a1 k c1) = some j → w4.heap.size ≤ j := fun j hj => by
    rcases o1 j hj with e | e
    · have e : w4.heap.size = j := Option.some.inj e
      omega
    · omega
  obtain ⟨a2, c2, W6, r2, q2, t2, o2⟩ := rowO_push q1 (y, m) y 0 m (by simp [eO]) (by have := HLEN.out; have := HKL.out; omega)
  rw [HKL.out] at r2 q2 o2
  have hb6 : Below w4.heap.size w4 W6 := hb2.trans (t2.below (fun j hj => hown1 j hj) hb2.size)
  have hown2 : ∀ j, Value.ownBlock (.slice a2 (k + 1) c2) = some j → w4.heap.size ≤ j := fun j hj => by
    rcases o2 j hj with e | e
    · exact hown1 j e
    · have := hb2.size; omega
  have R1 := Lib.hid r1
  have R2 := Lib.hid r2
  have HK6 := HK4.out.below hb6
  obtain ⟨d0, d1, d2, dl⟩ := HK4.out.cells
  obtain ⟨f0, f1, f2, fl⟩ := HK6.cells
  have hz := HK6.lit.fz 2
  have hts := Touch.setCell W6 (F := fun j => j = x) rfl 2 (.slice a2 (k + 1) c2)
  have hst := hts.stay (G := fun j => j ≠ x) (fun j hj e => hj e)
  have hx4 := HK4.out.lit.lt
  have HE : Hid (RkM (W6.setCell ⟨x, 2, none⟩ (.slice a2 (k + 1) c2)) x s (.slice a2 (k + 1) c2) ⟨A.c, A.hd, A.wt ++ [(y, m)]⟩ ∧ (∀ j, RkF x s (.slice a2 (k + 1) c2) j → RkF x s (.slice ta k tc) j ∨ w.heap.size ≤ j) ∧ Touch (RkF x s (.slice ta k tc)) w (W6.setCell ⟨x, 2, none⟩ (.slice a2 (k + 1) c2))) := Lib.hid ⟨⟨HK6.lit.set 2 _, HK6.hd.stay hst (fun j hj => (HK6.ownH j hj).1), q2.stay hst (fun j hj => by have := hown2 j hj; omega), fun j hj => ⟨(HK6.ownH j hj).1, fun e => by have := hown2 j e; have := HK4.out.hd.lt j hj; omega⟩, fun j hj => by have := hown2 j hj; omega⟩, fun j hj => by
    rcases hj with hj | hj | hj
    · exact .inl (.inl hj)
    · exact .inl (.inr (.inl hj))
    · exact .inr (Nat.le_trans HB4.out.size (hown2 j hj)), ((Touch.of_below HB4.out).trans (Touch.of_below hb6) (fun _ _ h => h)).trans hts (fun j _ hj => .inl hj)⟩
  clear hb1 h0 hs1 r1 q1 t1 o1 hb2 hown1 r2 q2 t2 o2 hb6 hown2 HK6 hts hst HB4 HK4
  go_wp2_with (first | (at_builtin; refine append_stepW rfl _ _ 59 rfl _ _ _ _ rfl rfl (R1.out _) ?_; clear R1) | (at_builtin; refine append_stepW rfl _ _ 59 rfl _ _ _ _ rfl rfl (R2.out _) ?_) | fail)
  exact bodyPost_ret (v := .tuple #[.bool false, .int .i64 0]) (by first | (simp [results, Try.results17, go_sem]; done) | (simp [results, Try.results17, go_sem]; rfl)) rfl ⟨rfl, _, _, HE.out⟩

theorem rask_is (w : World) (x : Nat) (s t : Value) (A : Lk) (y m : Int) (hok : Ok0 A) (hm : U8 m) (hlen : A.hd.length + A.wt.length ≤ 50000) (H : RkM w x s t A) :
    Calls Try.prog 17 #[.pointer (some ⟨x, 0, none⟩), .int .i64 y, .int .u8 m] w fun e w' => e = .returned (.tuple #[.bool (A.askB y m), .int .i64 (A.askE y m)]) ∧ ∃ s' t', RkM w' x s' t' (A.ask y m) ∧ (∀ j, RkF x s' t' j → RkF x s t j ∨ w.heap.size ≤ j) ∧ Touch (RkF x s t) w w'  := by
  unfold Lk.askB Lk.askE Lk.ask
  have same : ∀ b i, (Calls Try.prog 17 #[.pointer (some ⟨x, 0, none⟩), .int .i64 y, .int .u8 m] w fun e w' => e = .returned (.tuple #[.bool b, .int .i64 i]) ∧ Below w.heap.size w w') → (Calls Try.prog 17 #[.pointer (some ⟨x, 0, none⟩), .int .i64 y, .int .u8 m] w fun e w' => e = .returned (.tuple #[.bool b, .int .i64 i]) ∧ ∃ s' t', RkM w' x s' t' A ∧ (∀ j, RkF x s' t' j → RkF x s t j ∨ w.heap.size ≤ j) ∧ Touch (RkF x s t) w w' ) := fun b i h => h.mono (by
    rintro e w' ⟨rfl, hb⟩
    exact ⟨rfl, s, t, H.below hb, fun j hj => .inl hj, Touch.of_below hb⟩)
  by_cases h1 : y < 1 ∨ mayB A.c m = false
  · rw [if_pos h1, if_pos h1, if_pos h1]
    refine same _ _ ?_
    by_cases hy1 : y < 1
    · exact rask_low w x y m hy1
    · exact rask_mode w x s t A y m hok hm H hy1 (h1.resolve_left hy1)
  · rw [if_neg h1, if_neg h1, if_neg h1]
    have hy1 : ¬ y < 1 := fun e => h1 (.inl e)
    have hmc : mayB A.c m = true := by
      cases hh : mayB A.c m with
      | true => rfl
      | false => exact absurd (.inr hh) h1
    by_cases h2 : covB A.c (heldL A.hd y) m = true
    · rw [if_pos h2, if_pos h2]
      exact same _ _ (rask_cov w x s t A y m hok hmc H hy1 h2)
    · rw [if_neg h2, if_neg h2]
      have h2' : covB A.c (heldL A.hd y) m = false := by simpa using h2
      by_cases h3 : y ∈ fsts A.wt
      · rw [if_pos h3, if_pos h3]
        exact same _ _ (rask_wts w x s t A y m hok hmc H hy1 h2' h3)
      · rw [if_neg h3, if_neg h3]
        by_cases h4 : forL A.c A.hd A.wt y m = []
        · rw [if_pos h4, decide_eq_true h4]
          exact rask_grant w x s t A y m hok hmc H hy1 h2' hlen h3 h4
        · rw [if_neg h4, decide_eq_false h4]
          exact rask_wait w x s t A y m hok hmc H hy1 h2' hlen h3 h4

end Go.Proofs.Ytjjhmfpdbjflmaa
