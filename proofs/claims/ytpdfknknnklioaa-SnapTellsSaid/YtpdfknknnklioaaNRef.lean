/-
  The document's own Own, Sees, Later, Now: walked (stage 10).
-/
import Derived.Test.YtpdfknknnklioaaNSnap
import Derived.Test.YtpdfknknnklioaaYRef3
import Derived.Test.YtpdfknknnklioaaYStayM
namespace Go.Proofs.Ytpdfknknnklioaa
open Go.RowKit
set_option linter.unusedVariables false

/-- The document's table, of no more than a thousand. -/
def RV (W : World) (x : Nat) (T : Tb) : Prop := ∃ F, IsR W x T F ∧ T.Ok ∧ T.n ≤ 1000

/-- The number of one that counts is that of its top one. -/
theorem num_top {T : Tb} (hok : T.Ok) {id : Int} (h : T.cnt id = true) : T.numI (T.g T.top id) = T.numI id := by
  by_cases hin : 1 ≤ id ∧ id ≤ T.n
  · obtain ⟨k, rfl⟩ : ∃ k : Nat, id = (k : Int) := ⟨id.toNat, by omega⟩
    have hc := cnt_is hok (k := k) (by omega) (by omega)
    rw [h] at hc
    have h3 : T.st k ≠ 3 := of_decide_eq_true hc.symm
    have ht := hok.top_in k (by omega) (by omega)
    have hts := hok.top_st k (by omega) (by omega)
    have hs := hok.st1 k (by omega) (by omega)
    rw [Tb.g_in hin, Int.toNat_natCast, numI_is hok (by omega) (by omega), numI_is hok (by omega) (by omega), if_neg (by omega), if_neg h3, hok.top0 (T.top k) (by omega) (by omega) ht.2.2]
  · unfold Tb.cnt at h
    rw [Tb.g_out hin] at h
    exact absurd h (by decide)

/-- One that counts has a top one. -/
theorem cnt_top {T : Tb} (hok : T.Ok) {id : Int} (h : T.cnt id = true) : 1 ≤ T.g T.top id := by
  by_cases hin : 1 ≤ id ∧ id ≤ T.n
  · rw [Tb.g_in hin]
    have := hok.top_in id.toNat (by omega) (by omega)
    omega
  · unfold Tb.cnt at h
    rw [Tb.g_out hin] at h
    exact absurd h (by decide)

section
variable {w W' : World} {x : Nat} {T : Tb}
theorem RV.below (h : RV w x T) (hb : Below w.heap.size w W') : RV W' x T := by
  obtain ⟨F, h1, h2⟩ := h
  exact ⟨F, h1.below hb, h2⟩
theorem rv_counts (h : RV w x T) (id : Int) (hi : I64 id) (b : Bool) (hb : T.cnt id = b) : Calls Try.prog 32 #[.pointer (some ⟨x, 0, none⟩), .int .i64 id] w fun e w' => e = .returned (.bool b) ∧ Below w.heap.size w w' := by
  obtain ⟨F, h1, h2, h3⟩ := h
  exact countsR_is w x T F h3 id hi h2 h1 b hb
theorem rv_top (h : RV w x T) (id a : Int) (hi : I64 id) (ha : T.g T.top id = a) : Calls Try.prog 33 #[.pointer (some ⟨x, 0, none⟩), .int .i64 id] w fun e w' => e = .returned (.int .i64 a) ∧ Below w.heap.size w w' := by
  obtain ⟨F, h1, h2, h3⟩ := h
  subst ha
  exact topR_is w x T F h3 id hi h2 h1
theorem rv_number (h : RV w x T) (id a : Int) (hi : I64 id) (ha : T.numI id = a) : Calls Try.prog 43 #[.pointer (some ⟨x, 0, none⟩), .int .i64 id] w fun e w' => e = .returned (.int .i64 a) ∧ Below w.heap.size w w' := by
  obtain ⟨F, h1, h2, h3⟩ := h
  subst ha
  exact numR_is w x T F h3 id hi h2 h1
theorem rv_last (h : RV w x T) (a : Int) (ha : (T.last : Int) = a) : Calls Try.prog 31 #[.pointer (some ⟨x, 0, none⟩)] w fun e w' => e = .returned (.int .i64 a) ∧ Below w.heap.size w w' := by
  obtain ⟨F, h1, h2, h3⟩ := h
  subst ha
  exact lastR_is w x T F h1
theorem RV.ok (h : RV w x T) : T.Ok ∧ T.n ≤ 1000 := by
  obtain ⟨F, h1, h2⟩ := h
  exact h2
end

set_option maxRecDepth 100000 in
set_option maxHeartbeats 2000000 in
theorem ownR_is (w : World) (x : Nat) (T : Tb) (a m id : Int) (hi : I64 id) (h : RV w x T) (b : Bool) (hb : T.ownB m id = b) :
    Calls Try.prog 16 #[vw a m, .pointer (some ⟨x, 0, none⟩), .int .i64 id] w fun e w' => e = .returned (.bool b) ∧ Below w.heap.size w w' := by
  obtain ⟨g, hg⟩ : ∃ g, w.heap.size = g := ⟨_, rfl⟩
  obtain ⟨W, hW⟩ : ∃ W, w.alloc (.cells #[.int .i64 a, .int .i64 m] 35) = W := ⟨_, rfl⟩
  have hl : Lit W g 35 [.int .i64 a, .int .i64 m] := by rw [← hW, ← hg]; exact Lit.new w _ _
  have hb0 : Below w.heap.size w W := by rw [← hW]; exact Below.allocs _ _
  have HW := Lib.hid hW
  have HG := Lib.hid hg
  have HL := Lib.hid hl
  have HV := Lib.hid (h.below hb0)
  have HB := Lib.hid hb0
  have HI := Lib.hid hi
  have HOK := Lib.hid h.ok
  clear hW hg hl h hb0 hi
  unfold vw
  unfold Tb.ownB at hb
  obtain ⟨c, hc⟩ : ∃ c, T.cnt id = c := ⟨_, rfl⟩
  obtain ⟨tp, htp⟩ : ∃ tp, T.g T.top id = tp := ⟨_, rfl⟩
  rw [hc, htp] at hb
  have HC := Lib.hid hc
  have HTP := Lib.hid htp
  clear hc htp
  by_cases hm0 : m = 0
  · have HM : Hid (m = 0) := Lib.hid hm0
    have HBV : Hid (b = false) := Lib.hid (by
      cases c with
      | false => rw [← hb]; rfl
      | true =>
        have := cnt_top HOK.out.1 HC.out
        rw [HTP.out] at this
        rw [← hb, decide_eq_false (by omega)]; rfl)
    clear hb hm0
    go_enter Try.func16, Try.ntmps16
    go_upto_region 1 with (fail)
    rw [HW.out, HG.out]
    have hdr := below_drw W
    try simp only [List.append_eq, List.cons_append, List.nil_append]
    refine RX.wp_region_plan (fun w w' => Below w.heap.size w w') [.it (.pointer (some ⟨g, 1, none⟩)), .it (.int .i64 m), .it (.bool false), .it (.bool false), .it undef, .it undef, .it undef, .it (.bool false), .it (.bool false), .it undef, .it undef, .it undef, .it undef, .it undef, .it undef, .it (.bool false), .it (.bool false)] (by kernel_rfl) (by kernel_rfl) (fun _ => Below.refl _ _) (fun _ _ _ => below_tr) ?_
    refine RX.seqP_value (fun _ => Below.refl _ _) _ (by first | rfl | simp) (fun w' hw' hctx => by (go_simp); (try first | with_reducible rfl | simp)) ?_
    simp only [Act.put, List.setIfInBounds_toArray, List.set_cons_zero, List.set_cons_succ]
    refine RX.seqP_value (fun _ => Below.refl _ _) _ (by first | rfl | simp) (fun w' hw' hctx => ?_) ?_
    · have e1 := (HL.out.below (below_tr hdr hw')).cell (o := 1) rfl
      have e2 := (HL.out.below (below_tr hdr hw')).lt
      go_simp
      try first | with_reducible rfl | simp
    simp only [Act.put, List.setIfInBounds_toArray, List.set_cons_zero, List.set_cons_succ]
    refine RX.seqP_value (fun _ => Below.refl _ _) _ (by first | rfl | simp) (fun w' hw' hctx => ?_) ?_
    · have hm := HM.out
      go_simp
      try simp [hm]
    simp only [Act.put, List.setIfInBounds_toArray, List.set_cons_zero, List.set_cons_succ]
    refine RX.seqP_value (fun _ => Below.refl _ _) _ (by first | rfl | simp) (fun w' hw' hctx => by (go_simp); (try first | with_reducible rfl | simp)) ?_
    simp only [Act.put, List.setIfInBounds_toArray, List.set_cons_zero, List.set_cons_succ]
    refine RX.seqP_skip (by first | rfl | simp) ?_
    simp only [Act.put, List.setIfInBounds_toArray, List.set_cons_zero, List.set_cons_succ]
    refine RX.seqP_skip (by first | rfl | simp) ?_
    simp only [Act.put, List.setIfInBounds_toArray, List.set_cons_zero, List.set_cons_succ]
    refine RX.seqP_skip (by first | rfl | simp) ?_
    simp only [Act.put, List.setIfInBounds_toArray, List.set_cons_zero, List.set_cons_succ]
    refine RX.seqP_value (fun _ => Below.refl _ _) _ (by first | rfl | simp) (fun w' hw' hctx => by (go_simp); (try first | with_reducible rfl | simp)) ?_
    simp only [Act.put, List.setIfInBounds_toArray, List.set_cons_zero, List.set_cons_succ]
    refine RX.seqP_value (fun _ => Below.refl _ _) _ (by first | rfl | simp) (fun w' hw' hctx => by (go_simp); (try first | with_reducible rfl | simp)) ?_
    simp only [Act.put, List.setIfInBounds_toArray, List.set_cons_zero, List.set_cons_succ]
    refine RX.seqP_skip (by first | rfl | simp) ?_
    simp only [Act.put, List.setIfInBounds_toArray, List.set_cons_zero, List.set_cons_succ]
    refine RX.seqP_skip (by first | rfl | simp) ?_
    simp only [Act.put, List.setIfInBounds_toArray, List.set_cons_zero, List.set_cons_succ]
    refine RX.seqP_skip (by first | rfl | simp) ?_
    simp only [Act.put, List.setIfInBounds_toArray, List.set_cons_zero, List.set_cons_succ]
    refine RX.seqP_skip (by first | rfl | simp) ?_
    simp only [Act.put, List.setIfInBounds_toArray, List.set_cons_zero, List.set_cons_succ]
    refine RX.seqP_skip (by first | rfl | simp) ?_
    simp only [Act.put, List.setIfInBounds_toArray, List.set_cons_zero, List.set_cons_succ]
    refine RX.seqP_skip (by first | rfl | simp) ?_
    simp only [Act.put, List.setIfInBounds_toArray, List.set_cons_zero, List.set_cons_succ]
    refine RX.seqP_value (fun _ => Below.refl _ _) _ (by first | rfl | simp) (fun w' hw' hctx => by (go_simp); (try first | with_reducible rfl | simp)) ?_
    simp only [Act.put, List.setIfInBounds_toArray, List.set_cons_zero, List.set_cons_succ]
    refine RX.seqP_value (fun _ => Below.refl _ _) _ (by first | rfl | simp) (fun w' hw' hctx => by (go_simp); (try first | with_reducible rfl | simp)) ?_
    simp only [Act.put, List.setIfInBounds_toArray, List.set_cons_zero, List.set_cons_succ]
    refine RX.seqP_nil (fun w2 hR hctx _ => ?_)
    have hb2 := below_tr hdr hR
    clear hctx hR
    have HB2 := Lib.hid (below_tr HB.out hb2)
    clear hb2 hdr
    go_wp2_with fail
    go_ret
    exact ⟨by rw [HBV.out]; rfl, HB2.out⟩
  · have HM : Hid (¬ m = 0) := Lib.hid hm0
    clear hm0
    cases c with
    | false =>
      have HBV : Hid (b = false) := Lib.hid (by rw [← hb]; rfl)
      clear hb
      go_enter Try.func16, Try.ntmps16
      go_upto_region 1 with (fail)
      rw [HW.out, HG.out]
      have hdr := below_drw W
      try simp only [List.append_eq, List.cons_append, List.nil_append]
      refine RX.wp_region_plan (fun w w' => Below w.heap.size w w') [.it (.pointer (some ⟨g, 1, none⟩)), .it (.int .i64 m), .it (.bool true), .it (.bool true), .it (.pointer (some ⟨x, 0, none⟩)), .it (.int .i64 id), .it (.bool false), .it (.bool false), .it (.bool false), .it undef, .it undef, .it undef, .it undef, .it undef, .it undef, .it (.bool false), .it (.bool false)] (by kernel_rfl) (by kernel_rfl) (fun _ => Below.refl _ _) (fun _ _ _ => below_tr) ?_
      refine RX.seqP_value (fun _ => Below.refl _ _) _ (by first | rfl | simp) (fun w' hw' hctx => by (go_simp); (try first | with_reducible rfl | simp)) ?_
      simp only [Act.put, List.setIfInBounds_toArray, List.set_cons_zero, List.set_cons_succ]
      refine RX.seqP_value (fun _ => Below.refl _ _) _ (by first | rfl | simp) (fun w' hw' hctx => ?_) ?_
      · have e1 := (HL.out.below (below_tr hdr hw')).cell (o := 1) rfl
        have e2 := (HL.out.below (below_tr hdr hw')).lt
        go_simp
        try first | with_reducible rfl | simp
      simp only [Act.put, List.setIfInBounds_toArray, List.set_cons_zero, List.set_cons_succ]
      refine RX.seqP_value (fun _ => Below.refl _ _) _ (by first | rfl | simp) (fun w' hw' hctx => ?_) ?_
      · have hm := HM.out
        go_simp
        try simp [hm]
      simp only [Act.put, List.setIfInBounds_toArray, List.set_cons_zero, List.set_cons_succ]
      refine RX.seqP_value (fun _ => Below.refl _ _) _ (by first | rfl | simp) (fun w' hw' hctx => by (go_simp); (try first | with_reducible rfl | simp)) ?_
      simp only [Act.put, List.setIfInBounds_toArray, List.set_cons_zero, List.set_cons_succ]
      refine RX.seqP_value (fun _ => Below.refl _ _) _ (by first | rfl | simp) (fun w' hw' hctx => by (go_simp); (try first | with_reducible rfl | simp)) ?_
      simp only [Act.put, List.setIfInBounds_toArray, List.set_cons_zero, List.set_cons_succ]
      refine RX.seqP_value (fun _ => Below.refl _ _) _ (by first | rfl | simp) (fun w' hw' hctx => by (go_simp); (try first | with_reducible rfl | simp)) ?_
      simp only [Act.put, List.setIfInBounds_toArray, List.set_cons_zero, List.set_cons_succ]
      refine RX.seqP_call (32) #[.pointer (some ⟨x, 0, none⟩), .int .i64 id] (.bool false) (by first | rfl | simp) (fun w' hw' hctx => ?_) (fun w' hw' hctx => rv_counts (HV.out.below (below_tr hdr hw')) id HI.out false HC.out) ?_
      · go_simp
      simp only [Act.put, List.setIfInBounds_toArray, List.set_cons_zero, List.set_cons_succ]
      refine RX.seqP_value (fun _ => Below.refl _ _) _ (by first | rfl | simp) (fun w' hw' hctx => by (go_simp); (try first | with_reducible rfl | simp)) ?_
      simp only [Act.put, List.setIfInBounds_toArray, List.set_cons_zero, List.set_cons_succ]
      refine RX.seqP_value (fun _ => Below.refl _ _) _ (by first | rfl | simp) (fun w' hw' hctx => by (go_simp); (try first | with_reducible rfl | simp)) ?_
      simp only [Act.put, List.setIfInBounds_toArray, List.set_cons_zero, List.set_cons_succ]
      refine RX.seqP_skip (by first | rfl | simp) ?_
      simp only [Act.put, List.setIfInBounds_toArray, List.set_cons_zero, List.set_cons_succ]
      refine RX.seqP_skip (by first | rfl | simp) ?_
      simp only [Act.put, List.setIfInBounds_toArray, List.set_cons_zero, List.set_cons_succ]
      refine RX.seqP_skip (by first | rfl | simp) ?_
      simp only [Act.put, List.setIfInBounds_toArray, List.set_cons_zero, List.set_cons_succ]
      refine RX.seqP_skip (by first | rfl | simp) ?_
      simp only [Act.put, List.setIfInBounds_toArray, List.set_cons_zero, List.set_cons_succ]
      refine RX.seqP_skip (by first | rfl | simp) ?_
      simp only [Act.put, List.setIfInBounds_toArray, List.set_cons_zero, List.set_cons_succ]
      refine RX.seqP_skip (by first | rfl | simp) ?_
      simp only [Act.put, List.setIfInBounds_toArray, List.set_cons_zero, List.set_cons_succ]
      refine RX.seqP_value (fun _ => Below.refl _ _) _ (by first | rfl | simp) (fun w' hw' hctx => by (go_simp); (try first | with_reducible rfl | simp)) ?_
      simp only [Act.put, List.setIfInBounds_toArray, List.set_cons_zero, List.set_cons_succ]
      refine RX.seqP_value (fun _ => Below.refl _ _) _ (by first | rfl | simp) (fun w' hw' hctx => by (go_simp); (try first | with_reducible rfl | simp)) ?_
      simp only [Act.put, List.setIfInBounds_toArray, List.set_cons_zero, List.set_cons_succ]
      refine RX.seqP_nil (fun w2 hR hctx _ => ?_)
      have hb2 := below_tr hdr hR
      clear hctx hR
      have HB2 := Lib.hid (below_tr HB.out hb2)
      clear hb2 hdr
      go_wp2_with fail
      go_ret
      exact ⟨by rw [HBV.out]; rfl, HB2.out⟩
    | true =>
      obtain ⟨q, hq⟩ : ∃ q, (tp == m) = q := ⟨_, rfl⟩
      have HBV : Hid (b = q) := Lib.hid (by rw [← hb, ← hq, Bool.true_and]; rfl)
      have HQ := Lib.hid hq
      clear hb hq
      go_enter Try.func16, Try.ntmps16
      go_upto_region 1 with (fail)
      rw [HW.out, HG.out]
      have hdr := below_drw W
      try simp only [List.append_eq, List.cons_append, List.nil_append]
      refine RX.wp_region_plan (fun w w' => Below w.heap.size w w') [.it (.pointer (some ⟨g, 1, none⟩)), .it (.int .i64 m), .it (.bool true), .it (.bool true), .it (.pointer (some ⟨x, 0, none⟩)), .it (.int .i64 id), .it (.bool true), .it (.bool true), .it (.bool true), .it (.pointer (some ⟨x, 0, none⟩)), .it (.int .i64 id), .it (.int .i64 tp), .it (.pointer (some ⟨g, 1, none⟩)), .it (.int .i64 m), .it (.bool q), .it (.bool q), .it (.bool q)] (by kernel_rfl) (by kernel_rfl) (fun _ => Below.refl _ _) (fun _ _ _ => below_tr) ?_
      refine RX.seqP_value (fun _ => Below.refl _ _) _ (by first | rfl | simp) (fun w' hw' hctx => by (go_simp); (try first | with_reducible rfl | simp)) ?_
      simp only [Act.put, List.setIfInBounds_toArray, List.set_cons_zero, List.set_cons_succ]
      refine RX.seqP_value (fun _ => Below.refl _ _) _ (by first | rfl | simp) (fun w' hw' hctx => ?_) ?_
      · have e1 := (HL.out.below (below_tr hdr hw')).cell (o := 1) rfl
        have e2 := (HL.out.below (below_tr hdr hw')).lt
        go_simp
        try first | with_reducible rfl | simp
      simp only [Act.put, List.setIfInBounds_toArray, List.set_cons_zero, List.set_cons_succ]
      refine RX.seqP_value (fun _ => Below.refl _ _) _ (by first | rfl | simp) (fun w' hw' hctx => ?_) ?_
      · have hm := HM.out
        go_simp
        try simp [hm]
      simp only [Act.put, List.setIfInBounds_toArray, List.set_cons_zero, List.set_cons_succ]
      refine RX.seqP_value (fun _ => Below.refl _ _) _ (by first | rfl | simp) (fun w' hw' hctx => by (go_simp); (try first | with_reducible rfl | simp)) ?_
      simp only [Act.put, List.setIfInBounds_toArray, List.set_cons_zero, List.set_cons_succ]
      refine RX.seqP_value (fun _ => Below.refl _ _) _ (by first | rfl | simp) (fun w' hw' hctx => by (go_simp); (try first | with_reducible rfl | simp)) ?_
      simp only [Act.put, List.setIfInBounds_toArray, List.set_cons_zero, List.set_cons_succ]
      refine RX.seqP_value (fun _ => Below.refl _ _) _ (by first | rfl | simp) (fun w' hw' hctx => by (go_simp); (try first | with_reducible rfl | simp)) ?_
      simp only [Act.put, List.setIfInBounds_toArray, List.set_cons_zero, List.set_cons_succ]
      refine RX.seqP_call (32) #[.pointer (some ⟨x, 0, none⟩), .int .i64 id] (.bool true) (by first | rfl | simp) (fun w' hw' hctx => ?_) (fun w' hw' hctx => rv_counts (HV.out.below (below_tr hdr hw')) id HI.out true HC.out) ?_
      · go_simp
      simp only [Act.put, List.setIfInBounds_toArray, List.set_cons_zero, List.set_cons_succ]
      refine RX.seqP_value (fun _ => Below.refl _ _) _ (by first | rfl | simp) (fun w' hw' hctx => by (go_simp); (try first | with_reducible rfl | simp)) ?_
      simp only [Act.put, List.setIfInBounds_toArray, List.set_cons_zero, List.set_cons_succ]
      refine RX.seqP_value (fun _ => Below.refl _ _) _ (by first | rfl | simp) (fun w' hw' hctx => by (go_simp); (try first | with_reducible rfl | simp)) ?_
      simp only [Act.put, List.setIfInBounds_toArray, List.set_cons_zero, List.set_cons_succ]
      refine RX.seqP_value (fun _ => Below.refl _ _) _ (by first | rfl | simp) (fun w' hw' hctx => by (go_simp); (try first | with_reducible rfl | simp)) ?_
      simp only [Act.put, List.setIfInBounds_toArray, List.set_cons_zero, List.set_cons_succ]
      refine RX.seqP_value (fun _ => Below.refl _ _) _ (by first | rfl | simp) (fun w' hw' hctx => by (go_simp); (try first | with_reducible rfl | simp)) ?_
      simp only [Act.put, List.setIfInBounds_toArray, List.set_cons_zero, List.set_cons_succ]
      refine RX.seqP_call (33) #[.pointer (some ⟨x, 0, none⟩), .int .i64 id] (.int .i64 tp) (by first | rfl | simp) (fun w' hw' hctx => ?_) (fun w' hw' hctx => rv_top (HV.out.below (below_tr hdr hw')) id tp HI.out HTP.out) ?_
      · go_simp
      simp only [Act.put, List.setIfInBounds_toArray, List.set_cons_zero, List.set_cons_succ]
      refine RX.seqP_value (fun _ => Below.refl _ _) _ (by first | rfl | simp) (fun w' hw' hctx => by (go_simp); (try first | with_reducible rfl | simp)) ?_
      simp only [Act.put, List.setIfInBounds_toArray, List.set_cons_zero, List.set_cons_succ]
      refine RX.seqP_value (fun _ => Below.refl _ _) _ (by first | rfl | simp) (fun w' hw' hctx => ?_) ?_
      · have e1 := (HL.out.below (below_tr hdr hw')).cell (o := 1) rfl
        have e2 := (HL.out.below (below_tr hdr hw')).lt
        go_simp
        try first | with_reducible rfl | simp
      simp only [Act.put, List.setIfInBounds_toArray, List.set_cons_zero, List.set_cons_succ]
      refine RX.seqP_value (fun _ => Below.refl _ _) _ (by first | rfl | simp) (fun w' hw' hctx => ?_) ?_
      · have hq := HQ.out
        go_simp
        try first | with_reducible rfl | simp
      simp only [Act.put, List.setIfInBounds_toArray, List.set_cons_zero, List.set_cons_succ]
      refine RX.seqP_value (fun _ => Below.refl _ _) _ (by first | rfl | simp) (fun w' hw' hctx => by (go_simp); (try first | with_reducible rfl | simp)) ?_
      simp only [Act.put, List.setIfInBounds_toArray, List.set_cons_zero, List.set_cons_succ]
      refine RX.seqP_value (fun _ => Below.refl _ _) _ (by first | rfl | simp) (fun w' hw' hctx => by (go_simp); (try first | with_reducible rfl | simp)) ?_
      simp only [Act.put, List.setIfInBounds_toArray, List.set_cons_zero, List.set_cons_succ]
      refine RX.seqP_nil (fun w2 hR hctx _ => ?_)
      have hb2 := below_tr hdr hR
      clear hctx hR
      have HB2 := Lib.hid (below_tr HB.out hb2)
      clear hb2 hdr
      go_wp2_with fail
      go_ret
      exact ⟨by rw [HBV.out]; rfl, HB2.out⟩

set_option maxRecDepth 100000 in
set_option maxHeartbeats 2000000 in
theorem numberR_is (w : World) (x : Nat) (T : Tb) (id n : Int) (hi : I64 id) (h : RV w x T) (hn : T.numI id = n) :
    Calls Try.prog 36 #[.pointer (some ⟨x, 0, none⟩), .int .i64 id] w fun e w' => e = .returned (.int .i64 n) ∧ Below w.heap.size w w' := by
  have HV := Lib.hid h
  have HI := Lib.hid hi
  obtain ⟨c, hc⟩ : ∃ c, T.cnt id = c := ⟨_, rfl⟩
  have HC := Lib.hid hc
  have HN := Lib.hid hn
  clear h hi hc hn
  cases c with
  | false =>
    have HNV : Hid (n = 0) := Lib.hid (by rw [← HN.out]; unfold Tb.numI; rw [HC.out]; rfl)
    go_enter Try.func36, Try.ntmps36
    have hcon := rv_counts HV.out id HI.out false HC.out
    go_wp2_with fail
    refine (show Calls Try.prog _ _ _ _ from hcon).mono ?_
    rintro e w1 ⟨rfl, hb⟩
    have HB1 := Lib.hid hb
    clear hcon hb
    go_wp2_with fail
    go_ret
    exact ⟨by rw [HNV.out]; rfl, HB1.out⟩
  | true =>
    obtain ⟨tp, htp⟩ : ∃ tp, T.g T.top id = tp := ⟨_, rfl⟩
    have HTP := Lib.hid htp
    have HTI : Hid (I64 tp) := Lib.hid (by rw [← htp]; exact g_i64 HV.out.ok.1 (by have := HV.out.ok.2; omega) id)
    have HTN : Hid (T.numI tp = n) := Lib.hid (by rw [← htp, num_top HV.out.ok.1 HC.out, HN.out])
    clear htp
    go_enter Try.func36, Try.ntmps36
    have hcon := rv_counts HV.out id HI.out true HC.out
    go_wp2_with fail
    refine (show Calls Try.prog _ _ _ _ from hcon).mono ?_
    rintro e w1 ⟨rfl, hb⟩
    have HB1 := Lib.hid hb
    clear hcon hb
    have hcon := rv_top (HV.out.below HB1.out) id tp HI.out HTP.out
    go_wp2_with fail
    refine (show Calls Try.prog _ _ _ _ from hcon).mono ?_
    rintro e w2 ⟨rfl, hb⟩
    have HB2 := Lib.hid (below_tr HB1.out hb)
    clear hcon hb HB1
    have hcon := rv_number (HV.out.below HB2.out) tp n HTI.out HTN.out
    go_wp2_with fail
    refine (show Calls Try.prog _ _ _ _ from hcon).mono ?_
    rintro e w3 ⟨rfl, hb⟩
    have HB3 := Lib.hid (below_tr HB2.out hb)
    clear hcon hb HB2
    go_wp2_with fail
    go_ret
    exact ⟨rfl, HB3.out⟩

set_option maxRecDepth 100000 in
set_option maxHeartbeats 2000000 in
theorem seesR_is (w : World) (x : Nat) (T : Tb) (a m id : Int) (hi : I64 id) (h : RV w x T) (b : Bool) (hb : T.seesB a m id = b) :
    Calls Try.prog 18 #[vw a m, .pointer (some ⟨x, 0, none⟩), .int .i64 id] w fun e w' => e = .returned (.bool b) ∧ Below w.heap.size w w' := by
  obtain ⟨g, hg⟩ : ∃ g, w.heap.size = g := ⟨_, rfl⟩
  obtain ⟨W, hW⟩ : ∃ W, w.alloc (.cells #[.int .i64 a, .int .i64 m] 35) = W := ⟨_, rfl⟩
  have hl : Lit W g 35 [.int .i64 a, .int .i64 m] := by rw [← hW, ← hg]; exact Lit.new w _ _
  have hb0 : Below w.heap.size w W := by rw [← hW]; exact Below.allocs _ _
  have HW := Lib.hid hW
  have HG := Lib.hid hg
  have HL := Lib.hid hl
  have HV := Lib.hid (h.below hb0)
  have HB := Lib.hid hb0
  have HI := Lib.hid hi
  have HOK := Lib.hid h.ok
  clear hW hg hl h hb0 hi
  unfold Tb.seesB Tb.reachB at hb
  obtain ⟨n, hn⟩ : ∃ n, T.numI id = n := ⟨_, rfl⟩
  obtain ⟨p, hp⟩ : ∃ p, T.ownB m id = p := ⟨_, rfl⟩
  rw [hn, hp] at hb
  have HN := Lib.hid hn
  have HP := Lib.hid hp
  have HO : Hid (∀ w', Below W.heap.size W w' → Calls Try.prog 16 #[.agg #[.int .i64 a, .int .i64 m], .pointer (some ⟨x, 0, none⟩), .int .i64 id] w' fun e w'' => e = .returned (.bool p) ∧ Below w'.heap.size w' w'') := Lib.hid (fun w' hb' => ownR_is w' x T a m id HI.out (HV.out.below hb') p HP.out)
  unfold vw
  clear hn hp
  go_enter Try.func18, Try.ntmps18
  go_upto_region 1 with (fail)
  rw [HW.out, HG.out]
  have hcon := numberR_is W x T id n HI.out HV.out HN.out
  go_wp2_with fail
  refine (show Calls Try.prog _ _ _ _ from hcon).mono ?_
  rintro e w1 ⟨rfl, hb⟩
  have c0 := (HL.out.below hb).cell (o := 0) rfl
  have c1 := (HL.out.below hb).cell (o := 1) rfl
  have clt := (HL.out.below hb).lt
  have HB1 := Lib.hid (below_tr HB.out hb)
  have HBW1 := Lib.hid hb
  clear hcon hb
  have hcon := HO.out w1 HBW1.out
  go_wp2_with fail
  refine (show Calls Try.prog _ _ _ _ from hcon).mono ?_
  rintro e w2 ⟨rfl, hb⟩
  have HBW2 := Lib.hid (below_tr HBW1.out hb)
  have HB2 := Lib.hid (below_tr HB1.out hb)
  clear hcon hb c0 c1 clt HO
  have c0 := (HL.out.below HBW2.out).cell (o := 0) rfl
  have clt := (HL.out.below HBW2.out).lt
  cases p with
  | true =>
    have HBV : Hid (b = true) := Lib.hid (by rw [← hb]; rfl)
    clear hb
    go_wp2_with fail
    go_ret
    exact ⟨by rw [HBV.out]; rfl, HB2.out⟩
  | false =>
    by_cases hp : 0 < n
    · have HBV : Hid (decide (n ≤ a) = b) := Lib.hid (by rw [← hb, decide_eq_true hp, Bool.false_or, Bool.true_and])
      have hbv := HBV.out
      clear hb
      go_wp2_with fail
      go_ret
      exact ⟨rfl, HB2.out⟩
    · have HBV : Hid (b = false) := Lib.hid (by rw [← hb, decide_eq_false hp]; rfl)
      have hp2 : decide (0 < n) = false := decide_eq_false hp
      clear hb
      go_wp2_with fail
      go_ret
      exact ⟨by rw [HBV.out]; rfl, HB2.out⟩

set_option maxRecDepth 100000 in
set_option maxHeartbeats 2000000 in
theorem laterR_is (w : World) (x : Nat) (T : Tb) (a m id : Int) (hi : I64 id) (h : RV w x T) (b : Bool) (hb : T.laterB a m id = b) :
    Calls Try.prog 20 #[vw a m, .pointer (some ⟨x, 0, none⟩), .int .i64 id] w fun e w' => e = .returned (.bool b) ∧ Below w.heap.size w w' := by
  obtain ⟨g, hg⟩ : ∃ g, w.heap.size = g := ⟨_, rfl⟩
  obtain ⟨W, hW⟩ : ∃ W, w.alloc (.cells #[.int .i64 a, .int .i64 m] 35) = W := ⟨_, rfl⟩
  have hl : Lit W g 35 [.int .i64 a, .int .i64 m] := by rw [← hW, ← hg]; exact Lit.new w _ _
  have hb0 : Below w.heap.size w W := by rw [← hW]; exact Below.allocs _ _
  have HW := Lib.hid hW
  have HG := Lib.hid hg
  have HL := Lib.hid hl
  have HV := Lib.hid (h.below hb0)
  have HB := Lib.hid hb0
  have HI := Lib.hid hi
  have HOK := Lib.hid h.ok
  clear hW hg hl h hb0 hi
  unfold Tb.laterB at hb
  obtain ⟨n, hn⟩ : ∃ n, T.numI id = n := ⟨_, rfl⟩
  obtain ⟨z, hz⟩ : ∃ z, T.seesB a m id = z := ⟨_, rfl⟩
  rw [hn, hz] at hb
  have HN := Lib.hid hn
  have HZ := Lib.hid hz
  clear hn hz
  by_cases hp : 0 < n
  · have HBV : Hid (b = !z) := Lib.hid (by rw [← hb, decide_eq_true hp, Bool.true_and])
    have HS : Hid (∀ w', Below W.heap.size W w' → Calls Try.prog 18 #[.agg #[.int .i64 a, .int .i64 m], .pointer (some ⟨x, 0, none⟩), .int .i64 id] w' fun e w'' => e = .returned (.bool z) ∧ Below w'.heap.size w' w'') := Lib.hid (fun w' hb' => seesR_is w' x T a m id HI.out (HV.out.below hb') z HZ.out)
    unfold vw
    clear hb
    go_enter Try.func20, Try.ntmps20
    go_upto_region 1 with (fail)
    rw [HW.out, HG.out]
    have hcon := numberR_is W x T id n HI.out HV.out HN.out
    go_wp2_with fail
    refine (show Calls Try.prog _ _ _ _ from hcon).mono ?_
    rintro e w1 ⟨rfl, hb⟩
    have c0 := (HL.out.below hb).cell (o := 0) rfl
    have c1 := (HL.out.below hb).cell (o := 1) rfl
    have clt := (HL.out.below hb).lt
    have HB2 := Lib.hid (below_tr HB.out hb)
    have HS2 := Lib.hid (HS.out w1 hb)
    clear hcon hb HS
    go_wp2_with fail
    refine (show Calls Try.prog _ _ _ _ from HS2.out).mono ?_
    rintro e w2 ⟨rfl, hb⟩
    have HB3 := Lib.hid (below_tr HB2.out hb)
    clear hb c0 c1 clt HS2
    go_wp2_with fail
    go_ret
    exact ⟨by rw [HBV.out]; rfl, HB3.out⟩
  · have HBV : Hid (b = false) := Lib.hid (by rw [← hb, decide_eq_false hp, Bool.false_and])
    have hp2 : decide (0 < n) = false := decide_eq_false hp
    unfold vw
    clear hb
    go_enter Try.func20, Try.ntmps20
    go_upto_region 1 with (fail)
    rw [HW.out, HG.out]
    have hcon := numberR_is W x T id n HI.out HV.out HN.out
    go_wp2_with fail
    refine (show Calls Try.prog _ _ _ _ from hcon).mono ?_
    rintro e w1 ⟨rfl, hb⟩
    have HB2 := Lib.hid (below_tr HB.out hb)
    clear hcon hb
    go_wp2_with fail
    go_ret
    exact ⟨by rw [HBV.out]; rfl, HB2.out⟩

set_option maxRecDepth 100000 in
set_option maxHeartbeats 2000000 in
theorem nowR_is (w : World) (x : Nat) (T : Tb) (m : Int) (h : RV w x T) (la : Int) (hla : (T.last : Int) = la) :
    Calls Try.prog 14 #[.pointer (some ⟨x, 0, none⟩), .int .i64 m] w fun e w' => e = .returned (vw la m) ∧ Below w.heap.size w w' := by
  obtain ⟨g, hg⟩ : ∃ g, w.heap.size = g := ⟨_, rfl⟩
  obtain ⟨W, hW⟩ : ∃ W, w.alloc (.cells #[.int .i64 0, .int .i64 0] 35) = W := ⟨_, rfl⟩
  have hl : Lit W g 35 [.int .i64 0, .int .i64 0] := by rw [← hW, ← hg]; exact Lit.new w _ _
  have hb0 : Below w.heap.size w W := by rw [← hW]; exact Below.allocs _ _
  have HW := Lib.hid hW
  have HG := Lib.hid hg
  have HL := Lib.hid hl
  have HV := Lib.hid (h.below hb0)
  have HB := Lib.hid hb0
  have HLA := Lib.hid hla
  unfold vw
  clear hW hg hl h hb0 hla
  go_enter Try.func14, Try.ntmps14
  go_upto_region 1 with (fail)
  rw [HW.out, HG.out]
  have hcon := rv_last HV.out la HLA.out
  go_wp2_with fail
  refine (show Calls Try.prog _ _ _ _ from hcon).mono ?_
  rintro e w1 ⟨rfl, hb⟩
  have hl := HL.out.below hb
  have HB2 := Lib.hid (below_put2 (below_tr HB.out hb) (Nat.le_of_eq HG.out) (.int .i64 la) (.int .i64 m))
  have hl2 := lit_put2 hl (.int .i64 la) (.int .i64 m)
  have r0 := hl2.cell (o := 0) rfl
  have r1 := hl2.cell (o := 1) rfl
  have HR := Lib.hid (And.intro r0 r1)
  have z0 := hl.cell (o := 0) rfl
  have z1 := hl.cell (o := 1) rfl
  have f0 := hl.fz 0
  have f1 := hl.fz 1
  clear hcon hb hl hl2 r0 r1
  go_wp2_with fail
  obtain ⟨r0, r1⟩ := HR.out
  exact bodyPost_ret (w := put2 w1 g (.int .i64 la) (.int .i64 m)) (v := .agg #[.int .i64 la, .int .i64 m]) (by simp [results, Try.results14, go_sem, r0, r1]) rfl ⟨rfl, HB2.out⟩

end Go.Proofs.Ytpdfknknnklioaa
