/-
  The law QueuePlays, walked; like: what is told of a lock is what the document tells (stage 14).
-/
import Derived.Test.YtjjhmfpdbjflmaaPRq
import Derived.IntWalk
namespace Go.Proofs.Ytjjhmfpdbjflmaa
open Go.RowKit
set_option linter.unusedVariables false

/-- Three rows of numbers, in a row of their own; nothing older than w is other than at w. -/
def Tri (w W : World) (lb : Nat) (va vb vc : Value) : Prop := Lit W lb 35 [va, vb, vc] ∧ (∃ l, RowI W va l) ∧ (∃ l, RowI W vb l) ∧ (∃ l, RowI W vc l) ∧ Below w.heap.size w W
def Apt (w : World) (lb : Nat) (va vb vc : Value) : Prop := (∀ j, va.ownBlock = some j → w.heap.size ≤ j ∧ j ≠ lb ∧ vb.ownBlock ≠ some j ∧ vc.ownBlock ≠ some j) ∧ (∀ j, vb.ownBlock = some j → w.heap.size ≤ j ∧ j ≠ lb ∧ va.ownBlock ≠ some j ∧ vc.ownBlock ≠ some j) ∧ (∀ j, vc.ownBlock = some j → w.heap.size ≤ j ∧ j ≠ lb ∧ va.ownBlock ≠ some j ∧ vb.ownBlock ≠ some j)
theorem RowI.set7 {W : World} {b n c j : Nat} {l : List Int} (h : RowI W (.slice (some ⟨b, 0, none⟩) n c) l) (hj : j < n) (x : Int) : RowI (W.setCell ⟨b, j, none⟩ (.int .i64 x)) (.slice (some ⟨b, 0, none⟩) n c) (l.set j x) := by
  have hn := h.cap.2.2
  subst hn
  unfold RowI at h ⊢
  rw [List.length_set]
  refine RowF.congr (RowF.set h (j := j) (c := 0) (o := j) rfl hj (by omega) (by omega) (.int .i64 x)) fun i hi => ?_
  unfold updR numR
  by_cases e : i = j
  · subst e
    simp [hj]
  · rw [if_neg e]
    simp [show ¬ j = i from fun e2 => e e2.symm]
theorem Tri.set {w W : World} {lb : Nat} {va vb vc v : Value} (hA : Apt w lb va vb vc) (hT : Tri w W lb va vb vc) (hv : v = va ∨ v = vb ∨ v = vc) {b n c j : Nat} (e : v = .slice (some ⟨b, 0, none⟩) n c) (hj : j < n) (x : Int) : Tri w (W.setCell ⟨b, j, none⟩ (.int .i64 x)) lb va vb vc := by
  have hts := Touch.setCell W (F := fun k => k = b) rfl j (.int .i64 x)
  have hst := hts.stay (G := fun k => k ≠ b) (fun k hk e => hk e)
  obtain ⟨h1, ⟨la, h2⟩, ⟨lb', h3⟩, ⟨lc, h4⟩, h5⟩ := hT
  have hbv : v.ownBlock = some b := by rw [e]; rfl
  have hsz := h5.size
  rcases hv with rfl | rfl | rfl
  · obtain ⟨q1, q2, q3, q4⟩ := hA.1 b hbv
    refine ⟨h1.stay hst (fun e => q2 e.symm), ⟨_, by subst e; exact h2.set7 hj x⟩, ⟨_, RowF.stay h3 hst (fun k hk e => q3 (by rw [← e]; exact hk))⟩, ⟨_, RowF.stay h4 hst (fun k hk e => q4 (by rw [← e]; exact hk))⟩, h5.trans (hts.below (fun k hk => by have hk : k = b := hk; omega) hsz)⟩
  · obtain ⟨q1, q2, q3, q4⟩ := hA.2.1 b hbv
    refine ⟨h1.stay hst (fun e => q2 e.symm), ⟨_, RowF.stay h2 hst (fun k hk e => q3 (by rw [← e]; exact hk))⟩, ⟨_, by subst e; exact h3.set7 hj x⟩, ⟨_, RowF.stay h4 hst (fun k hk e => q4 (by rw [← e]; exact hk))⟩, h5.trans (hts.below (fun k hk => by have hk : k = b := hk; omega) hsz)⟩
  · obtain ⟨q1, q2, q3, q4⟩ := hA.2.2 b hbv
    refine ⟨h1.stay hst (fun e => q2 e.symm), ⟨_, RowF.stay h2 hst (fun k hk e => q3 (by rw [← e]; exact hk))⟩, ⟨_, RowF.stay h3 hst (fun k hk e => q4 (by rw [← e]; exact hk))⟩, ⟨_, by subst e; exact h4.set7 hj x⟩, h5.trans (hts.below (fun k hk => by have hk : k = b := hk; omega) hsz)⟩

set_option maxRecDepth 100000 in
set_option maxHeartbeats 8000000 in
theorem like_is {X X' : Nat → Prop} {N N' : Nat} {w : World} {h x z z' : Nat} {A : Lk} (y : Int) (hy : I64 y) (hz : z ≤ 50000) (hz' : z' ≤ 50000) (HQ : Qu X N w h z A) (HR : Rq X' N' w x z' A) :
    Calls Try.prog 18 #[.pointer (some ⟨h, 0, none⟩), .pointer (some ⟨x, 0, none⟩), .int .i64 y] w fun e w' => e = .returned (.bool true) ∧ Below w.heap.size w w' := by
  have HZ2 := Lib.hid hz'
  clear hz'
  have mixed : Try.prog.follows Departure.mixedOrders = true := by kernel_rfl
  have HQ0 := Lib.hid HQ
  have HR0 := Lib.hid HR
  have HY := Lib.hid hy
  have HZ := Lib.hid hz
  clear HQ HR hy hz
  go_enter Try.func18, Try.ntmps18
  have hcon := for_q y HZ.out HQ0.out
  go_wp2_with fail
  refine (show Calls Try.prog _ _ _ _ from hcon).mono ?_
  rintro e w1 ⟨v, rfl, hr, ho, hb⟩
  clear hcon
  obtain ⟨aa, ac, rfl, -, -⟩ := hr.form
  obtain ⟨an, an0⟩ : ∃ k, (A.whom y).length = k := ⟨_, rfl⟩
  rw [an0] at hr ho ⊢
  have HAN := Lib.hid an0
  clear an0
  have HRw1 := Lib.hid hr
  have HOw1 := Lib.hid ho
  have HBw1 := Lib.hid hb
  clear hr ho hb
  have HQ1 := Lib.hid (HQ0.out.below HBw1.out)
  have hcon := holders_q HZ.out HQ1.out
  go_wp2_with fail
  refine (show Calls Try.prog _ _ _ _ from hcon).mono ?_
  rintro e w2 ⟨v, rfl, hr, ho, hb⟩
  clear hcon
  obtain ⟨ba, bc, rfl, -, -⟩ := hr.form
  obtain ⟨bn, bn0⟩ : ∃ k, (fsts A.hd).length = k := ⟨_, rfl⟩
  rw [bn0] at hr ho ⊢
  have HBN := Lib.hid bn0
  clear bn0
  have HRw2 := Lib.hid hr
  have HOw2 := Lib.hid ho
  have HBw2 := Lib.hid hb
  clear hr ho hb
  have HQ2 := Lib.hid (HQ1.out.below HBw2.out)
  have hcon := row_q HZ.out HQ2.out
  go_wp2_with fail
  refine (show Calls Try.prog _ _ _ _ from hcon).mono ?_
  rintro e w3 ⟨v, rfl, hr, ho, hb⟩
  clear hcon
  obtain ⟨ca, cc, rfl, -, -⟩ := hr.form
  obtain ⟨cn, cn0⟩ : ∃ k, (fsts A.wt).length = k := ⟨_, rfl⟩
  rw [cn0] at hr ho ⊢
  have HCN := Lib.hid cn0
  clear cn0
  have HRw3 := Lib.hid hr
  have HOw3 := Lib.hid ho
  have HBw3 := Lib.hid hb
  clear hr ho hb
  have hb3 : Below w.heap.size w w3 := below_tr HBw1.out (below_tr HBw2.out HBw3.out)
  have HB3 := Lib.hid hb3
  have HQ3 := Lib.hid (HQ0.out.below hb3)
  have HR3 := Lib.hid (HR0.out.below hb3)
  have hap : (∀ j, Value.ownBlock (.slice aa an ac) = some j → w.heap.size ≤ j ∧ j < w1.heap.size) ∧ (∀ j, Value.ownBlock (.slice ba bn bc) = some j → w1.heap.size ≤ j ∧ j < w2.heap.size) ∧ (∀ j, Value.ownBlock (.slice ca cn cc) = some j → w2.heap.size ≤ j ∧ j < w3.heap.size) := ⟨fun j hj => ⟨HOw1.out j hj, RowF.lt HRw1.out j hj⟩, fun j hj => ⟨HOw2.out j hj, RowF.lt HRw2.out j hj⟩, fun j hj => ⟨HOw3.out j hj, RowF.lt HRw3.out j hj⟩⟩
  have HAP := Lib.hid hap
  have HA3 : Hid (RowI w3 (.slice aa an ac) (A.whom y)) := Lib.hid (RowF.below (RowF.below HRw1.out HBw2.out) HBw3.out)
  have HB3r : Hid (RowI w3 (.slice ba bn bc) (fsts A.hd)) := Lib.hid (RowF.below HRw2.out HBw3.out)
  have HC3 : Hid (RowI w3 (.slice ca cn cc) (fsts A.wt)) := HRw3
  have HSZ : Hid (w.heap.size ≤ w1.heap.size ∧ w1.heap.size ≤ w2.heap.size ∧ w2.heap.size ≤ w3.heap.size) := Lib.hid ⟨HBw1.out.size, HBw2.out.size, HBw3.out.size⟩
  obtain ⟨mv, hmv⟩ : ∃ m, waitsV A y = m := ⟨_, rfl⟩
  obtain ⟨qv, hqv⟩ : ∃ m, waitsB A y = m := ⟨_, rfl⟩
  have HMV := Lib.hid hmv
  have HQV := Lib.hid hqv
  clear hap hb3 HRw1 HRw2 HRw3 HOw1 HOw2 HOw3 HBw1 HBw2 HBw3 HQ0 HQ1 HQ2 HR0 hmv hqv
  have hcon := waits_q y HZ.out HQ3.out mv HMV.out qv HQV.out
  go_wp2_with fail
  refine (show Calls Try.prog _ _ _ _ from hcon).mono ?_
  rintro e w4 ⟨rfl, hb⟩
  clear hcon
  have HB4 := Lib.hid hb
  clear hb
  have hcon := rwaits_q y (HR3.out.below HB4.out) mv HMV.out qv HQV.out
  go_wp2_with fail
  refine (show Calls Try.prog _ _ _ _ from hcon).mono ?_
  rintro e w5 ⟨rfl, hb⟩
  clear hcon
  have HB5 := Lib.hid (below_tr HB4.out hb)
  clear hb HB4
  have HQ5 := Lib.hid (HQ3.out.below HB5.out)
  have HR5 := Lib.hid (HR3.out.below HB5.out)
  have HA5 : Hid (RowI w5 (.slice aa an ac) (A.whom y)) := Lib.hid (RowF.below HA3.out HB5.out)
  have HB5r : Hid (RowI w5 (.slice ba bn bc) (fsts A.hd)) := Lib.hid (RowF.below HB3r.out HB5.out)
  have HC5 : Hid (RowI w5 (.slice ca cn cc) (fsts A.wt)) := Lib.hid (RowF.below HC3.out HB5.out)
  clear HA3 HB3r HC3
  obtain ⟨hv, hhv⟩ : ∃ o, heldL A.hd y = o := ⟨_, rfl⟩
  have HHV := Lib.hid hhv
  obtain ⟨iq, hiq⟩ : ∃ q, decide (A.hd = [] ∧ A.wt = []) = q := ⟨_, rfl⟩
  have HIQ := Lib.hid hiq
  obtain ⟨sa, sn, sc, ta, tn, tc, hsn, htn, hcl⟩ := HR5.out.cells
  obtain ⟨sm, hsm⟩ : ∃ k : Nat, sn + tn = k := ⟨_, rfl⟩
  have hs1 : IntKind.i64.wrap ((sn : Int) + (tn : Int)) = (sm : Int) := by
    have := HR5.out.len
    have := HZ2.out
    rw [IntWalk.i64_in _ (by omega)]; omega
  have hs2 : wrap64 ((sn : Int) + (tn : Int)) = (sm : Int) := by
    have := HR5.out.len
    have := HZ2.out
    rw [wrOk (by omega)]; omega
  have hsq : ((sm : Int) == 0) = iq := by
    rw [← hiq]
    by_cases h1 : A.hd = [] ∧ A.wt = []
    · rw [decide_eq_true h1]
      rw [h1.1] at hsn
      rw [h1.2] at htn
      simp at hsn htn
      subst hsn htn
      simp at hsm
      subst hsm
      rfl
    · rw [decide_eq_false h1, beq_eq_false_iff_ne]
      intro e
      exact h1 ⟨List.eq_nil_of_length_eq_zero (by omega), List.eq_nil_of_length_eq_zero (by omega)⟩
  have HCL := Lib.hid hcl
  clear hhv hiq hsn htn hcl hsm
  go_upto_region 4 with (fail)
  have hdr := below_drw w5
  try simp only [List.append_eq, List.cons_append, List.nil_append]
  refine RX.wp_region_plan (fun w w' => Below w.heap.size w w') [.it (.slice aa an ac), .it (.pointer (some ⟨x, 0, none⟩)), .it (.int .i64 y), .of (fun W v => RowI W v (A.whom y)), .it (.bool true), .it (.bool true), .it (.slice ba bn bc), .it (.pointer (some ⟨x, 0, none⟩)), .of (fun W v => RowI W v (fsts A.hd)), .it (.bool true), .it (.bool true), .it (.bool true), .it (.slice ca cn cc), .it (.pointer (some ⟨x, 0, none⟩)), .of (fun W v => RowI W v (fsts A.wt)), .it (.bool true), .it (.bool true), .it (.bool true), .it (.int .u8 mv), .it (.int .u8 mv), .it (.bool true), .it (.bool true), .it (.bool true), .it (.bool qv), .it (.bool qv), .it (.bool true), .it (.bool true), .it (.bool true), .it (.pointer (some ⟨h, 0, none⟩)), .it (.int .i64 y), .it (.int .u16 hv), .it (.pointer (some ⟨x, 0, none⟩)), .it (.int .i64 y), .it (.int .u16 hv), .it (.bool true), .it (.bool true), .it (.bool true), .it (.pointer (some ⟨h, 0, none⟩)), .it (.bool iq), .it (.pointer (some ⟨x, 0, none⟩)), .it (.pointer (some ⟨x, 0, none⟩)), .it (.pointer (some ⟨x, 1, none⟩)), .it (.slice sa sn sc), .it (.int .i64 sn), .it (.pointer (some ⟨x, 0, none⟩)), .it (.pointer (some ⟨x, 0, none⟩)), .it (.pointer (some ⟨x, 2, none⟩)), .it (.slice ta tn tc), .it (.int .i64 tn), .it (.int .i64 sm), .it (.bool iq), .it (.bool true), .it (.bool true), .it (.bool true)] (by kernel_rfl) (by kernel_rfl) (fun _ => Below.refl _ _) (fun _ _ _ => below_tr) ?_
  refine RX.seqP_value (fun _ => Below.refl _ _) _ (by first | rfl | simp) (fun w' hw' hctx => by (go_simp); (try first | with_reducible rfl | simp)) ?_
  simp only [Act.put, List.setIfInBounds_toArray, List.set_cons_zero, List.set_cons_succ]
  refine RX.seqP_value (fun _ => Below.refl _ _) _ (by first | rfl | simp) (fun w' hw' hctx => by (go_simp); (try first | with_reducible rfl | simp)) ?_
  simp only [Act.put, List.setIfInBounds_toArray, List.set_cons_zero, List.set_cons_succ]
  refine RX.seqP_value (fun _ => Below.refl _ _) _ (by first | rfl | simp) (fun w' hw' hctx => by (go_simp); (try first | with_reducible rfl | simp)) ?_
  simp only [Act.put, List.setIfInBounds_toArray, List.set_cons_zero, List.set_cons_succ]
  refine RX.seqP_callOf (46) #[.pointer (some ⟨x, 0, none⟩), .int .i64 y] (fun W v => RowI W v (A.whom y)) (fun w w' v hb h => RowF.below h hb) (by first | rfl | simp) (fun w' hw' hctx => ?_) (fun w' hw' hctx => (rfor_q y HZ2.out (HR5.out.below (below_tr hdr hw'))).mono fun e w2 ⟨v, he, h1, _, h3⟩ => ⟨v, he, h3, h1⟩) (fun u3 => ?_)
  · go_simp
  simp only [Act.put, List.setIfInBounds_toArray, List.set_cons_zero, List.set_cons_succ]
  refine RX.seqP_call (15) #[.slice aa an ac, u3] (.bool true) (by first | rfl | simp) (fun w' hw' hctx => ?_) (fun w' hw' hctx => ints_is _ _ _ _ true (decide_eq_true rfl) w' (RowF.below HA5.out (below_tr hdr hw')) (hctx.1)) ?_
  · go_simp
  simp only [Act.put, List.setIfInBounds_toArray, List.set_cons_zero, List.set_cons_succ]
  refine RX.seqP_value (fun _ => Below.refl _ _) _ (by first | rfl | simp) (fun w' hw' hctx => by (go_simp); (try first | with_reducible rfl | simp)) ?_
  simp only [Act.put, List.setIfInBounds_toArray, List.set_cons_zero, List.set_cons_succ]
  refine RX.seqP_value (fun _ => Below.refl _ _) _ (by first | rfl | simp) (fun w' hw' hctx => by (go_simp); (try first | with_reducible rfl | simp)) ?_
  simp only [Act.put, List.setIfInBounds_toArray, List.set_cons_zero, List.set_cons_succ]
  refine RX.seqP_value (fun _ => Below.refl _ _) _ (by first | rfl | simp) (fun w' hw' hctx => by (go_simp); (try first | with_reducible rfl | simp)) ?_
  simp only [Act.put, List.setIfInBounds_toArray, List.set_cons_zero, List.set_cons_succ]
  refine RX.seqP_callOf (47) #[.pointer (some ⟨x, 0, none⟩)] (fun W v => RowI W v (fsts A.hd)) (fun w w' v hb h => RowF.below h hb) (by first | rfl | simp) (fun w' hw' hctx => ?_) (fun w' hw' hctx => (rhold_q HZ2.out (HR5.out.below (below_tr hdr hw'))).mono fun e w2 ⟨v, he, h1, _, h3⟩ => ⟨v, he, h3, h1⟩) (fun u8 => ?_)
  · go_simp
  simp only [Act.put, List.setIfInBounds_toArray, List.set_cons_zero, List.set_cons_succ]
  refine RX.seqP_call (15) #[.slice ba bn bc, u8] (.bool true) (by first | rfl | simp) (fun w' hw' hctx => ?_) (fun w' hw' hctx => ints_is _ _ _ _ true (decide_eq_true rfl) w' (RowF.below HB5r.out (below_tr hdr hw')) (hctx.1)) ?_
  · go_simp
  simp only [Act.put, List.setIfInBounds_toArray, List.set_cons_zero, List.set_cons_succ]
  refine RX.seqP_value (fun _ => Below.refl _ _) _ (by first | rfl | simp) (fun w' hw' hctx => by (go_simp); (try first | with_reducible rfl | simp)) ?_
  simp only [Act.put, List.setIfInBounds_toArray, List.set_cons_zero, List.set_cons_succ]
  refine RX.seqP_value (fun _ => Below.refl _ _) _ (by first | rfl | simp) (fun w' hw' hctx => by (go_simp); (try first | with_reducible rfl | simp)) ?_
  simp only [Act.put, List.setIfInBounds_toArray, List.set_cons_zero, List.set_cons_succ]
  refine RX.seqP_value (fun _ => Below.refl _ _) _ (by first | rfl | simp) (fun w' hw' hctx => by (go_simp); (try first | with_reducible rfl | simp)) ?_
  simp only [Act.put, List.setIfInBounds_toArray, List.set_cons_zero, List.set_cons_succ]
  refine RX.seqP_value (fun _ => Below.refl _ _) _ (by first | rfl | simp) (fun w' hw' hctx => by (go_simp); (try first | with_reducible rfl | simp)) ?_
  simp only [Act.put, List.setIfInBounds_toArray, List.set_cons_zero, List.set_cons_succ]
  refine RX.seqP_callOf (48) #[.pointer (some ⟨x, 0, none⟩)] (fun W v => RowI W v (fsts A.wt)) (fun w w' v hb h => RowF.below h hb) (by first | rfl | simp) (fun w' hw' hctx => ?_) (fun w' hw' hctx => (rrow_q HZ2.out (HR5.out.below (below_tr hdr hw'))).mono fun e w2 ⟨v, he, h1, _, h3⟩ => ⟨v, he, h3, h1⟩) (fun u14 => ?_)
  · go_simp
  simp only [Act.put, List.setIfInBounds_toArray, List.set_cons_zero, List.set_cons_succ]
  refine RX.seqP_call (15) #[.slice ca cn cc, u14] (.bool true) (by first | rfl | simp) (fun w' hw' hctx => ?_) (fun w' hw' hctx => ints_is _ _ _ _ true (decide_eq_true rfl) w' (RowF.below HC5.out (below_tr hdr hw')) (hctx.1)) ?_
  · go_simp
  simp only [Act.put, List.setIfInBounds_toArray, List.set_cons_zero, List.set_cons_succ]
  refine RX.seqP_value (fun _ => Below.refl _ _) _ (by first | rfl | simp) (fun w' hw' hctx => by (go_simp); (try first | with_reducible rfl | simp)) ?_
  simp only [Act.put, List.setIfInBounds_toArray, List.set_cons_zero, List.set_cons_succ]
  refine RX.seqP_value (fun _ => Below.refl _ _) _ (by first | rfl | simp) (fun w' hw' hctx => by (go_simp); (try first | with_reducible rfl | simp)) ?_
  simp only [Act.put, List.setIfInBounds_toArray, List.set_cons_zero, List.set_cons_succ]
  refine RX.seqP_value (fun _ => Below.refl _ _) _ (by first | rfl | simp) (fun w' hw' hctx => by (go_simp); (try first | with_reducible rfl | simp)) ?_
  simp only [Act.put, List.setIfInBounds_toArray, List.set_cons_zero, List.set_cons_succ]
  refine RX.seqP_value (fun _ => Below.refl _ _) _ (by first | rfl | simp) (fun w' hw' hctx => by (go_simp); (try first | with_reducible rfl | simp)) ?_
  simp only [Act.put, List.setIfInBounds_toArray, List.set_cons_zero, List.set_cons_succ]
  refine RX.seqP_value (fun _ => Below.refl _ _) _ (by first | rfl | simp) (fun w' hw' hctx => by (go_simp); (try first | with_reducible rfl | simp)) ?_
  simp only [Act.put, List.setIfInBounds_toArray, List.set_cons_zero, List.set_cons_succ]
  refine RX.seqP_value (fun _ => Below.refl _ _) _ (by first | rfl | simp) (fun w' hw' hctx => by (go_simp); (try first | with_reducible rfl | simp)) ?_
  simp only [Act.put, List.setIfInBounds_toArray, List.set_cons_zero, List.set_cons_succ]
  refine RX.seqP_value (fun _ => Below.refl _ _) _ (by first | rfl | simp) (fun w' hw' hctx => by (go_simp); (try first | with_reducible rfl | simp)) ?_
  simp only [Act.put, List.setIfInBounds_toArray, List.set_cons_zero, List.set_cons_succ]
  refine RX.seqP_value (fun _ => Below.refl _ _) _ (by first | rfl | simp) (fun w' hw' hctx => by (go_simp); (try first | with_reducible rfl | simp)) ?_
  simp only [Act.put, List.setIfInBounds_toArray, List.set_cons_zero, List.set_cons_succ]
  refine RX.seqP_value (fun _ => Below.refl _ _) _ (by first | rfl | simp) (fun w' hw' hctx => by (go_simp); (try first | with_reducible rfl | simp)) ?_
  simp only [Act.put, List.setIfInBounds_toArray, List.set_cons_zero, List.set_cons_succ]
  refine RX.seqP_value (fun _ => Below.refl _ _) _ (by first | rfl | simp) (fun w' hw' hctx => by (go_simp); (try first | with_reducible rfl | simp)) ?_
  simp only [Act.put, List.setIfInBounds_toArray, List.set_cons_zero, List.set_cons_succ]
  refine RX.seqP_value (fun _ => Below.refl _ _) _ (by first | rfl | simp) (fun w' hw' hctx => by (go_simp); (try first | with_reducible rfl | simp)) ?_
  simp only [Act.put, List.setIfInBounds_toArray, List.set_cons_zero, List.set_cons_succ]
  refine RX.seqP_value (fun _ => Below.refl _ _) _ (by first | rfl | simp) (fun w' hw' hctx => by (go_simp); (try first | with_reducible rfl | simp)) ?_
  simp only [Act.put, List.setIfInBounds_toArray, List.set_cons_zero, List.set_cons_succ]
  refine RX.seqP_value (fun _ => Below.refl _ _) _ (by first | rfl | simp) (fun w' hw' hctx => by (go_simp); (try first | with_reducible rfl | simp)) ?_
  simp only [Act.put, List.setIfInBounds_toArray, List.set_cons_zero, List.set_cons_succ]
  refine RX.seqP_value (fun _ => Below.refl _ _) _ (by first | rfl | simp) (fun w' hw' hctx => by (go_simp); (try first | with_reducible rfl | simp)) ?_
  simp only [Act.put, List.setIfInBounds_toArray, List.set_cons_zero, List.set_cons_succ]
  refine RX.seqP_call (20) #[.pointer (some ⟨h, 0, none⟩), .int .i64 y] (.int .u16 hv) (by first | rfl | simp) (fun w' hw' hctx => ?_) (fun w' hw' hctx => held_q y HY.out (HQ5.out.below (below_tr hdr hw')) hv HHV.out) ?_
  · go_simp
  simp only [Act.put, List.setIfInBounds_toArray, List.set_cons_zero, List.set_cons_succ]
  refine RX.seqP_value (fun _ => Below.refl _ _) _ (by first | rfl | simp) (fun w' hw' hctx => by (go_simp); (try first | with_reducible rfl | simp)) ?_
  simp only [Act.put, List.setIfInBounds_toArray, List.set_cons_zero, List.set_cons_succ]
  refine RX.seqP_value (fun _ => Below.refl _ _) _ (by first | rfl | simp) (fun w' hw' hctx => by (go_simp); (try first | with_reducible rfl | simp)) ?_
  simp only [Act.put, List.setIfInBounds_toArray, List.set_cons_zero, List.set_cons_succ]
  refine RX.seqP_call (43) #[.pointer (some ⟨x, 0, none⟩), .int .i64 y] (.int .u16 hv) (by first | rfl | simp) (fun w' hw' hctx => ?_) (fun w' hw' hctx => rheld_q y (HR5.out.below (below_tr hdr hw')) hv HHV.out) ?_
  · go_simp
  simp only [Act.put, List.setIfInBounds_toArray, List.set_cons_zero, List.set_cons_succ]
  refine RX.seqP_value (fun _ => Below.refl _ _) _ (by first | rfl | simp) (fun w' hw' hctx => by (go_simp); (try first | with_reducible rfl | simp)) ?_
  simp only [Act.put, List.setIfInBounds_toArray, List.set_cons_zero, List.set_cons_succ]
  refine RX.seqP_value (fun _ => Below.refl _ _) _ (by first | rfl | simp) (fun w' hw' hctx => by (go_simp); (try first | with_reducible rfl | simp)) ?_
  simp only [Act.put, List.setIfInBounds_toArray, List.set_cons_zero, List.set_cons_succ]
  refine RX.seqP_value (fun _ => Below.refl _ _) _ (by first | rfl | simp) (fun w' hw' hctx => by (go_simp); (try first | with_reducible rfl | simp)) ?_
  simp only [Act.put, List.setIfInBounds_toArray, List.set_cons_zero, List.set_cons_succ]
  refine RX.seqP_value (fun _ => Below.refl _ _) _ (by first | rfl | simp) (fun w' hw' hctx => by (go_simp); (try first | with_reducible rfl | simp)) ?_
  simp only [Act.put, List.setIfInBounds_toArray, List.set_cons_zero, List.set_cons_succ]
  refine RX.seqP_call (24) #[.pointer (some ⟨h, 0, none⟩)] (.bool iq) (by first | rfl | simp) (fun w' hw' hctx => ?_) (fun w' hw' hctx => idle_q (HQ5.out.below (below_tr hdr hw')) iq HIQ.out) ?_
  · go_simp
  simp only [Act.put, List.setIfInBounds_toArray, List.set_cons_zero, List.set_cons_succ]
  refine RX.seqP_value (fun _ => Below.refl _ _) _ (by first | rfl | simp) (fun w' hw' hctx => by (go_simp); (try first | with_reducible rfl | simp)) ?_
  simp only [Act.put, List.setIfInBounds_toArray, List.set_cons_zero, List.set_cons_succ]
  refine RX.seqP_value (fun _ => Below.refl _ _) _ (by first | rfl | simp) (fun w' hw' hctx => by (go_simp); (try first | with_reducible rfl | simp)) ?_
  simp only [Act.put, List.setIfInBounds_toArray, List.set_cons_zero, List.set_cons_succ]
  refine RX.seqP_value (fun _ => Below.refl _ _) _ (by first | rfl | simp) (fun w' hw' hctx => by (go_simp); (try first | with_reducible rfl | simp)) ?_
  simp only [Act.put, List.setIfInBounds_toArray, List.set_cons_zero, List.set_cons_succ]
  refine RX.seqP_value (fun _ => Below.refl _ _) _ (by first | rfl | simp) (fun w' hw' hctx => ?_) ?_
  · obtain ⟨e0, e1, el⟩ := HCL.out w' (below_tr hdr hw')
    go_simp
    try first | with_reducible rfl | simp
  simp only [Act.put, List.setIfInBounds_toArray, List.set_cons_zero, List.set_cons_succ]
  refine RX.seqP_value (fun _ => Below.refl _ _) _ (by first | rfl | simp) (fun w' hw' hctx => by (go_simp); (try first | with_reducible rfl | simp)) ?_
  simp only [Act.put, List.setIfInBounds_toArray, List.set_cons_zero, List.set_cons_succ]
  refine RX.seqP_value (fun _ => Below.refl _ _) _ (by first | rfl | simp) (fun w' hw' hctx => by (go_simp); (try first | with_reducible rfl | simp)) ?_
  simp only [Act.put, List.setIfInBounds_toArray, List.set_cons_zero, List.set_cons_succ]
  refine RX.seqP_value (fun _ => Below.refl _ _) _ (by first | rfl | simp) (fun w' hw' hctx => by (go_simp); (try first | with_reducible rfl | simp)) ?_
  simp only [Act.put, List.setIfInBounds_toArray, List.set_cons_zero, List.set_cons_succ]
  refine RX.seqP_value (fun _ => Below.refl _ _) _ (by first | rfl | simp) (fun w' hw' hctx => by (go_simp); (try first | with_reducible rfl | simp)) ?_
  simp only [Act.put, List.setIfInBounds_toArray, List.set_cons_zero, List.set_cons_succ]
  refine RX.seqP_value (fun _ => Below.refl _ _) _ (by first | rfl | simp) (fun w' hw' hctx => ?_) ?_
  · obtain ⟨e0, e1, el⟩ := HCL.out w' (below_tr hdr hw')
    go_simp
    try first | with_reducible rfl | simp
  simp only [Act.put, List.setIfInBounds_toArray, List.set_cons_zero, List.set_cons_succ]
  refine RX.seqP_value (fun _ => Below.refl _ _) _ (by first | rfl | simp) (fun w' hw' hctx => by (go_simp); (try first | with_reducible rfl | simp)) ?_
  simp only [Act.put, List.setIfInBounds_toArray, List.set_cons_zero, List.set_cons_succ]
  refine RX.seqP_value (fun _ => Below.refl _ _) _ (by first | rfl | simp) (fun w' hw' hctx => by (go_simp); (try first | with_reducible rfl | simp)) ?_
  simp only [Act.put, List.setIfInBounds_toArray, List.set_cons_zero, List.set_cons_succ]
  refine RX.seqP_value (fun _ => Below.refl _ _) _ (by first | rfl | simp) (fun w' hw' hctx => by (go_simp); (try first | with_reducible rfl | simp)) ?_
  simp only [Act.put, List.setIfInBounds_toArray, List.set_cons_zero, List.set_cons_succ]
  refine RX.seqP_value (fun _ => Below.refl _ _) _ (by first | rfl | simp) (fun w' hw' hctx => by (go_simp); (try first | with_reducible rfl | simp)) ?_
  simp only [Act.put, List.setIfInBounds_toArray, List.set_cons_zero, List.set_cons_succ]
  refine RX.seqP_value (fun _ => Below.refl _ _) _ (by first | rfl | simp) (fun w' hw' hctx => by (go_simp); (try first | with_reducible rfl | simp)) ?_
  simp only [Act.put, List.setIfInBounds_toArray, List.set_cons_zero, List.set_cons_succ]
  refine RX.seqP_value (fun _ => Below.refl _ _) _ (by first | rfl | simp) (fun w' hw' hctx => by (go_simp); (try first | with_reducible rfl | simp)) ?_
  simp only [Act.put, List.setIfInBounds_toArray, List.set_cons_zero, List.set_cons_succ]
  refine RX.seqP_nil (fun w6 hR hctx _ => ?_)
  have hb6 := below_tr hdr hR
  clear hctx hR
  have hb36 := below_tr HB5.out hb6
  have hal := Below.allocs w6 (.cells #[.slice aa an ac, .slice ba bn bc, .slice ca cn cc] 35)
  have hli := Lit.new w6 35 [.slice aa an ac, .slice ba bn bc, .slice ca cn cc]
  obtain ⟨W7, hW7⟩ : ∃ W7, w6.alloc (.cells #[.slice aa an ac, .slice ba bn bc, .slice ca cn cc] 35) = W7 := ⟨_, rfl⟩
  obtain ⟨lb, hlb⟩ : ∃ g, w6.heap.size = g := ⟨_, rfl⟩
  have hlb3 : w3.heap.size ≤ lb := by rw [← hlb]; exact hb36.size
  rw [hW7, hlb] at hli
  rw [hW7] at hal
  have HT7 : Hid (Tri w W7 lb (.slice aa an ac) (.slice ba bn bc) (.slice ca cn cc)) := Lib.hid ⟨hli, ⟨_, RowF.below (RowF.below HA5.out hb6) hal⟩, ⟨_, RowF.below (RowF.below HB5r.out hb6) hal⟩, ⟨_, RowF.below (RowF.below HC5.out hb6) hal⟩, below_tr HB3.out (below_tr hb36 hal)⟩
  have HAPT : Hid (Apt w lb (.slice aa an ac) (.slice ba bn bc) (.slice ca cn cc)) := Lib.hid (by
    obtain ⟨p1, p2, p3⟩ := HAP.out
    obtain ⟨s1, s2, s3⟩ := HSZ.out
    refine ⟨fun j hj => ?_, fun j hj => ?_, fun j hj => ?_⟩
    · have := p1 j hj
      exact ⟨by omega, by omega, fun e => by have := p2 j e; omega, fun e => by have := p3 j e; omega⟩
    · have := p2 j hj
      exact ⟨by omega, by omega, fun e => by have := p1 j e; omega, fun e => by have := p3 j e; omega⟩
    · have := p3 j hj
      exact ⟨by omega, by omega, fun e => by have := p1 j e; omega, fun e => by have := p2 j e; omega⟩)
  have HW7 := Lib.hid hW7
  have HLB := Lib.hid hlb
  clear hb36 hal hli hW7 hlb hlb3 hb6 hdr HA5 HB5r HC5 HAP HSZ HB5 HB3 HQ5 HR5 HQ3 HR3 HCL hs1 hs2 hsq
  go_upto_region 6 with (fail)
  rw [HW7.out]
  try rw [HLB.out]
  clear HW7 HLB
  go_loopg [95] 3 (fun gg s95 wr => ∃ (i : Nat), s95 = .int .i64 i ∧ i ≤ 3 ∧ 3 - i ≤ gg ∧ Hid (Tri w wr lb (.slice aa an ac) (.slice ba bn bc) (.slice ca cn cc)))
  case atStart => exact ⟨0, rfl, Nat.zero_le _, by omega, HT7⟩
  case round =>
    obtain ⟨i, rfl, hi, hgg, HT⟩ := hrel
    clear HT7
    by_cases hlt : i < 3
    · have hltz : (i : Int) < 3 := by omega
      have hch : ∃ da dn dc, wr.cell? ⟨lb, i, none⟩ = some (.slice da dn dc) ∧ (Value.slice da dn dc = .slice aa an ac ∨ Value.slice da dn dc = .slice ba bn bc ∨ Value.slice da dn dc = .slice ca cn cc) := by
        have h1 := HT.out.1
        rcases (show i = 0 ∨ i = 1 ∨ i = 2 by omega) with rfl | rfl | rfl
        · exact ⟨aa, an, ac, h1.cell rfl, .inl rfl⟩
        · exact ⟨ba, bn, bc, h1.cell rfl, .inr (.inl rfl)⟩
        · exact ⟨ca, cn, cc, h1.cell rfl, .inr (.inr rfl)⟩
      obtain ⟨da, dn, dc, c0, hdv⟩ := hch
      have hll := HT.out.1.lt
      have hrow0 : ∀ W, Tri w W lb (.slice aa an ac) (.slice ba bn bc) (.slice ca cn cc) → ∃ l, RowI W (.slice da dn dc) l := fun W hT => by
        rcases hdv with e | e | e <;> rw [e]
        · exact hT.2.1
        · exact hT.2.2.1
        · exact hT.2.2.2.1
      have HROW := Lib.hid hrow0
      have HDV := Lib.hid hdv
      have hdm : dn ≤ 9223372036854775807 := by
        obtain ⟨l, hl⟩ := hrow0 wr HT.out
        have h1 := hl.cap
        unfold maxLen at h1
        omega
      have HLT := Lib.hid (And.intro hlt (And.intro hi hgg))
      clear hrow0 hdv hi hgg
      go_wp2_with fail
      go_loopg [17] dn (fun gk s17 wr => ∃ (k : Nat), s17 = .int .i64 k ∧ k ≤ dn ∧ dn - k ≤ gk ∧ Hid (Tri w wr lb (.slice aa an ac) (.slice ba bn bc) (.slice ca cn cc)))
      case atStart => exact ⟨0, rfl, Nat.zero_le _, by omega, HT⟩
      case round =>
        obtain ⟨k, rfl, hk, hgk, HTk⟩ := hrel
        clear HT
        by_cases hltk : k < dn
        · have hltkz : (k : Int) < (dn : Int) := by omega
          obtain ⟨l, hl⟩ := HROW.out wr HTk.out
          obtain ⟨b, c', e1, -, -, hbl, hcl, hfz⟩ := RowI.at hl (j := k) (by have := hl.cap.2.2; omega)
          have e2 : da = some ⟨b, 0, none⟩ := by
            simp only [Value.slice.injEq] at e1
            exact e1.1
          subst e2
          have d0 := hcl k (by have := hl.cap.2.2; omega)
          have f0 := hfz k
          have hnc := hl.cap.1
          have HNX : Hid (Tri w (wr.setCell ⟨b, k, none⟩ (.int .i64 (-7))) lb (.slice aa an ac) (.slice ba bn bc) (.slice ca cn cc)) := Lib.hid (Tri.set HAPT.out HTk.out HDV.out rfl hltk (-7))
          have HLK := Lib.hid (And.intro hltk (And.intro hk hgk))
          clear hl hcl hfz e1 hk hgk HTk
          go_wp2_with fail
          go_roundg (dn - (k + 1))
          case measure => have := HLK.out; omega
          case rel => exact ⟨k + 1, by first | rfl | (rw [wrOk (by have := HLK.out; omega)]; rfl), by have := HLK.out; omega, Nat.le_refl _, HNX⟩
        · have hltkz : ¬ (k : Int) < (dn : Int) := by omega
          clear hk hgk hltk
          go_wp2_with fail
          go_roundg (3 - (i + 1))
          case measure => have := HLT.out; omega
          case rel => exact ⟨i + 1, by go_num, by have := HLT.out; omega, Nat.le_refl _, HTk⟩
    · have hltz : ¬ (i : Int) < 3 := by omega
      have HE := Lib.hid HT.out.2.2.2.2
      clear hi hgg hlt HT
      go_wp2_with fail
      go_ret
      exact ⟨rfl, HE.out⟩



structure Two (Z : Nat → Prop) (N : Nat) (W : World) (h x z : Nat) (A B : Lk) : Prop where
  okA : Ok A
  okB : Ok B
  nw : N ≤ W.heap.size
  zs : ∀ k, Z k → k < W.heap.size
  len : B.hd.length + B.wt.length ≤ z
  is : ∃ b s n s' t', LkM W h b s n A ∧ n + A.wt.length ≤ z ∧ RkM W x s' t' B ∧ (∀ k, LkF h b s k → N ≤ k ∧ ¬ Z k ∧ ¬ RkF x s' t' k) ∧ ∀ k, RkF x s' t' k → N ≤ k ∧ ¬ Z k

section
variable {Z : Nat → Prop} {N : Nat} {W W' w : World} {h x z : Nat} {A B : Lk}
theorem Two.stay (H : Two Z N W h x z A B) (hs : Stay (QF Z N) W W') : Two Z N W' h x z A B := by
  obtain ⟨b, s, n, s', t', h1, h2, h3, h4, h5⟩ := H.is
  exact ⟨H.okA, H.okB, Nat.le_trans H.nw hs.size, fun k hk => Nat.lt_of_lt_of_le (H.zs k hk) hs.size, H.len, b, s, n, s', t', h1.stay (hs.mono fun k hk => ⟨(h4 k hk).1, (h4 k hk).2.1⟩), h2, h3.stay (hs.mono fun k hk => h5 k hk), h4, h5⟩
theorem Two.below (H : Two Z N W h x z A B) (hb : Below W.heap.size W W') : Two Z N W' h x z A B := H.stay (Stay.of_below hb)
theorem Two.apart (H : Two (fun _ => False) N W h x z A B) {Y : Nat → Prop} (hy : ∀ k, Y k → W.heap.size ≤ k) (hY : ∀ k, Y k → k < W'.heap.size) (hb : Below W.heap.size W W') : Two Y N W' h x z A B := by
  obtain ⟨b, s, n, s', t', h1, h2, h3, h4, h5⟩ := H.is
  exact ⟨H.okA, H.okB, Nat.le_trans H.nw hb.size, hY, H.len, b, s, n, s', t', h1.below hb, h2, h3.below hb, fun k hk => ⟨(h4 k hk).1, fun e => by have := h1.lt k hk; have := hy k e; omega, (h4 k hk).2.2⟩, fun k hk => ⟨(h5 k hk).1, fun e => by have := h3.lt k hk; have := hy k e; omega⟩⟩
theorem Two.free (H : Two Z N W h x z A B) : Two (fun _ => False) N W h x z A B := by
  obtain ⟨b, s, n, s', t', h1, h2, h3, h4, h5⟩ := H.is
  exact ⟨H.okA, H.okB, H.nw, fun k hk => hk.elim, H.len, b, s, n, s', t', h1, h2, h3, fun k hk => ⟨(h4 k hk).1, fun e => e, (h4 k hk).2.2⟩, fun k hk => ⟨(h5 k hk).1, fun e => e⟩⟩
theorem Two.qu (H : Two Z N W h x z A B) : Qu Z N W h z A := by
  obtain ⟨b, s, n, s', t', h1, h2, h3, h4, h5⟩ := H.is
  exact ⟨H.okA, H.zs, H.nw, b, s, n, h1, h2, fun k hk => ⟨(h4 k hk).1, (h4 k hk).2.1⟩⟩
theorem Two.rq (H : Two Z N W h x z A B) : Rq Z N W x z B := by
  obtain ⟨b, s, n, s', t', h1, h2, h3, h4, h5⟩ := H.is
  exact ⟨H.okB, H.zs, H.nw, H.len, s', t', h3, fun k hk => h5 k hk⟩
theorem ask_l (y m : Int) (hy : I64 y) (hm : U8 m) (hz : z ≤ 50000) (H : Two Z N w h x z A B) :
    Calls Try.prog 16 #[.pointer (some ⟨h, 0, none⟩), .int .i64 y, .int .u8 m] w fun e w' => e = .returned (.tuple #[.bool (A.askB y m), .int .i64 (A.askE y m)]) ∧ Two Z N w' h x (z + 1) (A.ask y m) B ∧ Touch (QF Z N) w w' := by
  obtain ⟨b, s, n, s', t', h1, h2, h3, h4, h5⟩ := H.is
  have hq : Qu (fun k => Z k ∨ RkF x s' t' k) N w h z A := ⟨H.okA, fun k hk => hk.elim (H.zs k) (h3.lt k), H.nw, b, s, n, h1, h2, fun k hk => ⟨(h4 k hk).1, fun e => e.elim (h4 k hk).2.1 (h4 k hk).2.2⟩⟩
  refine (ask_q y m hy hm hz hq).mono ?_
  rintro e w' ⟨rfl, q, t⟩
  obtain ⟨b2, s2, n2, g1, g2, g3⟩ := q.is
  refine ⟨rfl, ⟨q.ok, H.okB, q.nw, fun k hk => q.xs k (.inl hk), Nat.le_succ_of_le H.len, b2, s2, n2, s', t', g1, g2, h3.stay (t.stay fun k hk hf => hf.2 (.inr hk)), fun k hk => ⟨(g3 k hk).1, fun e => (g3 k hk).2 (.inl e), fun e => (g3 k hk).2 (.inr e)⟩, h5⟩, t.mono fun k hk => ⟨hk.1, fun e => hk.2 (.inl e)⟩⟩
theorem drop_l (y : Int) (hy : I64 y) (hz : z ≤ 50000) (H : Two Z N w h x z A B) :
    Calls Try.prog 13 #[.pointer (some ⟨h, 0, none⟩), .int .i64 y] w fun e w' => ∃ v, e = .returned (.tuple #[v, .int .i64 (Lk.dropE y)]) ∧ RowI w' v (A.dropG y) ∧ Two (fun k => Z k ∨ v.ownBlock = some k) N w' h x z (A.drop y) B ∧ Touch (QF Z N) w w' := by
  obtain ⟨b, s, n, s', t', h1, h2, h3, h4, h5⟩ := H.is
  refine (drop_is w h b s n A y H.okA.ok hy (by omega) h1).mono ?_
  rintro e w' ⟨v, rfl, r1, r2, s2, n2, g1, g2, g3, t⟩
  have hl : ∀ k, LkF h b s2 k → LkF h b s k := fun k hk => by
    rcases hk with hk | hk | hk
    · exact .inl hk
    · exact .inr (.inl hk)
    · exact .inr (.inr (by rw [← g2]; exact hk))
  refine ⟨v, rfl, r1, ⟨H.okA.drop y, H.okB, Nat.le_trans H.nw t.size, fun k hk => hk.elim (fun e => Nat.lt_of_lt_of_le (H.zs k e) t.size) (fun e => RowF.lt r1 k e), H.len, b, s2, n2, s', t', g1, by omega, h3.stay (t.stay fun k hk hf => (h4 k hf).2.2 hk), fun k hk => ⟨(h4 k (hl k hk)).1, fun e => e.elim (h4 k (hl k hk)).2.1 (fun e => by have := r2 k e; have := h1.lt k (hl k hk); omega), (h4 k (hl k hk)).2.2⟩, fun k hk => ⟨(h5 k hk).1, fun e => e.elim (h5 k hk).2 (fun e => by have := r2 k e; have := h3.lt k hk; omega)⟩⟩, t.mono fun k hk => ⟨(h4 k hk).1, (h4 k hk).2.1⟩⟩
/-- The document's is asked; v: a row that was told of the lock, newer than it. -/
theorem ask_x (y m : Int) (hy : I64 y) (hm : U8 m) (hz : z ≤ 50000) (H : Two Z N w h x z A B) :
    Calls Try.prog 17 #[.pointer (some ⟨x, 0, none⟩), .int .i64 y, .int .u8 m] w fun e w' => e = .returned (.tuple #[.bool (B.askB y m), .int .i64 (B.askE y m)]) ∧ Two Z N w' h x (z + 1) A (B.ask y m) ∧ Touch (QF Z N) w w' := by
  obtain ⟨b, s, n, s', t', h1, h2, h3, h4, h5⟩ := H.is
  have hq : Rq (fun k => Z k ∨ LkF h b s k) N w x z B := ⟨H.okB, fun k hk => hk.elim (H.zs k) (h1.lt k), H.nw, H.len, s', t', h3, fun k hk => ⟨(h5 k hk).1, fun e => e.elim (h5 k hk).2 (fun e => (h4 k e).2.2 hk)⟩⟩
  refine (rask_q y m hy hm hz hq).mono ?_
  rintro e w' ⟨rfl, q, t⟩
  obtain ⟨s2, t2, g1, g3⟩ := q.is
  refine ⟨rfl, ⟨H.okA, q.ok, q.nw, fun k hk => q.xs k (.inl hk), q.len, b, s, n, s2, t2, h1.stay (t.stay fun k hk hf => hf.2 (.inr hk)), by omega, g1, fun k hk => ⟨(h4 k hk).1, (h4 k hk).2.1, fun e => (g3 k e).2 (.inr hk)⟩, fun k hk => ⟨(g3 k hk).1, fun e => (g3 k hk).2 (.inl e)⟩⟩, t.mono fun k hk => ⟨hk.1, fun e => hk.2 (.inl e)⟩⟩
theorem drop_x (y : Int) (hz : z ≤ 50000) (H : Two Z N w h x z A B) :
    Calls Try.prog 14 #[.pointer (some ⟨x, 0, none⟩), .int .i64 y] w fun e w' => ∃ v, e = .returned (.tuple #[v, .int .i64 (Lk.dropE y)]) ∧ RowI w' v (B.dropG y) ∧ (∀ k, v.ownBlock = some k → w.heap.size ≤ k) ∧ Two Z N w' h x z A (B.drop y) ∧ Touch (QF Z N) w w' := by
  obtain ⟨b, s, n, s', t', h1, h2, h3, h4, h5⟩ := H.is
  have hq : Rq (fun k => Z k ∨ LkF h b s k) N w x z B := ⟨H.okB, fun k hk => hk.elim (H.zs k) (h1.lt k), H.nw, H.len, s', t', h3, fun k hk => ⟨(h5 k hk).1, fun e => e.elim (h5 k hk).2 (fun e => (h4 k e).2.2 hk)⟩⟩
  refine (rdrop_q y hz hq).mono ?_
  rintro e w' ⟨v, rfl, r1, r2, q, t⟩
  obtain ⟨s2, t2, g1, g3⟩ := q.is
  refine ⟨v, rfl, r1, r2, ⟨H.okA, q.ok, q.nw, fun k hk => q.xs k (.inl hk), q.len, b, s, n, s2, t2, h1.stay (t.stay fun k hk hf => hf.2 (.inr hk)), h2, g1, fun k hk => ⟨(h4 k hk).1, (h4 k hk).2.1, fun e => (g3 k e).2 (.inr hk)⟩, fun k hk => ⟨(g3 k hk).1, fun e => (g3 k hk).2 (.inl e)⟩⟩, t.mono fun k hk => ⟨hk.1, fun e => hk.2 (.inl e)⟩⟩
/-- New ones, the one behind the other. -/
theorem Two.new {c : Int} {w1 w2 : World} {x' : Nat} (hq : Qu (fun _ => False) N w1 h 0 (Lk.new c)) (hr : Rq (fun _ => False) w1.heap.size w2 x' 0 (Lk.new c)) (hb : Below w1.heap.size w1 w2) : Two (fun _ => False) N w2 h x' 0 (Lk.new c) (Lk.new c) := by
  obtain ⟨b, s, n, h1, h2, h3⟩ := hq.is
  obtain ⟨s', t', g1, g3⟩ := hr.is
  exact ⟨hq.ok, hr.ok, Nat.le_trans hq.nw hb.size, fun k hk => hk.elim, hr.len, b, s, n, s', t', h1.below hb, h2, g1, fun k hk => ⟨(h3 k hk).1, fun e => e, fun e => by have := (g3 k e).1; have := h1.lt k hk; omega⟩, fun k hk => ⟨Nat.le_trans hq.nw (g3 k hk).1, fun e => e⟩⟩
end



set_option maxRecDepth 100000 in
set_option maxHeartbeats 8000000 in
theorem plays_law (c : Int) (hc : U8 c) (a : Option Addr) (cc n : Nat) (l : List Stp) (hln : l.length = n) (w : World) (hs : SlSt w a cc l) :
    Calls Try.prog 3 #[.int .u8 c, .slice a n cc] w fun e w' => e = .returned (.bool true) ∧ Below w.heap.size w w' := by
  have HS := Lib.hid hs
  have HLN := Lib.hid hln
  have HC8 := Lib.hid hc
  clear hs hln hc
  go_enter Try.func3, Try.ntmps3
  by_cases h100 : (100 : Int) < (n : Int)
  · go_wp2_with fail
    refine (awake_is _).mono ?_
    rintro e w9 ⟨rfl, hb⟩
    have HB := Lib.hid (hb)
    clear hb
    go_wp2_with fail
    go_ret
    exact ⟨rfl, HB.out⟩
  · have HN : Hid (n ≤ 100) := Lib.hid (by omega)
    by_cases hcl : c = 1 ∨ c = 2
    · have HCL := Lib.hid hcl
      have hcon := new_q c w hcl
      go_wp2_with fail
      refine (show Calls Try.prog _ _ _ _ from hcon).mono ?_
      rintro e w1 ⟨h, rfl, hq, hb⟩
      clear hcon
      have HQ1 := Lib.hid hq
      have HB1 := Lib.hid hb
      clear hq hb
      have hcon := rnew_q c w1 HCL.out
      go_wp2_with fail
      refine (show Calls Try.prog _ _ _ _ from hcon).mono ?_
      rintro e w2 ⟨x, rfl, hr, hb⟩
      clear hcon
      have HT2 : Hid (Two (fun _ => False) w.heap.size w2 h x 0 ((Lk.new c).play (l.take 0)) ((Lk.new c).play (l.take 0))) := Lib.hid (Two.new HQ1.out hr hb)
      have HB2 := Lib.hid (below_tr HB1.out hb)
      clear hr hb HQ1 HB1 hcl
      go_wp2_with fail
      go_loopg [9] n (fun gg s9 wr => ∃ (i : Nat), s9 = .int .i64 i ∧ i ≤ n ∧ n - i ≤ gg ∧ Hid (Two (fun _ => False) w.heap.size wr h x (2 * i) ((Lk.new c).play (l.take i)) ((Lk.new c).play (l.take i)) ∧ Below w.heap.size w wr))
      case atStart => exact ⟨0, rfl, Nat.zero_le _, by omega, Lib.hid ⟨HT2.out, HB2.out⟩⟩
      case round =>
        obtain ⟨i, rfl, hi, hgg, HJ⟩ := hrel
        clear HT2 HB2
        by_cases hlt : i < n
        · have hltz : (i : Int) < (n : Int) := by omega
          obtain ⟨st, b, o, hst, ea, hwf, hbl, q0, q1, q2⟩ := (HS.out.below HJ.out.2).get (i := i) (by rw [HLN.out]; exact hlt)
          subst ea
          have hnc : n ≤ cc := by have := HS.out.lc; rw [HLN.out] at this; exact this
          have hcm := HS.out.cm
          obtain ⟨A, hA⟩ : ∃ A, (Lk.new c).play (l.take i) = A := ⟨_, rfl⟩
          have hA2 := play_take (A := Lk.new c) hst
          rw [hA] at hA2
          have HJ2 : Hid (Two (fun _ => False) w.heap.size wr h x (2 * i) A A ∧ Below w.heap.size w wr) := Lib.hid (by rw [← hA]; exact HJ.out)
          have HLT := Lib.hid (And.intro hlt (And.intro hi hgg))
          have HA2 := Lib.hid hA2
          have HWF := Lib.hid hwf
          obtain ⟨y, m, d⟩ := st
          have q0 : wr.cell? ⟨b, o + i * 3, none⟩ = some (.int .i64 y) := q0
          have q1 : wr.cell? ⟨b, o + i * 3 + 1, none⟩ = some (.int .u8 m) := q1
          have q2 : wr.cell? ⟨b, o + i * 3 + 2, none⟩ = some (.bool d) := q2
          have hal := Below.allocs wr (.cells #[.int .i64 y, .int .u8 m, .bool d] 32)
          have hli := Lit.new wr 32 [.int .i64 y, .int .u8 m, .bool d]
          obtain ⟨W1, hW1⟩ : ∃ W1, wr.alloc (.cells #[.int .i64 y, .int .u8 m, .bool d] 32) = W1 := ⟨_, rfl⟩
          obtain ⟨g, hg⟩ : ∃ g, wr.heap.size = g := ⟨_, rfl⟩
          rw [hW1] at hal
          rw [hW1, hg] at hli
          have HW1 := Lib.hid hW1
          have HGE := Lib.hid hg
          have HG1 := Lib.hid hli
          have HAL := Lib.hid hal
          have hz : 2 * i ≤ 50000 := by have := HN.out; omega
          have HZ := Lib.hid hz
          clear hst hwf hi hgg hal hli hW1 hg hz hA hA2 HJ
          go_upto_region 13 with (fail)
          rw [HW1.out]
          try rw [HGE.out]
          clear HW1 q0 q1 q2 hbl
          have hcon := copy_q HZ.out (HJ2.out.1.below HAL.out).qu
          go_wp2_with fail
          refine (show Calls Try.prog _ _ _ _ from hcon).mono ?_
          rintro e w2 ⟨h2, rfl, hq, hb⟩
          clear hcon
          have HB2 := Lib.hid hb
          have HC2 := Lib.hid hq
          clear hb hq
          have hcon := rcopy_q HZ.out ((HJ2.out.1.below HAL.out).below HB2.out).rq
          go_wp2_with fail
          refine (show Calls Try.prog _ _ _ _ from hcon).mono ?_
          rintro e w3 ⟨x2, rfl, hr, hb⟩
          clear hcon
          obtain ⟨Yc, hY1, hY2⟩ := HC2.out.own
          obtain ⟨Yr, hY3, hY4⟩ := hr.own
          have hb13 : Below wr.heap.size wr w3 := below_tr HAL.out (below_tr HB2.out hb)
          have hg3 := HG1.out.below (below_tr HB2.out hb)
          have hs1 := HAL.out.size
          have hs2 := HB2.out.size
          have HT3 : Hid (Two (fun k => Yc k ∨ Yr k ∨ k = g) w.heap.size w3 h x (2 * i) A A) := Lib.hid (HJ2.out.1.apart (fun k hk => by
            rcases hk with hk | hk | hk
            · have := (hY1 k hk).1.1; omega
            · have := (hY3 k hk).1.1; omega
            · have := HGE.out; omega) (fun k hk => by
            rcases hk with hk | hk | hk
            · have := (hY1 k hk).2; have := hb.size; omega
            · exact (hY3 k hk).2
            · have := hg3.lt; omega) hb13)
          have HCK : Hid (∀ W', Stay (fun k => Yc k ∨ Yr k ∨ k = g) w3 W' → Qu (fun _ => False) W1.heap.size W' h2 (2 * i) A ∧ Rq (fun _ => False) w2.heap.size W' x2 (2 * i) A ∧ Lit W' g 32 [.int .i64 y, .int .u8 m, .bool d]) := Lib.hid (fun W' hs => ⟨hY2 W' ((Stay.of_below hb).trans (hs.mono fun k hk => .inl hk)), hY4 W' (hs.mono fun k hk => .inr (.inl hk)), hg3.stay hs (.inr (.inr rfl))⟩)
          have HB3 := Lib.hid (HJ2.out.2.trans (hb13.mono HJ2.out.2.size))
          have e0 := hg3.cell (o := 0) rfl
          have e1 := hg3.cell (o := 1) rfl
          have e2 := hg3.cell (o := 2) rfl
          have el := hg3.lt
          clear hr hb hY1 hY2 hY3 hY4 hb13 hg3 hs1 hs2 HB2 HC2 HG1 HAL HJ2 HGE
          cases d with
          | true =>
            have hcon := drop_l y HWF.out.who HZ.out HT3.out
            go_wp2_with fail
            refine (show Calls Try.prog _ _ _ _ from hcon).mono ?_
            rintro e w4 ⟨v, rfl, hr, ht4, hf⟩
            clear hcon
            have hst := hf.stay (G := fun k => Yc k ∨ Yr k ∨ k = g) (fun k hk hq => hq.2 hk)
            have hg4 := (HCK.out w4 hst).2.2
            have HST4 := Lib.hid hst
            have HT4 := Lib.hid ht4
            have HB4 : Hid (Below w.heap.size w w4) := Lib.hid (HB3.out.trans (hf.below (fun k hk => hk.1) HB3.out.size))
            clear e0 e1 e2 el
            have e0 := hg4.cell (o := 0) rfl
            have el := hg4.lt
            obtain ⟨va, vc, rfl, -, -⟩ := hr.form
            obtain ⟨vn, vn0⟩ : ∃ k, (A.dropG y).length = k := ⟨_, rfl⟩
            rw [vn0] at hr HT4 ⊢
            have HVN := Lib.hid vn0
            clear vn0
            have HV4 := Lib.hid hr
            clear hst hg4 ht4 hf hr
            have hcon := drop_x y HZ.out HT4.out
            go_wp2_with fail
            refine (show Calls Try.prog _ _ _ _ from hcon).mono ?_
            rintro e w5 ⟨v2, rfl, hr5, -, ht5, hf⟩
            clear hcon
            have hst5 := hf.stay (G := fun k => (Yc k ∨ Yr k ∨ k = g) ∨ Value.ownBlock (.slice va vn vc) = some k) (fun k hk hq => hq.2 hk)
            have HV5 := Lib.hid (RowF.stay HV4.out hst5 (fun k hk => .inr hk))
            have HST5 := Lib.hid (HST4.out.trans (hst5.mono fun k hk => .inl hk))
            have HT5 := Lib.hid ht5
            have HR5 := Lib.hid hr5
            have HB5 : Hid (Below w.heap.size w w5) := Lib.hid (HB4.out.trans (hf.below (fun k hk => hk.1) HB4.out.size))
            clear hst5 hf ht5 hr5 e0 el HT4 HST4 HB4 HV4
            have hcon := ints_is _ _ _ _ true (decide_eq_true rfl) w5 HV5.out HR5.out
            go_wp2_with fail
            refine (show Calls Try.prog _ _ _ _ from hcon).mono ?_
            rintro e wz ⟨rfl, hb⟩
            clear hcon
            have HEZ : Hid (Two (fun k => (Yc k ∨ Yr k ∨ k = g) ∨ Value.ownBlock (.slice va vn vc) = some k) w.heap.size wz h x (2 * (i + 1)) (A.do ⟨y, m, true⟩) (A.do ⟨y, m, true⟩) ∧ Qu (fun _ => False) W1.heap.size wz h2 (2 * i) A ∧ Rq (fun _ => False) w2.heap.size wz x2 (2 * i) A ∧ Below w.heap.size w wz) := Lib.hid ⟨by
              obtain ⟨k1, k2, k3, k4, k5, b9, s9, n9, s8, t8, g1, g2, g3, g4, g5⟩ := HT5.out.below hb
              exact ⟨k1, k2, k3, k4, Nat.le_trans k5 (by omega), b9, s9, n9, s8, t8, g1, Nat.le_trans g2 (by omega), g3, g4, g5⟩, (HCK.out w5 HST5.out).1.below hb, (HCK.out w5 HST5.out).2.1.below hb, HB5.out.trans (hb.mono HB5.out.size)⟩
            clear hb HV5 HR5 HT5 HST5 HB5 HT3 HCK HB3
            go_wp2_with fail
            go_loopg [21] 9 (fun gk s21 wr => ∃ (k : Nat), s21 = .int .i64 k ∧ k ≤ 8 ∧ k ≤ i + 1 ∧ 9 - k ≤ gk ∧ Hid (Below wz.heap.size wz wr))
            case atStart => exact ⟨0, rfl, by omega, by omega, by omega, Lib.hid (Below.refl _ _)⟩
            case round =>
              obtain ⟨k, rfl, hk8, hki, hgk, HBk⟩ := hrel
              by_cases hgo : k ≤ i ∧ k < 8
              · have hk1 : (k : Int) ≤ (i : Int) := by omega
                have hk2 : (k : Int) < 8 := by omega
                obtain ⟨j, hj⟩ : ∃ j, i - k = j := ⟨_, rfl⟩
                have hjn : j < n := by have := HLT.out; omega
                have hjnz : (j : Int) < (n : Int) := by omega
                have hj0 : (0 : Int) ≤ (j : Int) := by omega
                have hsub3 : (i : Int) - (k : Int) = (j : Int) := by omega
                have hwj : wrap64 (j : Int) = (j : Int) := by
                  have := HN.out
                  rw [wrOk (by omega)]
                obtain ⟨st2, b2, o2, -, ea2, hwf2, hbl2, p0, -, -⟩ := (HS.out.below (HEZ.out.2.2.2.trans (HBk.out.mono HEZ.out.2.2.2.size))).get (i := j) (by rw [HLN.out]; exact hjn)
                cases ea2
                obtain ⟨y2, m2, d2⟩ := st2
                have p0 : _ = some (Value.int .i64 y2) := p0
                have HY2 : Hid (I64 y2) := Lib.hid hwf2.who
                have hcon := like_is y2 hwf2.who (by have := HN.out; have := HLT.out; omega) (by have := HN.out; have := HLT.out; omega) (HEZ.out.1.below HBk.out).qu (HEZ.out.1.below HBk.out).rq
                have HHJ := Lib.hid hj
                have HGO := Lib.hid (And.intro hgo (And.intro hk8 (And.intro hki hgk)))
                clear hwf2 hj hgo hk8 hki hgk
                go_wp2_with fail
                refine (show Calls Try.prog _ _ _ _ from hcon).mono ?_
                rintro e wa ⟨rfl, hb⟩
                have HBa := Lib.hid (below_tr HBk.out hb)
                obtain ⟨st3, b3, o3, hst3, ea3, -, hbl3, p1, -, -⟩ := (HS.out.below (HEZ.out.2.2.2.trans (HBa.out.mono HEZ.out.2.2.2.size))).get (i := j) (by rw [HLN.out]; exact hjn)
                cases ea3
                obtain ⟨y3, m3, d3⟩ := st3
                have p1 : _ = some (Value.int .i64 y3) := p1
                have hy3 : I64 y3 := (HS.out.wf _ (List.mem_of_getElem? hst3)).who
                have hcon := like_is y3 hy3 HZ.out HZ.out (HEZ.out.2.1.below HBa.out) (HEZ.out.2.2.1.below HBa.out)
                clear hb p0 hbl2 hst3 hy3
                go_wp2_with fail
                refine (show Calls Try.prog _ _ _ _ from hcon).mono ?_
                rintro e wb ⟨rfl, hb⟩
                have HBb := Lib.hid (below_tr HBa.out hb)
                clear hb hcon p1 hbl3
                go_wp2_with fail
                go_roundg (9 - (k + 1))
                case measure => have := HGO.out; omega
                case rel => exact ⟨k + 1, by go_num, by have := HGO.out; omega, by have := HGO.out; omega, Nat.le_refl _, HBb⟩
              · by_cases hk1 : k ≤ i
                · have hk3 : (k : Int) ≤ (i : Int) := by omega
                  have hk2 : ¬ (k : Int) < 8 := by omega
                  clear hgo
                  go_wp2_with fail
                  go_roundg (n - (i + 1))
                  case measure => have := HLT.out; omega
                  case rel => exact ⟨i + 1, by first | rfl | (rw [wrOk (by have := HN.out; have := HLT.out; omega)]; rfl), by have := HLT.out; omega, Nat.le_refl _, Lib.hid (by rw [HA2.out]; exact ⟨(HEZ.out.1.below HBk.out).free, HEZ.out.2.2.2.trans (HBk.out.mono HEZ.out.2.2.2.size)⟩)⟩
                · have hk3 : ¬ (k : Int) ≤ (i : Int) := by omega
                  clear hgo
                  go_wp2_with fail
                  go_roundg (n - (i + 1))
                  case measure => have := HLT.out; omega
                  case rel => exact ⟨i + 1, by first | rfl | (rw [wrOk (by have := HN.out; have := HLT.out; omega)]; rfl), by have := HLT.out; omega, Nat.le_refl _, Lib.hid (by rw [HA2.out]; exact ⟨(HEZ.out.1.below HBk.out).free, HEZ.out.2.2.2.trans (HBk.out.mono HEZ.out.2.2.2.size)⟩)⟩
          | false =>
            have hcon := ask_l y m HWF.out.who HWF.out.mode HZ.out HT3.out
            go_wp2_with fail
            refine (show Calls Try.prog _ _ _ _ from hcon).mono ?_
            rintro e w4 ⟨rfl, ht4, hf⟩
            clear hcon
            have hst := hf.stay (G := fun k => Yc k ∨ Yr k ∨ k = g) (fun k hk hq => hq.2 hk)
            have hg4 := (HCK.out w4 hst).2.2
            have HST4 := Lib.hid hst
            have HT4 := Lib.hid ht4
            have HB4 : Hid (Below w.heap.size w w4) := Lib.hid (HB3.out.trans (hf.below (fun k hk => hk.1) HB3.out.size))
            clear e0 e1 e2 el
            have e0 := hg4.cell (o := 0) rfl
            have e1 := hg4.cell (o := 1) rfl
            have el := hg4.lt
            clear hst hg4 ht4 hf
            have hcon := ask_x y m HWF.out.who HWF.out.mode (by have := HN.out; have := HLT.out; omega) HT4.out
            go_wp2_with fail
            refine (show Calls Try.prog _ _ _ _ from hcon).mono ?_
            rintro e wz ⟨rfl, ht5, hf⟩
            clear hcon
            have hst5 := hf.stay (G := fun k => Yc k ∨ Yr k ∨ k = g) (fun k hk hq => hq.2 hk)
            have HEZ : Hid (Two (fun k => Yc k ∨ Yr k ∨ k = g) w.heap.size wz h x (2 * (i + 1)) (A.do ⟨y, m, false⟩) (A.do ⟨y, m, false⟩) ∧ Qu (fun _ => False) W1.heap.size wz h2 (2 * i) A ∧ Rq (fun _ => False) w2.heap.size wz x2 (2 * i) A ∧ Below w.heap.size w wz) := Lib.hid ⟨ht5, (HCK.out wz (HST4.out.trans hst5)).1, (HCK.out wz (HST4.out.trans hst5)).2.1, HB4.out.trans (hf.below (fun k hk => hk.1) HB4.out.size)⟩
            clear hst5 hf ht5 e0 e1 el HT4 HST4 HB4 HT3 HCK HB3
            go_wp2_with fail
            go_loopg [21] 9 (fun gk s21 wr => ∃ (k : Nat), s21 = .int .i64 k ∧ k ≤ 8 ∧ k ≤ i + 1 ∧ 9 - k ≤ gk ∧ Hid (Below wz.heap.size wz wr))
            case atStart => exact ⟨0, rfl, by omega, by omega, by omega, Lib.hid (Below.refl _ _)⟩
            case round =>
              obtain ⟨k, rfl, hk8, hki, hgk, HBk⟩ := hrel
              by_cases hgo : k ≤ i ∧ k < 8
              · have hk1 : (k : Int) ≤ (i : Int) := by omega
                have hk2 : (k : Int) < 8 := by omega
                obtain ⟨j, hj⟩ : ∃ j, i - k = j := ⟨_, rfl⟩
                have hjn : j < n := by have := HLT.out; omega
                have hjnz : (j : Int) < (n : Int) := by omega
                have hj0 : (0 : Int) ≤ (j : Int) := by omega
                have hsub3 : (i : Int) - (k : Int) = (j : Int) := by omega
                have hwj : wrap64 (j : Int) = (j : Int) := by
                  have := HN.out
                  rw [wrOk (by omega)]
                obtain ⟨st2, b2, o2, -, ea2, hwf2, hbl2, p0, -, -⟩ := (HS.out.below (HEZ.out.2.2.2.trans (HBk.out.mono HEZ.out.2.2.2.size))).get (i := j) (by rw [HLN.out]; exact hjn)
                cases ea2
                obtain ⟨y2, m2, d2⟩ := st2
                have p0 : _ = some (Value.int .i64 y2) := p0
                have HY2 : Hid (I64 y2) := Lib.hid hwf2.who
                have hcon := like_is y2 hwf2.who (by have := HN.out; have := HLT.out; omega) (by have := HN.out; have := HLT.out; omega) (HEZ.out.1.below HBk.out).qu (HEZ.out.1.below HBk.out).rq
                have HHJ := Lib.hid hj
                have HGO := Lib.hid (And.intro hgo (And.intro hk8 (And.intro hki hgk)))
                clear hwf2 hj hgo hk8 hki hgk
                go_wp2_with fail
                refine (show Calls Try.prog _ _ _ _ from hcon).mono ?_
                rintro e wa ⟨rfl, hb⟩
                have HBa := Lib.hid (below_tr HBk.out hb)
                obtain ⟨st3, b3, o3, hst3, ea3, -, hbl3, p1, -, -⟩ := (HS.out.below (HEZ.out.2.2.2.trans (HBa.out.mono HEZ.out.2.2.2.size))).get (i := j) (by rw [HLN.out]; exact hjn)
                cases ea3
                obtain ⟨y3, m3, d3⟩ := st3
                have p1 : _ = some (Value.int .i64 y3) := p1
                have hy3 : I64 y3 := (HS.out.wf _ (List.mem_of_getElem? hst3)).who
                have hcon := like_is y3 hy3 HZ.out HZ.out (HEZ.out.2.1.below HBa.out) (HEZ.out.2.2.1.below HBa.out)
                clear hb p0 hbl2 hst3 hy3
                go_wp2_with fail
                refine (show Calls Try.prog _ _ _ _ from hcon).mono ?_
                rintro e wb ⟨rfl, hb⟩
                have HBb := Lib.hid (below_tr HBa.out hb)
                clear hb hcon p1 hbl3
                go_wp2_with fail
                go_roundg (9 - (k + 1))
                case measure => have := HGO.out; omega
                case rel => exact ⟨k + 1, by go_num, by have := HGO.out; omega, by have := HGO.out; omega, Nat.le_refl _, HBb⟩
              · by_cases hk1 : k ≤ i
                · have hk3 : (k : Int) ≤ (i : Int) := by omega
                  have hk2 : ¬ (k : Int) < 8 := by omega
                  clear hgo
                  go_wp2_with fail
                  go_roundg (n - (i + 1))
                  case measure => have := HLT.out; omega
                  case rel => exact ⟨i + 1, by first | rfl | (rw [wrOk (by have := HN.out; have := HLT.out; omega)]; rfl), by have := HLT.out; omega, Nat.le_refl _, Lib.hid (by rw [HA2.out]; exact ⟨(HEZ.out.1.below HBk.out).free, HEZ.out.2.2.2.trans (HBk.out.mono HEZ.out.2.2.2.size)⟩)⟩
                · have hk3 : ¬ (k : Int) ≤ (i : Int) := by omega
                  clear hgo
                  go_wp2_with fail
                  go_roundg (n - (i + 1))
                  case measure => have := HLT.out; omega
                  case rel => exact ⟨i + 1, by first | rfl | (rw [wrOk (by have := HN.out; have := HLT.out; omega)]; rfl), by have := HLT.out; omega, Nat.le_refl _, Lib.hid (by rw [HA2.out]; exact ⟨(HEZ.out.1.below HBk.out).free, HEZ.out.2.2.2.trans (HBk.out.mono HEZ.out.2.2.2.size)⟩)⟩
        · have hltz : ¬ (i : Int) < (n : Int) := by omega
          have HBe := Lib.hid HJ.out.2
          clear hi hgg hlt HJ
          go_wp2_with fail
          refine (awake_is _).mono ?_
          rintro e w9 ⟨rfl, hb⟩
          have HB := Lib.hid (below_tr HBe.out hb)
          clear hb
          go_wp2_with fail
          go_ret
          exact ⟨rfl, HB.out⟩
    · have hc1 : c ≠ 1 := fun e => hcl (.inl e)
      have hc2 : c ≠ 2 := fun e => hcl (.inr e)
      have hcon := new_bad c w ⟨hc1, hc2⟩
      go_wp2_with fail
      refine (show Calls Try.prog _ _ _ _ from hcon).mono ?_
      rintro e w1 ⟨rfl, hb⟩
      clear hcon
      have HB1 := Lib.hid hb
      clear hb
      have hcon := rnew_bad c w1 hc1 hc2
      go_wp2_with fail
      refine (show Calls Try.prog _ _ _ _ from hcon).mono ?_
      rintro e w2 ⟨rfl, hb⟩
      clear hcon
      have HB2 := Lib.hid (below_tr HB1.out hb)
      clear hb HB1
      go_wp2_with fail
      refine (awake_is _).mono ?_
      rintro e w9 ⟨rfl, hb⟩
      have HB := Lib.hid (below_tr HB2.out hb)
      clear hb
      go_wp2_with fail
      go_ret
      exact ⟨rfl, HB.out⟩

end Go.Proofs.Ytjjhmfpdbjflmaa
