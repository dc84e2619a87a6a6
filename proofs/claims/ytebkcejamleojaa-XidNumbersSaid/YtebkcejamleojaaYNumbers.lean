/-
  The law XidNumbers, walked.
-/
import Derived.Test.YtebkcejamleojaaYNumM
import Derived.Test.YtebkcejamleojaaYBelow
namespace Go.Proofs.Ytebkcejamleojaa
open Go.RowKit
set_option linter.unusedVariables false

/-- What a step does to the last number. -/
theorem last_step {T : Tb} (hok : T.Ok) (h : T.Nums) (kind id : Int) : ((kind = 1 ∧ T.stpE kind id = 0 ∧ T.g T.top id = id) → (T.stp kind id).last = T.last + 1 ∧ (T.stp kind id).numI id = (T.last : Int) + 1) ∧ (¬ (kind = 1 ∧ T.stpE kind id = 0 ∧ T.g T.top id = id) → (T.stp kind id).last = T.last) := by
  by_cases h0 : kind = 0
  · subst h0
    refine ⟨fun h => absurd h.1 (by omega), fun _ => ?_⟩
    rw [(begT_eq T id).1]
    unfold Tb.begT
    split <;> rfl
  · by_cases h1 : kind = 1
    · obtain ⟨e1, e2, e3⟩ := comT_eq T kind id h0 h1
      rw [e1, e3]
      unfold Tb.comT
      by_cases he : T.err id = 0
      · rw [if_pos he]
        obtain ⟨i1, i2, i3⟩ := Tb.err_ok he
        have ht : T.g T.top id = T.top id.toNat := Tb.g_in ⟨i1, i2⟩
        have hti := hok.top_in id.toNat (by omega) (by omega)
        unfold Tb.com
        by_cases hp : T.par id.toNat = 0
        · rw [if_pos hp]
          refine ⟨fun _ => ⟨rfl, ?_⟩, fun hn => absurd ⟨h1, he, by rw [ht, hok.top0 _ (by omega) (by omega) hp]; omega⟩ hn⟩
          have hst : ((T.fin id.toNat 2).give id.toNat).st id.toNat = 2 := by
            show (T.fin id.toNat 2).st id.toNat = 2
            rcases Tb.fin_st hok (show 1 ≤ id.toNat by omega) (show id.toNat ≤ T.n by omega) id.toNat 2 with ⟨_, _, e⟩ | ⟨hn, _⟩
            · exact e
            · exact absurd ⟨.self, by omega⟩ hn
          have hin : 1 ≤ id ∧ id ≤ ((T.fin id.toNat 2).give id.toNat).n := ⟨i1, i2⟩
          have hc : ((T.fin id.toNat 2).give id.toNat).cnt id = true := by unfold Tb.cnt; rw [Tb.g_in hin, hst]; rfl
          have htp : ((T.fin id.toNat 2).give id.toNat).g ((T.fin id.toNat 2).give id.toNat).top id = id := by
            rw [Tb.g_in hin]
            show (T.top id.toNat : Int) = id
            rw [hok.top0 _ (by omega) (by omega) hp]; omega
          unfold Tb.numI
          rw [hc, htp, Tb.g_in hin]
          show ((upd T.num id.toNat (T.last + 1)) id.toNat : Int) = _
          rw [upd_same]
          rfl
        · rw [if_neg hp]
          refine ⟨fun hh => ?_, fun _ => rfl⟩
          have h3 := hh.2.2
          rw [ht] at h3
          have : T.top id.toNat = id.toNat := by omega
          exact absurd (this ▸ hti.2.2) hp
      · rw [if_neg he]
        exact ⟨fun hh => absurd hh.2.1 he, fun _ => rfl⟩
    · rw [(aboT_eq T kind id h0 h1).1]
      refine ⟨fun hh => absurd hh.1 h1, fun _ => ?_⟩
      unfold Tb.aboT
      split <;> rfl

def metR (T : Tb) (i m : Nat) : List Value := [.int .i64 (met T i m)]

/-- A row of zeros, made. -/
theorem made_row (w : World) (n : Nat) (hn : n ≤ 1000) (f : Nat → List Value) (hf : ∀ j, f j = [.int .i64 0]) : ∃ W, (Instr.makeSlice 33 (.int .i64 (n : Int)) (.int .i64 (n : Int))).run Try.prog w = .ok (.slice (some ⟨w.heap.size, 0, none⟩) n n) W ∧ RowF 3 1 W (.slice (some ⟨w.heap.size, 0, none⟩) n n) n f ∧ Below w.heap.size w W := by
  obtain ⟨i0, hi, hz, hsz, hby⟩ := info_parts info_int
  obtain ⟨W, hr, ho, hg⟩ := run_make_full (P := Try.prog) w 0 33 3 i0 (.int .i64 0) 1 Try.underlying33 hi hz hsz .i64 .i64 n (by rw [hby]; omega) (by unfold maxLen; omega) (Nat.zero_le _)
  refine ⟨W, hr, ⟨⟨_, ho, fun j hj o v hv => ?_⟩, fun j _ => by rw [hf]; rfl⟩, (Below.refl _ _).grown hg (Nat.le_refl _) (fun k e => by cases e)⟩
  rw [hf] at hv
  match o, hv with
  | 0, hv =>
    have hv' : v = .int .i64 0 := by simpa using hv.symm
    subst hv'
    rw [show (Value.cells (.int .i64 0)) = #[.int .i64 0] from rfl, toList_madeCells_one, List.getElem?_replicate, if_pos (by omega)]
  | o + 1, hv => simp at hv

set_option maxRecDepth 100000 in
set_option maxHeartbeats 8000000 in
theorem numbers_large (a0 : Option Addr) (c0 n0 : Nat) (l0 : List Stp) (hn0 : l0.length = n0) (w : World) (hs0 : SlSt w a0 c0 l0) (hz : 80 < n0) :
    Calls Try.prog 6 #[.slice a0 n0 c0] w fun e w' => e = .returned (.bool true) ∧ Below w.heap.size w w' := by
  have hz2 : (80 : Int) < n0 := by omega
  go_enter Try.func6, Try.ntmps6
  have hcon := works_is w
  go_wp2_with fail
  refine (show Calls Try.prog _ _ _ _ from hcon).mono ?_
  rintro e w1 ⟨rfl, hb⟩
  have HB1 := Lib.hid hb
  clear hcon hb
  have hcon := works_is w1
  go_wp2_with fail
  refine (show Calls Try.prog _ _ _ _ from hcon).mono ?_
  rintro e w2 ⟨rfl, hb⟩
  have HB2 := Lib.hid (below_tr HB1.out hb)
  clear hcon hb HB1
  go_wp2_with fail
  go_ret
  exact ⟨rfl, HB2.out⟩

set_option maxRecDepth 100000 in
set_option maxHeartbeats 8000000 in
theorem numbers_main (a0 : Option Addr) (c0 n0 : Nat) (l0 : List Stp) (hn0 : l0.length = n0) (w : World) (hs0 : SlSt w a0 c0 l0) (hz : n0 ≤ 80) :
    Calls Try.prog 6 #[.slice a0 n0 c0] w fun e w' => e = .returned (.bool true) ∧ Below w.heap.size w w' := by
  have hz2 : ¬ (80 : Int) < n0 := by omega
  have HS := Lib.hid hs0
  have HN := Lib.hid hn0
  clear hs0 hn0
  go_enter Try.func6, Try.ntmps6
  have hcon := works_is w
  go_wp2_with fail
  refine (show Calls Try.prog _ _ _ _ from hcon).mono ?_
  rintro e w1 ⟨rfl, hb⟩
  have HB1 := Lib.hid hb
  clear hcon hb
  have hcon := one_new (w0 := w) HB1.out
  go_wp2_with fail
  refine (show Calls Try.prog _ _ _ _ from hcon).mono ?_
  rintro e w2 ⟨t, F0, rfl, h2, -, -⟩
  have HO1 := Lib.hid h2
  clear hcon h2 HB1
  go_wp2_with fail
  go_loopg [4, 5] n0 (fun gg s4 s5 wr => ∃ (i : Nat) (F : Nat → Prop) (la : Nat), s4 = .int .i64 la ∧ s5 = .int .i64 i ∧ i ≤ n0 ∧ n0 - i ≤ gg ∧ Hid ((Tb.new.run (l0.take i)).last = la) ∧ Hid (One w wr t (Tb.new.run (l0.take i)) F))
  case atStart => exact ⟨0, F0, 0, rfl, rfl, Nat.zero_le _, by omega, Lib.hid rfl, HO1⟩
  case round =>
    obtain ⟨i, F, la, rfl, rfl, hin, hgg, HL0, HO⟩ := hrel
    clear HO1
    obtain ⟨T, hT⟩ : ∃ T, Tb.new.run (l0.take i) = T := ⟨_, rfl⟩
    have hsm := run_small (i := i) HN.out hz
    have hok := Tb.new_ok.run (l0.take i)
    have hnu := Tb.new_nums.runs Tb.new_ok (l0.take i)
    rw [hT] at HL0 HO hsm hok hnu
    by_cases hlt : i < n0
    · have hltz : (i : Int) < (n0 : Int) := by omega
      obtain ⟨st, hst⟩ := get_stp (l := l0) (i := i) (by rw [HN.out]; exact hlt)
      obtain ⟨kind, id⟩ := st
      have hsl := HS.out.below HO.out.bel
      obtain ⟨sb, so, rfl, d0, d1, d2⟩ := at_st hsl hst
      have hwf := hsl.wf _ (List.mem_of_getElem? hst)
      have hlc : n0 ≤ c0 := by have := hsl.lc; rw [HN.out] at this; exact this
      have hrun := run_take (T := Tb.new) hst
      rw [hT] at hrun
      have hls := last_step hok hnu kind id
      obtain ⟨U, hU⟩ : ∃ U, T.stp kind id = U := ⟨_, rfl⟩
      obtain ⟨va, hva⟩ : ∃ va, T.stpI kind id = va := ⟨_, rfl⟩
      obtain ⟨ve, hve⟩ : ∃ ve, T.stpE kind id = ve := ⟨_, rfl⟩
      obtain ⟨tp, htp⟩ : ∃ tp, T.g T.top id = tp := ⟨_, rfl⟩
      obtain ⟨z, hz8⟩ : ∃ z, decide (tp = id) = z := ⟨_, rfl⟩
      have hsmU := (show T.Small 80 from hsm).stp kind id
      rw [hU, hve] at hls
      change Tb.new.run (l0.take (i + 1)) = T.stp kind id at hrun
      rw [hU] at hrun hsmU
      have HST : Hid (∀ W, Below wr.heap.size wr W → sb < W.heap.size ∧ W.cell? ⟨sb, so + i * 2, none⟩ = some (.int .u8 kind) ∧ W.cell? ⟨sb, so + i * 2 + 1, none⟩ = some (.int .i64 id)) := Lib.hid (fun W hb => ⟨Nat.lt_of_lt_of_le d0 hb.size, by rw [hb.cell (p := ⟨sb, so + i * 2, none⟩) d0]; exact d1, by rw [hb.cell (p := ⟨sb, so + i * 2 + 1, none⟩) d0]; exact d2⟩)
      have HGS := Lib.hid hst
      have HLS := Lib.hid hls
      have HRUN := Lib.hid hrun
      have HTP := Lib.hid htp
      have HID : Hid (I64 id) := Lib.hid hwf.2
      have HKD := Lib.hid hwf.1
      have HSM0 : Hid (la ≤ 80) := Lib.hid (by rw [← HL0.out]; exact hsm.2)
      have HSM1 := Lib.hid hsmU.1
      have HCD : Hid (∀ W, One w W t T F → Calls Try.prog 23 #[.agg #[.int .u8 kind, .int .i64 id], .pointer (some ⟨t, 0, none⟩)] W fun e w' => Next w W t F U (.tuple #[.int .i64 va, .int .i64 ve]) e w') := Lib.hid (fun W h => one_do h (by have := hsm.1; omega) (by have := hsm.2; omega) kind id va ve hwf.1 hwf.2 hva hve hU)
      clear d0 d1 d2 hwf hrun hls hva hve htp hsmU hst hsm hok hnu hsl hT hU
      go_wp2_with fail
      have hdr := below_drw wr
      refine RX.wp_region_plan (fun w w' => Below w.heap.size w w') [.it (.pointer (some ⟨t, 0, none⟩)), .it (.slice (some ⟨sb, so, none⟩) n0 c0), .it (.int .i64 i), .it (.pointer (some ⟨sb, so + i * 2, none⟩)), .it (.pointer (some ⟨sb, so + i * 2 + 1, none⟩)), .it (.int .i64 id), .it (.int .i64 tp), .it (.slice (some ⟨sb, so, none⟩) n0 c0), .it (.int .i64 i), .it (.pointer (some ⟨sb, so + i * 2, none⟩)), .it (.pointer (some ⟨sb, so + i * 2 + 1, none⟩)), .it (.int .i64 id), .it (.bool z), .it (.bool z)] (by kernel_rfl) (by kernel_rfl) (fun _ => Below.refl _ _) (fun _ _ _ => below_tr) ?_
      refine RX.seqP_value (fun _ => Below.refl _ _) _ (by first | rfl | simp) (fun w' hw' hctx => ?_) ?_
      · go_simp
        try first | with_reducible rfl | simp
      simp only [Act.put, List.setIfInBounds_toArray, List.set_cons_zero, List.set_cons_succ]
      refine RX.seqP_value (fun _ => Below.refl _ _) _ (by first | rfl | simp) (fun w' hw' hctx => ?_) ?_
      · go_simp
        try first | with_reducible rfl | simp
      simp only [Act.put, List.setIfInBounds_toArray, List.set_cons_zero, List.set_cons_succ]
      refine RX.seqP_value (fun _ => Below.refl _ _) _ (by first | rfl | simp) (fun w' hw' hctx => ?_) ?_
      · go_simp
        try first | with_reducible rfl | simp
      simp only [Act.put, List.setIfInBounds_toArray, List.set_cons_zero, List.set_cons_succ]
      refine RX.seqP_value (fun _ => Below.refl _ _) _ (by first | rfl | simp) (fun w' hw' hctx => ?_) ?_
      · obtain ⟨d0, d1, d2⟩ := HST.out w' (below_tr hdr hw')
        go_simp
        try first | with_reducible rfl | simp
      simp only [Act.put, List.setIfInBounds_toArray, List.set_cons_zero, List.set_cons_succ]
      refine RX.seqP_value (fun _ => Below.refl _ _) _ (by first | rfl | simp) (fun w' hw' hctx => ?_) ?_
      · obtain ⟨d0, d1, d2⟩ := HST.out w' (below_tr hdr hw')
        go_simp
        try first | with_reducible rfl | simp
      simp only [Act.put, List.setIfInBounds_toArray, List.set_cons_zero, List.set_cons_succ]
      refine RX.seqP_value (fun _ => Below.refl _ _) _ (by first | rfl | simp) (fun w' hw' hctx => ?_) ?_
      · obtain ⟨d0, d1, d2⟩ := HST.out w' (below_tr hdr hw')
        go_simp
        try first | with_reducible rfl | simp
      simp only [Act.put, List.setIfInBounds_toArray, List.set_cons_zero, List.set_cons_succ]
      refine RX.seqP_call 15 #[.pointer (some ⟨t, 0, none⟩), .int .i64 id] (.int .i64 tp) (by first | rfl | simp) (fun w' hw' hctx => ?_) (fun w' hw' hctx => (one_top (HO.out.below (below_tr hdr hw')) id tp HID.out HTP.out).mono fun e w2 ⟨he, h2⟩ => ⟨he, h2⟩) ?_
      · go_simp
      simp only [Act.put, List.setIfInBounds_toArray, List.set_cons_zero, List.set_cons_succ]
      refine RX.seqP_value (fun _ => Below.refl _ _) _ (by first | rfl | simp) (fun w' hw' hctx => ?_) ?_
      · go_simp
        try first | with_reducible rfl | simp
      simp only [Act.put, List.setIfInBounds_toArray, List.set_cons_zero, List.set_cons_succ]
      refine RX.seqP_value (fun _ => Below.refl _ _) _ (by first | rfl | simp) (fun w' hw' hctx => ?_) ?_
      · go_simp
        try first | with_reducible rfl | simp
      simp only [Act.put, List.setIfInBounds_toArray, List.set_cons_zero, List.set_cons_succ]
      refine RX.seqP_value (fun _ => Below.refl _ _) _ (by first | rfl | simp) (fun w' hw' hctx => ?_) ?_
      · obtain ⟨d0, d1, d2⟩ := HST.out w' (below_tr hdr hw')
        go_simp
        try first | with_reducible rfl | simp
      simp only [Act.put, List.setIfInBounds_toArray, List.set_cons_zero, List.set_cons_succ]
      refine RX.seqP_value (fun _ => Below.refl _ _) _ (by first | rfl | simp) (fun w' hw' hctx => ?_) ?_
      · obtain ⟨d0, d1, d2⟩ := HST.out w' (below_tr hdr hw')
        go_simp
        try first | with_reducible rfl | simp
      simp only [Act.put, List.setIfInBounds_toArray, List.set_cons_zero, List.set_cons_succ]
      refine RX.seqP_value (fun _ => Below.refl _ _) _ (by first | rfl | simp) (fun w' hw' hctx => ?_) ?_
      · obtain ⟨d0, d1, d2⟩ := HST.out w' (below_tr hdr hw')
        go_simp
        try first | with_reducible rfl | simp
      simp only [Act.put, List.setIfInBounds_toArray, List.set_cons_zero, List.set_cons_succ]
      refine RX.seqP_value (fun _ => Below.refl _ _) _ (by first | rfl | simp) (fun w' hw' hctx => ?_) ?_
      · go_simp
        try first | exact hz8 | (simp [← hz8]; done) | simp
      simp only [Act.put, List.setIfInBounds_toArray, List.set_cons_zero, List.set_cons_succ]
      refine RX.seqP_value (fun _ => Below.refl _ _) _ (by first | rfl | simp) (fun w' hw' hctx => ?_) ?_
      · go_simp
        try first | with_reducible rfl | simp
      simp only [Act.put, List.setIfInBounds_toArray, List.set_cons_zero, List.set_cons_succ]
      refine RX.seqP_nil (fun v3 hR hctx _ => ?_)
      have hv3 := below_tr hdr hR
      have HO3 := Lib.hid (HO.out.below hv3)
      obtain ⟨d0, d1, d2⟩ := HST.out v3 hv3
      clear hctx hR hv3 hdr HO HST
      have hcon := HCD.out v3 HO3.out
      go_wp2_with fail
      refine (show Calls Try.prog _ _ _ _ from hcon).mono ?_
      rintro e w4 ⟨F', rfl, ho4, ht4, hf4⟩
      have HO4 := Lib.hid ho4
      have hst4 : sb < w4.heap.size ∧ w4.cell? ⟨sb, so + i * 2, none⟩ = some (.int .u8 kind) ∧ w4.cell? ⟨sb, so + i * 2 + 1, none⟩ = some (.int .i64 id) := by
        obtain ⟨b', o', e', d0, d1, d2⟩ := at_st (HS.out.below ho4.bel) HGS.out
        cases e'
        exact ⟨d0, d1, d2⟩
      obtain ⟨e0, e1, e2⟩ := hst4
      clear hcon ho4 ht4 hf4 d0 d1 d2 HO3
      by_cases hk1 : kind = 1
      · by_cases hv0 : ve = 0
        · cases z with
          | true =>
            obtain ⟨hl1, hl2⟩ := HLS.out.1 ⟨hk1, hv0, by rw [HTP.out]; exact of_decide_eq_true hz8⟩
            rw [HL0.out] at hl1 hl2
            have HLA := Lib.hid hl1
            have HN2 := Lib.hid hl2
            have HSU := Lib.hid (show U.n ≤ 1000 by have := HSM1.out; omega)
            have hlw : wrap64 ((la : Int) + 1) = (la : Int) + 1 := wr0 (by have := HSM0.out; omega)
            clear hl1 hl2
            have hcon := one_number HO4.out HSU.out id _ HID.out HN2.out
            go_wp2_with fail
            refine (show Calls Try.prog _ _ _ _ from hcon).mono ?_
            rintro e w4b ⟨rfl, hb⟩
            have HO4b := Lib.hid (HO4.out.below hb)
            clear hcon hb HO4
            have hcon := one_last HO4b.out ((la : Int) + 1) (by rw [HLA.out]; rfl)
            go_wp2_with fail
            refine (show Calls Try.prog _ _ _ _ from hcon).mono ?_
            rintro e w5 ⟨rfl, hb⟩
            have HO5 := Lib.hid (HO4b.out.below hb)
            clear hcon hb HO4b
            go_wp2_with fail
            go_roundg (n0 - (i + 1))
            case measure => omega
            case rel => exact ⟨i + 1, F', la + 1, by go_num, rfl, by omega, Nat.le_refl _, Lib.hid (by have hr := HRUN.out; rw [hr]; exact HLA.out), by have hr := HRUN.out; rw [hr]; exact HO5⟩
          | false =>
            have hno : ¬ (kind = 1 ∧ ve = 0 ∧ T.g T.top id = id) := fun h => of_decide_eq_false hz8 (by rw [← HTP.out]; exact h.2.2)
            have HLA : Hid (U.last = la) := Lib.hid (by rw [HLS.out.2 hno]; exact HL0.out)
            clear hno
            have hcon := one_last HO4.out (la : Int) (by rw [HLA.out])
            go_wp2_with fail
            refine (show Calls Try.prog _ _ _ _ from hcon).mono ?_
            rintro e w5 ⟨rfl, hb⟩
            have HO5 := Lib.hid (HO4.out.below hb)
            clear hcon hb HO4
            go_wp2_with fail
            go_roundg (n0 - (i + 1))
            case measure => omega
            case rel => exact ⟨i + 1, F', la, by go_num, rfl, by omega, Nat.le_refl _, Lib.hid (by have hr := HRUN.out; rw [hr]; exact HLA.out), by have hr := HRUN.out; rw [hr]; exact HO5⟩
        · have hv1 : (ve == 0) = false := by simpa using hv0
          have hno : ¬ (kind = 1 ∧ ve = 0 ∧ T.g T.top id = id) := fun h => hv0 h.2.1
          clear hv0
          have HLA : Hid (U.last = la) := Lib.hid (by rw [HLS.out.2 hno]; exact HL0.out)
          clear hno
          have hcon := one_last HO4.out (la : Int) (by rw [HLA.out])
          go_wp2_with fail
          refine (show Calls Try.prog _ _ _ _ from hcon).mono ?_
          rintro e w5 ⟨rfl, hb⟩
          have HO5 := Lib.hid (HO4.out.below hb)
          clear hcon hb HO4
          go_wp2_with fail
          go_roundg (n0 - (i + 1))
          case measure => omega
          case rel => exact ⟨i + 1, F', la, by go_num, rfl, by omega, Nat.le_refl _, Lib.hid (by have hr := HRUN.out; rw [hr]; exact HLA.out), by have hr := HRUN.out; rw [hr]; exact HO5⟩
      · have hk2 : (kind == 1) = false := by simpa using hk1
        have hno : ¬ (kind = 1 ∧ ve = 0 ∧ T.g T.top id = id) := fun h => hk1 h.1
        have HLA : Hid (U.last = la) := Lib.hid (by rw [HLS.out.2 hno]; exact HL0.out)
        clear hno
        have hcon := one_last HO4.out (la : Int) (by rw [HLA.out])
        go_wp2_with fail
        refine (show Calls Try.prog _ _ _ _ from hcon).mono ?_
        rintro e w5 ⟨rfl, hb⟩
        have HO5 := Lib.hid (HO4.out.below hb)
        clear hcon hb HO4
        go_wp2_with fail
        go_roundg (n0 - (i + 1))
        case measure => omega
        case rel => exact ⟨i + 1, F', la, by go_num, rfl, by omega, Nat.le_refl _, Lib.hid (by have hr := HRUN.out; rw [hr]; exact HLA.out), by have hr := HRUN.out; rw [hr]; exact HO5⟩
    · have hltz : ¬ (i : Int) < (n0 : Int) := by omega
      clear hltz
      obtain ⟨n, hn9⟩ : ∃ n, T.n = n := ⟨_, rfl⟩
      have HNL : Hid (T.n ≤ 1000) := Lib.hid (by have := hsm.1; omega)
      have HN9 := Lib.hid hn9
      have HOK := Lib.hid hok
      have HNU := Lib.hid hnu
      have hn80 : n ≤ 80 := by have := hsm.1; omega
      have hla80 : la ≤ 80 := by rw [← HL0.out]; exact hsm.2
      obtain ⟨W9, hmk, hrow, hb9⟩ := made_row wr (la + 1) (by omega) (metR T 0) (fun _ => rfl)
      have hcs : ((la + 1 : Nat) : Int) = (la : Int) + 1 := by omega
      rw [hcs] at hmk
      obtain ⟨b9, hb9e⟩ : ∃ b9, wr.heap.size = b9 := ⟨_, rfl⟩
      rw [hb9e] at hrow hmk
      have HNF : Hid (¬ F b9) := Lib.hid (fun hx => by have := HO.out.is.lt b9 hx; omega)
      have HB9 : Hid (w.heap.size ≤ b9) := Lib.hid (by have := HO.out.bel.size; omega)
      have HOA := Lib.hid (HO.out.below hb9)
      have HMA := Lib.hid hrow
      have hlw : wrap64 ((la : Int) + 1) = (la : Int) + 1 := wr0 (by omega)
      clear hsm hok hnu hrow hb9 hb9e hn9 HO
      go_wp2_with fail
      clear hlw hmk hcs
      go_loopg [10] n (fun gg s wr => ∃ (i : Nat), s = .int .i64 ((i : Int) + 1) ∧ i ≤ n ∧ n - i ≤ gg ∧ Hid (One w wr t T F) ∧ Hid (RowF 3 1 wr (.slice (some ⟨b9, 0, none⟩) (la + 1) (la + 1)) (la + 1) (metR T i)))
      case atStart => exact ⟨0, by simp, Nat.zero_le _, by omega, HOA, HMA⟩
      case round =>
        obtain ⟨i, rfl, hin, hgg, HO, HM⟩ := hrel
        clear HOA HMA
        have hcon := one_len HO.out (n : Int) (by rw [HN9.out])
        go_wp2_with fail
        refine (show Calls Try.prog _ _ _ _ from hcon).mono ?_
        rintro e v0 ⟨rfl, hb⟩
        have HO0 := Lib.hid (HO.out.below hb)
        have HM0 := Lib.hid (HM.out.below hb)
        clear hcon hb HO HM
        by_cases hlt : i < n
        · obtain ⟨id1, hid1⟩ : ∃ id1, i + 1 = id1 := ⟨_, rfl⟩
          have hidz : (i : Int) + 1 = (id1 : Int) := by omega
          obtain ⟨vn, hvn, hvl, hvt, hviff, hvp⟩ := num_facts HOK.out HNU.out (k := id1) (by omega) (by rw [HN9.out]; omega)
          obtain ⟨tq, htq⟩ : ∃ tq, T.top id1 = tq := ⟨_, rfl⟩
          obtain ⟨t1, t2, t3⟩ := HOK.out.top_in id1 (by omega) (by rw [HN9.out]; omega)
          have htop0 := HOK.out.top0 id1 (by omega) (by rw [HN9.out]; omega)
          rw [htq] at hvt hviff t1 t2 t3 htop0
          have hinn : 1 ≤ (id1 : Int) ∧ (id1 : Int) ≤ T.n := by have := HN9.out; omega
          have htnn : 1 ≤ (tq : Int) ∧ (tq : Int) ≤ T.n := by have := HN9.out; omega
          have HTQ : Hid (T.g T.top (id1 : Int) = (tq : Int)) := Lib.hid (by rw [Tb.g_in hinn, Int.toNat_natCast, htq])
          obtain ⟨sx, hsx⟩ : ∃ sx, T.st tq = sx := ⟨_, rfl⟩
          have HSX : Hid (T.g T.st (tq : Int) = (sx : Int)) := Lib.hid (by rw [Tb.g_in htnn, Int.toNat_natCast, hsx])
          rw [hsx] at hviff
          have hi6 : I64 (id1 : Int) := by unfold I64; omega
          have hi7 : I64 (tq : Int) := by unfold I64; omega
          have hltz : (id1 : Int) ≤ (n : Int) := by omega
          rw [HL0.out] at hvl
          have HVL := Lib.hid hvl
          have HVP : Hid (T.par (i + 1) = 0 → T.num (i + 1) = vn) := Lib.hid (fun h => by rw [hid1]; rw [hid1] at h; exact (hvp h).symm)
          have hpt : T.par (i + 1) = 0 ↔ tq = id1 := by
            rw [hid1]
            exact ⟨fun h => htop0 h, fun h => by rw [← h]; exact t3⟩
          rw [hidz]
          have hvz : ¬ (vn : Int) < 0 := by omega
          have hvg : ¬ (la : Int) < (vn : Int) := by omega
          have HGI := Lib.hid hid1
          have hcon := one_number HO0.out HNL.out (id1 : Int) (vn : Int) hi6 hvn
          go_wp2_with fail
          refine (show Calls Try.prog _ _ _ _ from hcon).mono ?_
          rintro e w0' ⟨rfl, hb⟩
          have HOn := Lib.hid (HO0.out.below hb)
          have HMn := Lib.hid (HM0.out.below hb)
          clear hcon hb HO0 HM0 t1 t2 t3 htop0 htq hsx hvn hvp hinn htnn hvl hid1
          obtain ⟨cb, hcb⟩ : ∃ cb, T.cnt (id1 : Int) = cb := ⟨_, rfl⟩
          rw [hcb] at hviff
          have HCN := Lib.hid hcb
          have HO0 := HOn
          have HM0 := HMn
          clear hcb HOn HMn
          by_cases hv0 : 0 < vn
          · obtain ⟨hc, hs2⟩ := hviff.1 hv0
            have HVT := Lib.hid (hvt hv0)
            have HSX2 : Hid (T.g T.st (tq : Int) = 2) := Lib.hid (by rw [HSX.out, hs2]; rfl)
            rw [hc] at HCN
            have hvp0 : (0 : Int) < (vn : Int) := by omega
            clear hviff hvt hc hs2 HSX
            by_cases hp : T.par (i + 1) = 0
            · have HVN := Lib.hid (HVP.out hp)
              have htq2 := hpt.1 hp
              obtain rfl : id1 = tq := htq2.symm
              clear hpt
              have hcon := one_top HO0.out (id1 : Int) (id1 : Int) hi6 HTQ.out
              go_wp2_with fail
              refine (show Calls Try.prog _ _ _ _ from hcon).mono ?_
              rintro e v1 ⟨rfl, hb⟩
              have HO1 := Lib.hid (HO0.out.below hb)
              have HM1 := Lib.hid (HM0.out.below hb)
              clear hcon hb HO0 HM0
              have hcon := one_number HO1.out HNL.out (id1 : Int) (vn : Int) hi7 HVT.out
              go_wp2_with fail
              refine (show Calls Try.prog _ _ _ _ from hcon).mono ?_
              rintro e v2 ⟨rfl, hb⟩
              have HO2 := Lib.hid (HO1.out.below hb)
              have HM2 := Lib.hid (HM1.out.below hb)
              clear hcon hb HO1 HM1
              have hcon := one_counts HO2.out (id1 : Int) true hi6 HCN.out
              go_wp2_with fail
              refine (show Calls Try.prog _ _ _ _ from hcon).mono ?_
              rintro e v3 ⟨rfl, hb⟩
              have HO3 := Lib.hid (HO2.out.below hb)
              have HM3 := Lib.hid (HM2.out.below hb)
              clear hcon hb HO2 HM2
              have hcon := one_top HO3.out (id1 : Int) (id1 : Int) hi6 HTQ.out
              go_wp2_with fail
              refine (show Calls Try.prog _ _ _ _ from hcon).mono ?_
              rintro e v4 ⟨rfl, hb⟩
              have HO4 := Lib.hid (HO3.out.below hb)
              have HM4 := Lib.hid (HM3.out.below hb)
              clear hcon hb HO3 HM3
              have hcon := one_state HO4.out (id1 : Int) 2 hi7 HSX2.out
              go_wp2_with fail
              refine (show Calls Try.prog _ _ _ _ from hcon).mono ?_
              rintro e v5 ⟨rfl, hb⟩
              have HO5 := Lib.hid (HO4.out.below hb)
              have HM5 := Lib.hid (HM4.out.below hb)
              clear hcon hb HO4 HM4
              have hcon := one_top HO5.out (id1 : Int) (id1 : Int) hi6 HTQ.out
              go_wp2_with fail
              refine (show Calls Try.prog _ _ _ _ from hcon).mono ?_
              rintro e v6 ⟨rfl, hb⟩
              have HO6 := Lib.hid (HO5.out.below hb)
              have HM6 := Lib.hid (HM5.out.below hb)
              clear hcon hb HO5 HM5
              obtain ⟨b', c', e, hnc, hcm, hbl, hat, hfz⟩ := HM6.out.at (j := vn) (by have := HVL.out; omega)
              simp only [Value.slice.injEq, Option.some.injEq, Addr.mk.injEq, and_true, true_and] at e
              obtain ⟨rfl, rfl⟩ := e
              obtain ⟨mv, hmv⟩ : ∃ mv, met T i vn = mv := ⟨_, rfl⟩
              have cm := hat vn (by have := HVL.out; omega) 0 (.int .i64 mv) (by rw [← hmv]; rfl)
              have fm := hfz vn
              rw [Nat.mul_one, Nat.add_zero] at cm
              have hset := HM6.out.set (b := b9) rfl (j := vn) (c := 0) (o := vn) (by have := HVL.out; omega) (by omega) (by omega) (.int .i64 ((mv : Int) + 1))
              have htou := Touch.setCell v6 (F := fun k => k = b9) rfl vn (.int .i64 ((mv : Int) + 1))
              have HOX : Hid (One w (v6.setCell ⟨b9, vn, none⟩ (.int .i64 ((mv : Int) + 1))) t T F) := Lib.hid ⟨HO6.out.is.stay (htou.stay (G := F) (fun k hk hx => HNF.out (by rw [← hx]; exact hk))), HO6.out.far, HO6.out.bel.trans (htou.below (fun k hk => by rw [hk]; exact HB9.out) HO6.out.bel.size)⟩
              have HMX : Hid (RowF 3 1 (v6.setCell ⟨b9, vn, none⟩ (.int .i64 ((mv : Int) + 1))) (.slice (some ⟨b9, 0, none⟩) (la + 1) (la + 1)) (la + 1) (metR T (i + 1))) := Lib.hid (hset.congr fun m hm => by
                unfold metR updR
                rw [met_succ]
                by_cases hmn : m = vn
                · subst hmn
                  rw [if_pos rfl, if_pos ⟨hp, HVN.out⟩, hmv]
                  rfl
                · rw [if_neg hmn, if_neg (fun h => hmn (by have := HVN.out; omega)), Nat.add_zero])
              have hvl : (vn : Int) < (la : Int) + 1 := by have := HVL.out; omega
              have hv00 : (0 : Int) ≤ vn := by omega
              have hmw : wrap64 ((mv : Int) + 1) = (mv : Int) + 1 := wr0 (by have := met_le T i vn; omega)
              clear hat hfz hnc hcm hset htou HM6 HO6 hmv
              go_wp2_with fail
              go_roundg (n - (i + 1))
              case measure => omega
              case rel => exact ⟨i + 1, by have := HGI.out; go_num, by have := HGI.out; omega, Nat.le_refl _, HOX, HMX⟩
            · have htne : ¬ (tq : Int) = (id1 : Int) := fun e => hp (hpt.2 (by omega))
              have htnb : ((tq : Int) == (id1 : Int)) = false := by simpa using htne
              clear hpt
              have hcon := one_top HO0.out (id1 : Int) (tq : Int) hi6 HTQ.out
              go_wp2_with fail
              refine (show Calls Try.prog _ _ _ _ from hcon).mono ?_
              rintro e v1 ⟨rfl, hb⟩
              have HO1 := Lib.hid (HO0.out.below hb)
              have HM1 := Lib.hid (HM0.out.below hb)
              clear hcon hb HO0 HM0
              have hcon := one_number HO1.out HNL.out (tq : Int) (vn : Int) hi7 HVT.out
              go_wp2_with fail
              refine (show Calls Try.prog _ _ _ _ from hcon).mono ?_
              rintro e v2 ⟨rfl, hb⟩
              have HO2 := Lib.hid (HO1.out.below hb)
              have HM2 := Lib.hid (HM1.out.below hb)
              clear hcon hb HO1 HM1
              have hcon := one_counts HO2.out (id1 : Int) true hi6 HCN.out
              go_wp2_with fail
              refine (show Calls Try.prog _ _ _ _ from hcon).mono ?_
              rintro e v3 ⟨rfl, hb⟩
              have HO3 := Lib.hid (HO2.out.below hb)
              have HM3 := Lib.hid (HM2.out.below hb)
              clear hcon hb HO2 HM2
              have hcon := one_top HO3.out (id1 : Int) (tq : Int) hi6 HTQ.out
              go_wp2_with fail
              refine (show Calls Try.prog _ _ _ _ from hcon).mono ?_
              rintro e v4 ⟨rfl, hb⟩
              have HO4 := Lib.hid (HO3.out.below hb)
              have HM4 := Lib.hid (HM3.out.below hb)
              clear hcon hb HO3 HM3
              have hcon := one_state HO4.out (tq : Int) 2 hi7 HSX2.out
              go_wp2_with fail
              refine (show Calls Try.prog _ _ _ _ from hcon).mono ?_
              rintro e v5 ⟨rfl, hb⟩
              have HO5 := Lib.hid (HO4.out.below hb)
              have HM5 := Lib.hid (HM4.out.below hb)
              clear hcon hb HO4 HM4
              have hcon := one_top HO5.out (id1 : Int) (tq : Int) hi6 HTQ.out
              go_wp2_with fail
              refine (show Calls Try.prog _ _ _ _ from hcon).mono ?_
              rintro e v6 ⟨rfl, hb⟩
              have HO6 := Lib.hid (HO5.out.below hb)
              have HM6 := Lib.hid (HM5.out.below hb)
              clear hcon hb HO5 HM5
              have HMX : Hid (RowF 3 1 v6 (.slice (some ⟨b9, 0, none⟩) (la + 1) (la + 1)) (la + 1) (metR T (i + 1))) := Lib.hid (HM6.out.congr fun m hm => by unfold metR; rw [met_succ, if_neg (fun h => hp h.1), Nat.add_zero])
              clear HM6
              go_wp2_with fail
              go_roundg (n - (i + 1))
              case measure => omega
              case rel => exact ⟨i + 1, by have := HGI.out; go_num, by have := HGI.out; omega, Nat.le_refl _, HO6, HMX⟩
          · have hvp0 : ¬ (0 : Int) < (vn : Int) := by omega
            cases cb with
            | true =>
              have hs2 : ¬ (sx : Int) = 2 := fun e => hv0 (hviff.2 ⟨rfl, by omega⟩)
              have hs2b : ((sx : Int) == 2) = false := by simpa using hs2
              clear hviff hvt
              by_cases hp : T.par (i + 1) = 0
              · have HVN := Lib.hid (HVP.out hp)
                have htq2 := hpt.1 hp
                obtain rfl : id1 = tq := htq2.symm
                clear hpt
                have hcon := one_counts HO0.out (id1 : Int) true hi6 HCN.out
                go_wp2_with fail
                refine (show Calls Try.prog _ _ _ _ from hcon).mono ?_
                rintro e v1 ⟨rfl, hb⟩
                have HO1 := Lib.hid (HO0.out.below hb)
                have HM1 := Lib.hid (HM0.out.below hb)
                clear hcon hb HO0 HM0
                have hcon := one_top HO1.out (id1 : Int) (id1 : Int) hi6 HTQ.out
                go_wp2_with fail
                refine (show Calls Try.prog _ _ _ _ from hcon).mono ?_
                rintro e v2 ⟨rfl, hb⟩
                have HO2 := Lib.hid (HO1.out.below hb)
                have HM2 := Lib.hid (HM1.out.below hb)
                clear hcon hb HO1 HM1
                have hcon := one_state HO2.out (id1 : Int) (sx : Int) hi7 HSX.out
                go_wp2_with fail
                refine (show Calls Try.prog _ _ _ _ from hcon).mono ?_
                rintro e v3 ⟨rfl, hb⟩
                have HO3 := Lib.hid (HO2.out.below hb)
                have HM3 := Lib.hid (HM2.out.below hb)
                clear hcon hb HO2 HM2
                have hcon := one_top HO3.out (id1 : Int) (id1 : Int) hi6 HTQ.out
                go_wp2_with fail
                refine (show Calls Try.prog _ _ _ _ from hcon).mono ?_
                rintro e v4 ⟨rfl, hb⟩
                have HO4 := Lib.hid (HO3.out.below hb)
                have HM4 := Lib.hid (HM3.out.below hb)
                clear hcon hb HO3 HM3
                obtain ⟨b', c', e, hnc, hcm, hbl, hat, hfz⟩ := HM4.out.at (j := vn) (by have := HVL.out; omega)
                simp only [Value.slice.injEq, Option.some.injEq, Addr.mk.injEq, and_true, true_and] at e
                obtain ⟨rfl, rfl⟩ := e
                obtain ⟨mv, hmv⟩ : ∃ mv, met T i vn = mv := ⟨_, rfl⟩
                have cm := hat vn (by have := HVL.out; omega) 0 (.int .i64 mv) (by rw [← hmv]; rfl)
                have fm := hfz vn
                rw [Nat.mul_one, Nat.add_zero] at cm
                have hset := HM4.out.set (b := b9) rfl (j := vn) (c := 0) (o := vn) (by have := HVL.out; omega) (by omega) (by omega) (.int .i64 ((mv : Int) + 1))
                have htou := Touch.setCell v4 (F := fun k => k = b9) rfl vn (.int .i64 ((mv : Int) + 1))
                have HOX : Hid (One w (v4.setCell ⟨b9, vn, none⟩ (.int .i64 ((mv : Int) + 1))) t T F) := Lib.hid ⟨HO4.out.is.stay (htou.stay (G := F) (fun k hk hx => HNF.out (by rw [← hx]; exact hk))), HO4.out.far, HO4.out.bel.trans (htou.below (fun k hk => by rw [hk]; exact HB9.out) HO4.out.bel.size)⟩
                have HMX : Hid (RowF 3 1 (v4.setCell ⟨b9, vn, none⟩ (.int .i64 ((mv : Int) + 1))) (.slice (some ⟨b9, 0, none⟩) (la + 1) (la + 1)) (la + 1) (metR T (i + 1))) := Lib.hid (hset.congr fun m hm => by
                  unfold metR updR
                  rw [met_succ]
                  by_cases hmn : m = vn
                  · subst hmn
                    rw [if_pos rfl, if_pos ⟨hp, HVN.out⟩, hmv]
                    rfl
                  · rw [if_neg hmn, if_neg (fun h => hmn (by have := HVN.out; omega)), Nat.add_zero])
                have hvl : (vn : Int) < (la : Int) + 1 := by have := HVL.out; omega
                have hv00 : (0 : Int) ≤ vn := by omega
                have hmw : wrap64 ((mv : Int) + 1) = (mv : Int) + 1 := wr0 (by have := met_le T i vn; omega)
                clear hat hfz hnc hcm hset htou HM4 HO4 hmv
                go_wp2_with fail
                go_roundg (n - (i + 1))
                case measure => omega
                case rel => exact ⟨i + 1, by have := HGI.out; go_num, by have := HGI.out; omega, Nat.le_refl _, HOX, HMX⟩
              · have htne : ¬ (tq : Int) = (id1 : Int) := fun e => hp (hpt.2 (by omega))
                have htnb : ((tq : Int) == (id1 : Int)) = false := by simpa using htne
                clear hpt
                have hcon := one_counts HO0.out (id1 : Int) true hi6 HCN.out
                go_wp2_with fail
                refine (show Calls Try.prog _ _ _ _ from hcon).mono ?_
                rintro e v1 ⟨rfl, hb⟩
                have HO1 := Lib.hid (HO0.out.below hb)
                have HM1 := Lib.hid (HM0.out.below hb)
                clear hcon hb HO0 HM0
                have hcon := one_top HO1.out (id1 : Int) (tq : Int) hi6 HTQ.out
                go_wp2_with fail
                refine (show Calls Try.prog _ _ _ _ from hcon).mono ?_
                rintro e v2 ⟨rfl, hb⟩
                have HO2 := Lib.hid (HO1.out.below hb)
                have HM2 := Lib.hid (HM1.out.below hb)
                clear hcon hb HO1 HM1
                have hcon := one_state HO2.out (tq : Int) (sx : Int) hi7 HSX.out
                go_wp2_with fail
                refine (show Calls Try.prog _ _ _ _ from hcon).mono ?_
                rintro e v3 ⟨rfl, hb⟩
                have HO3 := Lib.hid (HO2.out.below hb)
                have HM3 := Lib.hid (HM2.out.below hb)
                clear hcon hb HO2 HM2
                have hcon := one_top HO3.out (id1 : Int) (tq : Int) hi6 HTQ.out
                go_wp2_with fail
                refine (show Calls Try.prog _ _ _ _ from hcon).mono ?_
                rintro e v4 ⟨rfl, hb⟩
                have HO4 := Lib.hid (HO3.out.below hb)
                have HM4 := Lib.hid (HM3.out.below hb)
                clear hcon hb HO3 HM3
                have HMX : Hid (RowF 3 1 v4 (.slice (some ⟨b9, 0, none⟩) (la + 1) (la + 1)) (la + 1) (metR T (i + 1))) := Lib.hid (HM4.out.congr fun m hm => by unfold metR; rw [met_succ, if_neg (fun h => hp h.1), Nat.add_zero])
                clear HM4
                go_wp2_with fail
                go_roundg (n - (i + 1))
                case measure => omega
                case rel => exact ⟨i + 1, by have := HGI.out; go_num, by have := HGI.out; omega, Nat.le_refl _, HO4, HMX⟩
            | false =>
              clear hviff hvt
              by_cases hp : T.par (i + 1) = 0
              · have HVN := Lib.hid (HVP.out hp)
                have htq2 := hpt.1 hp
                obtain rfl : id1 = tq := htq2.symm
                clear hpt
                have hcon := one_counts HO0.out (id1 : Int) false hi6 HCN.out
                go_wp2_with fail
                refine (show Calls Try.prog _ _ _ _ from hcon).mono ?_
                rintro e v1 ⟨rfl, hb⟩
                have HO1 := Lib.hid (HO0.out.below hb)
                have HM1 := Lib.hid (HM0.out.below hb)
                clear hcon hb HO0 HM0
                have hcon := one_top HO1.out (id1 : Int) (id1 : Int) hi6 HTQ.out
                go_wp2_with fail
                refine (show Calls Try.prog _ _ _ _ from hcon).mono ?_
                rintro e v2 ⟨rfl, hb⟩
                have HO2 := Lib.hid (HO1.out.below hb)
                have HM2 := Lib.hid (HM1.out.below hb)
                clear hcon hb HO1 HM1
                obtain ⟨b', c', e, hnc, hcm, hbl, hat, hfz⟩ := HM2.out.at (j := vn) (by have := HVL.out; omega)
                simp only [Value.slice.injEq, Option.some.injEq, Addr.mk.injEq, and_true, true_and] at e
                obtain ⟨rfl, rfl⟩ := e
                obtain ⟨mv, hmv⟩ : ∃ mv, met T i vn = mv := ⟨_, rfl⟩
                have cm := hat vn (by have := HVL.out; omega) 0 (.int .i64 mv) (by rw [← hmv]; rfl)
                have fm := hfz vn
                rw [Nat.mul_one, Nat.add_zero] at cm
                have hset := HM2.out.set (b := b9) rfl (j := vn) (c := 0) (o := vn) (by have := HVL.out; omega) (by omega) (by omega) (.int .i64 ((mv : Int) + 1))
                have htou := Touch.setCell v2 (F := fun k => k = b9) rfl vn (.int .i64 ((mv : Int) + 1))
                have HOX : Hid (One w (v2.setCell ⟨b9, vn, none⟩ (.int .i64 ((mv : Int) + 1))) t T F) := Lib.hid ⟨HO2.out.is.stay (htou.stay (G := F) (fun k hk hx => HNF.out (by rw [← hx]; exact hk))), HO2.out.far, HO2.out.bel.trans (htou.below (fun k hk => by rw [hk]; exact HB9.out) HO2.out.bel.size)⟩
                have HMX : Hid (RowF 3 1 (v2.setCell ⟨b9, vn, none⟩ (.int .i64 ((mv : Int) + 1))) (.slice (some ⟨b9, 0, none⟩) (la + 1) (la + 1)) (la + 1) (metR T (i + 1))) := Lib.hid (hset.congr fun m hm => by
                  unfold metR updR
                  rw [met_succ]
                  by_cases hmn : m = vn
                  · subst hmn
                    rw [if_pos rfl, if_pos ⟨hp, HVN.out⟩, hmv]
                    rfl
                  · rw [if_neg hmn, if_neg (fun h => hmn (by have := HVN.out; omega)), Nat.add_zero])
                have hvl : (vn : Int) < (la : Int) + 1 := by have := HVL.out; omega
                have hv00 : (0 : Int) ≤ vn := by omega
                have hmw : wrap64 ((mv : Int) + 1) = (mv : Int) + 1 := wr0 (by have := met_le T i vn; omega)
                clear hat hfz hnc hcm hset htou HM2 HO2 hmv
                go_wp2_with fail
                go_roundg (n - (i + 1))
                case measure => omega
                case rel => exact ⟨i + 1, by have := HGI.out; go_num, by have := HGI.out; omega, Nat.le_refl _, HOX, HMX⟩
              · have htne : ¬ (tq : Int) = (id1 : Int) := fun e => hp (hpt.2 (by omega))
                have htnb : ((tq : Int) == (id1 : Int)) = false := by simpa using htne
                clear hpt
                have hcon := one_counts HO0.out (id1 : Int) false hi6 HCN.out
                go_wp2_with fail
                refine (show Calls Try.prog _ _ _ _ from hcon).mono ?_
                rintro e v1 ⟨rfl, hb⟩
                have HO1 := Lib.hid (HO0.out.below hb)
                have HM1 := Lib.hid (HM0.out.below hb)
                clear hcon hb HO0 HM0
                have hcon := one_top HO1.out (id1 : Int) (tq : Int) hi6 HTQ.out
                go_wp2_with fail
                refine (show Calls Try.prog _ _ _ _ from hcon).mono ?_
                rintro e v2 ⟨rfl, hb⟩
                have HO2 := Lib.hid (HO1.out.below hb)
                have HM2 := Lib.hid (HM1.out.below hb)
                clear hcon hb HO1 HM1
                have HMX : Hid (RowF 3 1 v2 (.slice (some ⟨b9, 0, none⟩) (la + 1) (la + 1)) (la + 1) (metR T (i + 1))) := Lib.hid (HM2.out.congr fun m hm => by unfold metR; rw [met_succ, if_neg (fun h => hp h.1), Nat.add_zero])
                clear HM2
                go_wp2_with fail
                go_roundg (n - (i + 1))
                case measure => omega
                case rel => exact ⟨i + 1, by have := HGI.out; go_num, by have := HGI.out; omega, Nat.le_refl _, HO2, HMX⟩
        · have hltz : ¬ ((i : Int) + 1 ≤ (n : Int)) := by omega
          obtain rfl : n = i := by omega
          go_wp2_with fail
          go_loopg [12] la (fun gg s wr => ∃ (j : Nat), s = .int .i64 ((j : Int) + 1) ∧ j ≤ la ∧ la - j ≤ gg ∧ wr = v0)
          case atStart => exact ⟨0, by simp, Nat.zero_le _, by omega, rfl⟩
          case round =>
            obtain ⟨j, rfl, hjn, hjg, rfl⟩ := hrel
            by_cases hltj : j < la
            · have hjz : (j : Int) + 1 ≤ (la : Int) := by omega
              have hjz2 : (j : Int) + 1 < (la : Int) + 1 := by omega
              have hj0 : (0 : Int) ≤ (j : Int) + 1 := by omega
              have hjt : ((j : Int) + 1).toNat = j + 1 := by omega
              obtain ⟨b', c', e, hnc, hcm, hbl, hat, hfz⟩ := HM0.out.at (j := j + 1) (by omega)
              simp only [Value.slice.injEq, Option.some.injEq, Addr.mk.injEq, and_true, true_and] at e
              obtain ⟨rfl, rfl⟩ := e
              have hone : met T n (j + 1) = 1 := by rw [← HN9.out]; exact met_one HOK.out HNU.out (by omega) (by rw [HL0.out]; omega)
              have cm := hat (j + 1) (by omega) 0 (.int .i64 1) (by unfold metR; rw [hone]; rfl)
              rw [Nat.mul_one, Nat.add_zero] at cm
              clear hat hfz hnc hcm hone
              go_wp2_with fail
              go_roundg (la - (j + 1))
              case measure => omega
              case rel => exact ⟨j + 1, by go_num, by omega, Nat.le_refl _, rfl⟩
            · have hjz : ¬ ((j : Int) + 1 ≤ (la : Int)) := by omega
              go_wp2_with fail
              go_ret
              exact ⟨rfl, HO0.out.bel⟩

theorem numbers_law (a0 : Option Addr) (c0 n0 : Nat) (l0 : List Stp) (hn0 : l0.length = n0) (w : World) (hs0 : SlSt w a0 c0 l0) :
    Calls Try.prog 6 #[.slice a0 n0 c0] w fun e w' => e = .returned (.bool true) ∧ Below w.heap.size w w' := by
  by_cases hz : 80 < n0
  · exact numbers_large a0 c0 n0 l0 hn0 w hs0 hz
  · exact numbers_main a0 c0 n0 l0 hn0 w hs0 (by omega)

end Go.Proofs.Ytebkcejamleojaa
