/-
  The law SnapOwn, walked.
-/
import Derived.Test.YtpdfknknnklioaaNAwake
namespace Go.Proofs.Ytpdfknknnklioaa
open Go.RowKit
set_option linter.unusedVariables false

/-- What is asked of one transaction by a viewer, and by another one. -/
theorem own_math {T : Tb} (hok : T.Ok) (hn : T.n ≤ 1000) (a m o id : Int) : ∃ (p r s t c : Bool) (tp n : Int), T.ownB m id = p ∧ T.ownB o id = r ∧ T.seesB a m id = s ∧ T.laterB a m id = t ∧ T.cnt id = c ∧ T.g T.top id = tp ∧ I64 tp ∧ T.numI tp = n ∧
    ((p = true ∧ s = true ∧ t = false ∧ c = true ∧ (¬ o = m → r = false) ∧ (0 < n ∨ n = 0)) ∨ (p = false ∧ s = true ∧ t = false ∧ c = true ∧ 0 < n) ∨ (p = false ∧ s = false ∧ t = true ∧ c = true ∧ 0 < n) ∨ (p = false ∧ s = false ∧ t = false ∧ c = true ∧ n = 0) ∨ (p = false ∧ s = false ∧ t = false ∧ c = false)) := by
  refine ⟨_, _, _, _, _, _, _, rfl, rfl, rfl, rfl, rfl, rfl, g_i64 hok (by omega) id, rfl, ?_⟩
  unfold Tb.laterB Tb.seesB Tb.ownB Tb.reachB
  cases hc : T.cnt id with
  | false =>
    have hn0 : T.numI id = 0 := by unfold Tb.numI; rw [hc]; rfl
    rw [hn0]
    simp
  | true =>
    rw [num_top hok hc]
    have hnn : 0 ≤ T.numI id := by
      unfold Tb.numI
      rw [if_pos hc]
      unfold Tb.g
      split <;> omega
    obtain ⟨n, hn'⟩ : ∃ n, T.numI id = n := ⟨_, rfl⟩
    obtain ⟨tp, htp⟩ : ∃ tp, T.g T.top id = tp := ⟨_, rfl⟩
    rw [hn'] at hnn ⊢
    rw [htp]
    by_cases h0 : tp = m
    · refine .inl ⟨by simp [h0], by simp [h0], by simp [h0], rfl, fun h => by simp; omega, by omega⟩
    · by_cases h1 : 0 < n
      · by_cases h2 : n ≤ a
        · exact .inr (.inl ⟨by simp [h0], by simp [h0, h1, h2], by simp [h0, h1, h2], rfl, h1⟩)
        · exact .inr (.inr (.inl ⟨by simp [h0], by simp [h0, h1, h2], by simp [h0, h1, h2], rfl, h1⟩))
      · exact .inr (.inr (.inr (.inl ⟨by simp [h0], by simp [h0, h1], by simp [h0, h1], rfl, by omega⟩)))

/-- Behind its Abort. -/
theorem own_gone {T : Tb} (hok : T.Ok) {id : Int} (he : T.err id = 0) (a m : Int) : (T.aboT id).ownB m id = false ∧ (T.aboT id).seesB a m id = false := by
  obtain ⟨h1, h2, h3⟩ := Tb.err_ok he
  have hc : (T.aboT id).cnt id = false := by
    unfold Tb.aboT
    rw [if_pos he]
    unfold Tb.cnt
    rw [Tb.g_in (show 1 ≤ id ∧ id ≤ (T.fin id.toNat 3).n from ⟨h1, h2⟩)]
    rcases Tb.fin_st hok (show 1 ≤ id.toNat by omega) (show id.toNat ≤ T.n by omega) id.toNat 3 with ⟨_, _, e⟩ | ⟨h, _⟩
    · rw [e]; rfl
    · exact absurd ⟨.self, by omega⟩ h
  have hn : (T.aboT id).numI id = 0 := by unfold Tb.numI; rw [hc]; rfl
  unfold Tb.seesB Tb.ownB Tb.reachB
  rw [hc, hn]
  simp

set_option maxRecDepth 100000 in
set_option maxHeartbeats 8000000 in
theorem own_large (a0 : Option Addr) (c0 n0 : Nat) (l0 : List Stp) (hn0 : l0.length = n0) (e1 e2 e3 e4 : Int) (hin1 : I64 e1) (hin2 : I64 e2) (hin3 : I64 e3) (hin4 : I64 e4) (w : World) (hs0 : SlSt w a0 c0 l0) (hz : 200 < n0) :
    Calls Try.prog 7 #[.slice a0 n0 c0, .int .i64 e1, .int .i64 e2, .int .i64 e3, .int .i64 e4] w fun e w' => e = .returned (.bool true) ∧ Below w.heap.size w w' := by
  have hz2 : (200 : Int) < n0 := by omega
  go_enter Try.func7, Try.ntmps7
  have hcon := awake_is w
  go_wp2_with fail
  refine (show Calls Try.prog _ _ _ _ from hcon).mono ?_
  rintro e w1 ⟨rfl, hb⟩
  have HB1 := Lib.hid hb
  clear hcon hb
  go_wp2_with fail
  go_ret
  exact ⟨rfl, HB1.out⟩

set_option maxRecDepth 100000 in
set_option maxHeartbeats 8000000 in
theorem own_main (a0 : Option Addr) (c0 n0 : Nat) (l0 : List Stp) (hn0 : l0.length = n0) (e1 e2 e3 e4 : Int) (hin1 : I64 e1) (hin2 : I64 e2) (hin3 : I64 e3) (hin4 : I64 e4) (w : World) (hs0 : SlSt w a0 c0 l0) (hz : n0 ≤ 200) :
    Calls Try.prog 7 #[.slice a0 n0 c0, .int .i64 e1, .int .i64 e2, .int .i64 e3, .int .i64 e4] w fun e w' => e = .returned (.bool true) ∧ Below w.heap.size w w' := by
  have hz2 : ¬ (200 : Int) < n0 := by omega
  have HZ := Lib.hid hz
  have HS := Lib.hid hs0
  have HN := Lib.hid hn0
  have HI := Lib.hid hin4
  clear hs0 hn0 hin1 hin2 hin3 hin4 hz
  go_enter Try.func7, Try.ntmps7
  have hcon := awake_is w
  go_wp2_with fail
  refine (show Calls Try.prog _ _ _ _ from hcon).mono ?_
  rintro e w1 ⟨rfl, hb⟩
  have HB1 := Lib.hid hb
  clear hcon hb
  have hcon := one_new (w0 := w) HB1.out
  go_wp2_with fail
  refine (show Calls Try.prog _ _ _ _ from hcon).mono ?_
  rintro e w2 ⟨t, F0, rfl, h2, -, -⟩
  have HO1 := Lib.hid h2
  clear hcon h2 HB1
  go_wp2_with fail
  go_loopg [12] n0 (fun gg sx wr => ∃ (i : Nat) (F : Nat → Prop), sx = .int .i64 i ∧ i ≤ n0 ∧ n0 - i ≤ gg ∧ Hid (One w wr t (Tb.new.run (l0.take i)) F))
  case atStart => exact ⟨0, _, rfl, Nat.zero_le _, by omega, HO1⟩
  case round =>
    obtain ⟨i, F, rfl, hin, hgg, HO⟩ := hrel
    clear HO1
    have hsm := run_small (i := i) (C := 200) Tb.new_small HN.out (by have := HZ.out; omega)
    by_cases hlt : i < n0
    · have hltz : (i : Int) < (n0 : Int) := by omega
      obtain ⟨st, hst⟩ := get_stp (l := l0) (i := i) (by rw [HN.out]; exact hlt)
      have hsl := HS.out.below HO.out.bel
      obtain ⟨sb, so, rfl, d0, d1, d2⟩ := at_st hsl hst
      have hwf := hsl.wf st (List.mem_of_getElem? hst)
      have hlc : n0 ≤ c0 := by have := hsl.lc; rw [HN.out] at this; exact this
      have hrun := run_take (T := Tb.new) hst
      have hcon := one_do HO.out (by have := hsm.1; omega) (by have := hsm.2; omega) st.kind st.id hwf.1 hwf.2 hrun.symm
      clear hwf hrun hst hsm hsl
      go_wp2_with fail
      refine (show Calls Try.prog _ _ _ _ from hcon).mono ?_
      rintro e w3 ⟨F', rfl, ho3, -, -⟩
      have HO3 := Lib.hid ho3
      clear hcon ho3 d0 d1 d2 HO
      go_wp2_with fail
      go_roundg (n0 - (i + 1))
      case measure => omega
      case rel => exact ⟨i + 1, F', by go_num, by omega, Nat.le_refl _, HO3⟩
    · have hltz : ¬ (i : Int) < (n0 : Int) := by omega
      obtain rfl : n0 = i := by omega
      have hfull : l0.take n0 = l0 := List.take_of_length_le (by rw [HN.out]; exact Nat.le_refl _)
      rw [hfull] at HO hsm
      clear hfull
      have hok := Tb.new_ok.run l0
      obtain ⟨T, hT⟩ : ∃ T, Tb.new.run l0 = T := ⟨_, rfl⟩
      have hnu := Tb.Nums.runs Tb.new_ok Tb.new_nums l0
      rw [hT] at HO hsm hok hnu
      have HSMS := Lib.hid hsm
      have HNU := Lib.hid hnu
      have HSM : Hid (T.n ≤ 1000) := Lib.hid (by have := hsm.1; omega)
      have HOK := Lib.hid hok
      clear hsm hok hnu hT hlt hgg hin
      obtain ⟨ga, gb, V, hga, hgb, hV, hva, hvb, hbV⟩ := View.two wr e1 e2 e1 e3 HO.out.is.lt
      have HVa := Lib.hid hva
      have HVb := Lib.hid hvb
      have HO0 := Lib.hid (HO.out.below hbV)
      have HGA := Lib.hid hga
      have HGB := Lib.hid hgb
      have HVV := Lib.hid hV
      clear hva hvb hbV hga hgb hV HO
      go_upto_region 10 with (fail)
      rw [HVV.out, HGA.out]
      try rw [HGA.out] at HGB
      rw [HGB.out]
      clear HVV HGA HGB
      obtain ⟨p, r, s1, t1, c, tp, n, h1, h2, h3, h4, h5, h6, h7, h8, hc⟩ := own_math HOK.out HSM.out e1 e2 e3 e4
      have HP := Lib.hid h1
      have HR := Lib.hid h2
      have HS1 := Lib.hid h3
      have HL1 := Lib.hid h4
      have HC := Lib.hid h5
      have HTP := Lib.hid h6
      have HTI := Lib.hid h7
      have HNN := Lib.hid h8
      clear h1 h2 h3 h4 h5 h6 h7 h8
      rcases hc with ⟨rfl, rfl, rfl, rfl, hr, hd⟩ | ⟨rfl, rfl, rfl, rfl, hd⟩ | ⟨rfl, rfl, rfl, rfl, hd⟩ | ⟨rfl, rfl, rfl, rfl, rfl⟩ | ⟨rfl, rfl, rfl, rfl⟩
      · by_cases hzm : e3 = e2
        · have hzb : (e3 != e2) = false := by simpa using hzm
          clear hr hzm
          rcases hd with hd | rfl
          · skip
            have hnb : (n == 0) = false := by simp; omega
            have q00 := HVa.out.lit.cell (o := 0) rfl
            have q01 := HVa.out.lit.cell (o := 1) rfl
            have q0l := HVa.out.lit.lt
            have q10 := HVb.out.lit.cell (o := 0) rfl
            have q11 := HVb.out.lit.cell (o := 1) rfl
            have q1l := HVb.out.lit.lt
            have hcon := one_own HO0.out HSM.out e1 e2 e4 true HI.out HP.out
            go_wp2_with fail
            refine (show Calls Try.prog _ _ _ _ from hcon).mono ?_
            rintro e va1 ⟨rfl, hb⟩
            have HVa_a1 := Lib.hid (HVa.out.below hb)
            have HVb_a1 := Lib.hid (HVb.out.below hb)
            have HOa1 := Lib.hid (HO0.out.below hb)
            clear hcon hb HO0 HVa HVb q00 q01 q0l q10 q11 q1l
            have q00 := HVa_a1.out.lit.cell (o := 0) rfl
            have q01 := HVa_a1.out.lit.cell (o := 1) rfl
            have q0l := HVa_a1.out.lit.lt
            have q10 := HVb_a1.out.lit.cell (o := 0) rfl
            have q11 := HVb_a1.out.lit.cell (o := 1) rfl
            have q1l := HVb_a1.out.lit.lt
            have hcon := one_sees HOa1.out HSM.out e1 e2 e4 true HI.out HS1.out
            go_wp2_with fail
            refine (show Calls Try.prog _ _ _ _ from hcon).mono ?_
            rintro e va2 ⟨rfl, hb⟩
            have HVa_a2 := Lib.hid (HVa_a1.out.below hb)
            have HVb_a2 := Lib.hid (HVb_a1.out.below hb)
            have HOa2 := Lib.hid (HOa1.out.below hb)
            clear hcon hb HOa1 HVa_a1 HVb_a1 q00 q01 q0l q10 q11 q1l
            have q00 := HVa_a2.out.lit.cell (o := 0) rfl
            have q01 := HVa_a2.out.lit.cell (o := 1) rfl
            have q0l := HVa_a2.out.lit.lt
            have q10 := HVb_a2.out.lit.cell (o := 0) rfl
            have q11 := HVb_a2.out.lit.cell (o := 1) rfl
            have q1l := HVb_a2.out.lit.lt
            have hcon := one_counts HOa2.out e4 true HI.out HC.out
            go_wp2_with fail
            refine (show Calls Try.prog _ _ _ _ from hcon).mono ?_
            rintro e va3 ⟨rfl, hb⟩
            have HVa_a3 := Lib.hid (HVa_a2.out.below hb)
            have HVb_a3 := Lib.hid (HVb_a2.out.below hb)
            have HOa3 := Lib.hid (HOa2.out.below hb)
            clear hcon hb HOa2 HVa_a2 HVb_a2 q00 q01 q0l q10 q11 q1l
            have q00 := HVa_a3.out.lit.cell (o := 0) rfl
            have q01 := HVa_a3.out.lit.cell (o := 1) rfl
            have q0l := HVa_a3.out.lit.lt
            have q10 := HVb_a3.out.lit.cell (o := 0) rfl
            have q11 := HVb_a3.out.lit.cell (o := 1) rfl
            have q1l := HVb_a3.out.lit.lt
            have hcon := one_sees HOa3.out HSM.out e1 e2 e4 true HI.out HS1.out
            go_wp2_with fail
            refine (show Calls Try.prog _ _ _ _ from hcon).mono ?_
            rintro e va4 ⟨rfl, hb⟩
            have HVa_a4 := Lib.hid (HVa_a3.out.below hb)
            have HVb_a4 := Lib.hid (HVb_a3.out.below hb)
            have HOa4 := Lib.hid (HOa3.out.below hb)
            clear hcon hb HOa3 HVa_a3 HVb_a3 q00 q01 q0l q10 q11 q1l
            have q00 := HVa_a4.out.lit.cell (o := 0) rfl
            have q01 := HVa_a4.out.lit.cell (o := 1) rfl
            have q0l := HVa_a4.out.lit.lt
            have q10 := HVb_a4.out.lit.cell (o := 0) rfl
            have q11 := HVb_a4.out.lit.cell (o := 1) rfl
            have q1l := HVb_a4.out.lit.lt
            have hcon := one_later HOa4.out HSM.out e1 e2 e4 false HI.out HL1.out
            go_wp2_with fail
            refine (show Calls Try.prog _ _ _ _ from hcon).mono ?_
            rintro e va5 ⟨rfl, hb⟩
            have HVa_a5 := Lib.hid (HVa_a4.out.below hb)
            have HVb_a5 := Lib.hid (HVb_a4.out.below hb)
            have HOa5 := Lib.hid (HOa4.out.below hb)
            clear hcon hb HOa4 HVa_a4 HVb_a4 q00 q01 q0l q10 q11 q1l
            have q00 := HVa_a5.out.lit.cell (o := 0) rfl
            have q01 := HVa_a5.out.lit.cell (o := 1) rfl
            have q0l := HVa_a5.out.lit.lt
            have q10 := HVb_a5.out.lit.cell (o := 0) rfl
            have q11 := HVb_a5.out.lit.cell (o := 1) rfl
            have q1l := HVb_a5.out.lit.lt
            have hcon := one_counts HOa5.out e4 true HI.out HC.out
            go_wp2_with fail
            refine (show Calls Try.prog _ _ _ _ from hcon).mono ?_
            rintro e va6 ⟨rfl, hb⟩
            have HVa_a6 := Lib.hid (HVa_a5.out.below hb)
            have HVb_a6 := Lib.hid (HVb_a5.out.below hb)
            have HOa6 := Lib.hid (HOa5.out.below hb)
            clear hcon hb HOa5 HVa_a5 HVb_a5 q00 q01 q0l q10 q11 q1l
            have q00 := HVa_a6.out.lit.cell (o := 0) rfl
            have q01 := HVa_a6.out.lit.cell (o := 1) rfl
            have q0l := HVa_a6.out.lit.lt
            have q10 := HVb_a6.out.lit.cell (o := 0) rfl
            have q11 := HVb_a6.out.lit.cell (o := 1) rfl
            have q1l := HVb_a6.out.lit.lt
            have hcon := one_counts HOa6.out e4 true HI.out HC.out
            go_wp2_with fail
            refine (show Calls Try.prog _ _ _ _ from hcon).mono ?_
            rintro e va7 ⟨rfl, hb⟩
            have HVa_a7 := Lib.hid (HVa_a6.out.below hb)
            have HVb_a7 := Lib.hid (HVb_a6.out.below hb)
            have HOa7 := Lib.hid (HOa6.out.below hb)
            clear hcon hb HOa6 HVa_a6 HVb_a6 q00 q01 q0l q10 q11 q1l
            have q00 := HVa_a7.out.lit.cell (o := 0) rfl
            have q01 := HVa_a7.out.lit.cell (o := 1) rfl
            have q0l := HVa_a7.out.lit.lt
            have q10 := HVb_a7.out.lit.cell (o := 0) rfl
            have q11 := HVb_a7.out.lit.cell (o := 1) rfl
            have q1l := HVb_a7.out.lit.lt
            have hcon := one_top HOa7.out e4 tp HI.out HTP.out
            go_wp2_with fail
            refine (show Calls Try.prog _ _ _ _ from hcon).mono ?_
            rintro e va8 ⟨rfl, hb⟩
            have HVa_a8 := Lib.hid (HVa_a7.out.below hb)
            have HVb_a8 := Lib.hid (HVb_a7.out.below hb)
            have HOa8 := Lib.hid (HOa7.out.below hb)
            clear hcon hb HOa7 HVa_a7 HVb_a7 q00 q01 q0l q10 q11 q1l
            have q00 := HVa_a8.out.lit.cell (o := 0) rfl
            have q01 := HVa_a8.out.lit.cell (o := 1) rfl
            have q0l := HVa_a8.out.lit.lt
            have q10 := HVb_a8.out.lit.cell (o := 0) rfl
            have q11 := HVb_a8.out.lit.cell (o := 1) rfl
            have q1l := HVb_a8.out.lit.lt
            have hcon := one_number HOa8.out HSM.out tp n HTI.out HNN.out
            go_wp2_with fail
            refine (show Calls Try.prog _ _ _ _ from hcon).mono ?_
            rintro e va9 ⟨rfl, hb⟩
            have HVa_a9 := Lib.hid (HVa_a8.out.below hb)
            have HVb_a9 := Lib.hid (HVb_a8.out.below hb)
            have HOa9 := Lib.hid (HOa8.out.below hb)
            clear hcon hb HOa8 HVa_a8 HVb_a8 q00 q01 q0l q10 q11 q1l
            have q00 := HVa_a9.out.lit.cell (o := 0) rfl
            have q01 := HVa_a9.out.lit.cell (o := 1) rfl
            have q0l := HVa_a9.out.lit.lt
            have q10 := HVb_a9.out.lit.cell (o := 0) rfl
            have q11 := HVb_a9.out.lit.cell (o := 1) rfl
            have q1l := HVb_a9.out.lit.lt
            have hcon := one_later HOa9.out HSM.out e1 e2 e4 false HI.out HL1.out
            go_wp2_with fail
            refine (show Calls Try.prog _ _ _ _ from hcon).mono ?_
            rintro e va10 ⟨rfl, hb⟩
            have HVa_a10 := Lib.hid (HVa_a9.out.below hb)
            have HVb_a10 := Lib.hid (HVb_a9.out.below hb)
            have HOa10 := Lib.hid (HOa9.out.below hb)
            clear hcon hb HOa9 HVa_a9 HVb_a9 q00 q01 q0l q10 q11 q1l
            have q00 := HVa_a10.out.lit.cell (o := 0) rfl
            have q01 := HVa_a10.out.lit.cell (o := 1) rfl
            have q0l := HVa_a10.out.lit.lt
            have q10 := HVb_a10.out.lit.cell (o := 0) rfl
            have q11 := HVb_a10.out.lit.cell (o := 1) rfl
            have q1l := HVb_a10.out.lit.lt
            have hcon := one_sees HOa10.out HSM.out e1 e2 e4 true HI.out HS1.out
            go_wp2_with fail
            refine (show Calls Try.prog _ _ _ _ from hcon).mono ?_
            rintro e va11 ⟨rfl, hb⟩
            have HVa_a11 := Lib.hid (HVa_a10.out.below hb)
            have HVb_a11 := Lib.hid (HVb_a10.out.below hb)
            have HOa11 := Lib.hid (HOa10.out.below hb)
            clear hcon hb HOa10 HVa_a10 HVb_a10 q00 q01 q0l q10 q11 q1l
            have q00 := HVa_a11.out.lit.cell (o := 0) rfl
            have q01 := HVa_a11.out.lit.cell (o := 1) rfl
            have q0l := HVa_a11.out.lit.lt
            have q10 := HVb_a11.out.lit.cell (o := 0) rfl
            have q11 := HVb_a11.out.lit.cell (o := 1) rfl
            have q1l := HVb_a11.out.lit.lt
            have hcon := one_own HOa11.out HSM.out e1 e2 e4 true HI.out HP.out
            go_wp2_with fail
            refine (show Calls Try.prog _ _ _ _ from hcon).mono ?_
            rintro e va12 ⟨rfl, hb⟩
            have HVa_a12 := Lib.hid (HVa_a11.out.below hb)
            have HVb_a12 := Lib.hid (HVb_a11.out.below hb)
            have HOa12 := Lib.hid (HOa11.out.below hb)
            clear hcon hb HOa11 HVa_a11 HVb_a11 q00 q01 q0l q10 q11 q1l
            have q00 := HVa_a12.out.lit.cell (o := 0) rfl
            have q01 := HVa_a12.out.lit.cell (o := 1) rfl
            have q0l := HVa_a12.out.lit.lt
            have q10 := HVb_a12.out.lit.cell (o := 0) rfl
            have q11 := HVb_a12.out.lit.cell (o := 1) rfl
            have q1l := HVb_a12.out.lit.lt
            have hcon := one_top HOa12.out e4 tp HI.out HTP.out
            go_wp2_with fail
            refine (show Calls Try.prog _ _ _ _ from hcon).mono ?_
            rintro e va13 ⟨rfl, hb⟩
            have HVa_a13 := Lib.hid (HVa_a12.out.below hb)
            have HVb_a13 := Lib.hid (HVb_a12.out.below hb)
            have HOa13 := Lib.hid (HOa12.out.below hb)
            clear hcon hb HOa12 HVa_a12 HVb_a12 q00 q01 q0l q10 q11 q1l
            have q00 := HVa_a13.out.lit.cell (o := 0) rfl
            have q01 := HVa_a13.out.lit.cell (o := 1) rfl
            have q0l := HVa_a13.out.lit.lt
            have q10 := HVb_a13.out.lit.cell (o := 0) rfl
            have q11 := HVb_a13.out.lit.cell (o := 1) rfl
            have q1l := HVb_a13.out.lit.lt
            have hcon := one_number HOa13.out HSM.out tp n HTI.out HNN.out
            go_wp2_with fail
            refine (show Calls Try.prog _ _ _ _ from hcon).mono ?_
            rintro e va14 ⟨rfl, hb⟩
            have HVa_a14 := Lib.hid (HVa_a13.out.below hb)
            have HVb_a14 := Lib.hid (HVb_a13.out.below hb)
            have HOa14 := Lib.hid (HOa13.out.below hb)
            clear hcon hb HOa13 HVa_a13 HVb_a13 q00 q01 q0l q10 q11 q1l
            have q00 := HVa_a14.out.lit.cell (o := 0) rfl
            have q01 := HVa_a14.out.lit.cell (o := 1) rfl
            have q0l := HVa_a14.out.lit.lt
            have q10 := HVb_a14.out.lit.cell (o := 0) rfl
            have q11 := HVb_a14.out.lit.cell (o := 1) rfl
            have q1l := HVb_a14.out.lit.lt
            have hcon := one_own HOa14.out HSM.out e1 e2 e4 true HI.out HP.out
            go_wp2_with fail
            refine (show Calls Try.prog _ _ _ _ from hcon).mono ?_
            rintro e va15 ⟨rfl, hb⟩
            have HVa_a15 := Lib.hid (HVa_a14.out.below hb)
            have HVb_a15 := Lib.hid (HVb_a14.out.below hb)
            have HOa15 := Lib.hid (HOa14.out.below hb)
            clear hcon hb HOa14 HVa_a14 HVb_a14 q00 q01 q0l q10 q11 q1l
            by_cases he : T.err e4 = 0
            · skip
              have HU : Hid ((T.aboT e4).ownB e2 e4 = false ∧ (T.aboT e4).seesB e1 e2 e4 = false) := Lib.hid (own_gone HOK.out he e1 e2)
              have HUN : Hid ((T.aboT e4).n ≤ 1000) := Lib.hid (by have := HSM.out; unfold Tb.aboT; split <;> exact this)
              have q00 := HVa_a15.out.lit.cell (o := 0) rfl
              have q01 := HVa_a15.out.lit.cell (o := 1) rfl
              have q0l := HVa_a15.out.lit.lt
              have q10 := HVb_a15.out.lit.cell (o := 0) rfl
              have q11 := HVb_a15.out.lit.cell (o := 1) rfl
              have q1l := HVb_a15.out.lit.lt
              have hcon := one_abort HOa15.out HSM.out e4 0 HI.out he rfl
              go_wp2_with fail
              refine (show Calls Try.prog _ _ _ _ from hcon).mono ?_
              rintro e vay1 ⟨Fay1, rfl, hay1, ht, hF⟩
              have HVa_ay1 := Lib.hid (HVa_a15.out.next ht hF)
              have HVb_ay1 := Lib.hid (HVb_a15.out.next ht hF)
              have HOay1 := Lib.hid hay1
              clear hcon hay1 ht hF HOa15 HVa_a15 HVb_a15 q00 q01 q0l q10 q11 q1l
              have q00 := HVa_ay1.out.lit.cell (o := 0) rfl
              have q01 := HVa_ay1.out.lit.cell (o := 1) rfl
              have q0l := HVa_ay1.out.lit.lt
              have q10 := HVb_ay1.out.lit.cell (o := 0) rfl
              have q11 := HVb_ay1.out.lit.cell (o := 1) rfl
              have q1l := HVb_ay1.out.lit.lt
              have hcon := one_own HOay1.out HUN.out e1 e2 e4 false HI.out HU.out.1
              go_wp2_with fail
              refine (show Calls Try.prog _ _ _ _ from hcon).mono ?_
              rintro e vay2 ⟨rfl, hb⟩
              have HVa_ay2 := Lib.hid (HVa_ay1.out.below hb)
              have HVb_ay2 := Lib.hid (HVb_ay1.out.below hb)
              have HOay2 := Lib.hid (HOay1.out.below hb)
              clear hcon hb HOay1 HVa_ay1 HVb_ay1 q00 q01 q0l q10 q11 q1l
              have q00 := HVa_ay2.out.lit.cell (o := 0) rfl
              have q01 := HVa_ay2.out.lit.cell (o := 1) rfl
              have q0l := HVa_ay2.out.lit.lt
              have q10 := HVb_ay2.out.lit.cell (o := 0) rfl
              have q11 := HVb_ay2.out.lit.cell (o := 1) rfl
              have q1l := HVb_ay2.out.lit.lt
              have hcon := one_sees HOay2.out HUN.out e1 e2 e4 false HI.out HU.out.2
              go_wp2_with fail
              refine (show Calls Try.prog _ _ _ _ from hcon).mono ?_
              rintro e vay3 ⟨rfl, hb⟩
              have HVa_ay3 := Lib.hid (HVa_ay2.out.below hb)
              have HVb_ay3 := Lib.hid (HVb_ay2.out.below hb)
              have HOay3 := Lib.hid (HOay2.out.below hb)
              clear hcon hb HOay2 HVa_ay2 HVb_ay2 q00 q01 q0l q10 q11 q1l
              have q00 := HVa_ay3.out.lit.cell (o := 0) rfl
              have q01 := HVa_ay3.out.lit.cell (o := 1) rfl
              have q0l := HVa_ay3.out.lit.lt
              have q10 := HVb_ay3.out.lit.cell (o := 0) rfl
              have q11 := HVb_ay3.out.lit.cell (o := 1) rfl
              have q1l := HVb_ay3.out.lit.lt
              go_wp2_with fail
              go_ret
              exact ⟨rfl, HOay3.out.bel⟩
            · skip
              obtain ⟨y, hy⟩ : ∃ y, T.err e4 = y := ⟨_, rfl⟩
              have HYE := Lib.hid hy
              rw [hy] at he
              have heb : (y == 0) = false := by simpa using he
              clear hy he
              have q00 := HVa_a15.out.lit.cell (o := 0) rfl
              have q01 := HVa_a15.out.lit.cell (o := 1) rfl
              have q0l := HVa_a15.out.lit.lt
              have q10 := HVb_a15.out.lit.cell (o := 0) rfl
              have q11 := HVb_a15.out.lit.cell (o := 1) rfl
              have q1l := HVb_a15.out.lit.lt
              have hcon := one_abort (T' := T) HOa15.out HSM.out e4 y HI.out HYE.out (by unfold Tb.aboT; rw [HYE.out]; exact if_neg (by simpa using heb))
              go_wp2_with fail
              refine (show Calls Try.prog _ _ _ _ from hcon).mono ?_
              rintro e van1 ⟨Fan1, rfl, han1, ht, hF⟩
              have HVa_an1 := Lib.hid (HVa_a15.out.next ht hF)
              have HVb_an1 := Lib.hid (HVb_a15.out.next ht hF)
              have HOan1 := Lib.hid han1
              clear hcon han1 ht hF HOa15 HVa_a15 HVb_a15 q00 q01 q0l q10 q11 q1l
              have q00 := HVa_an1.out.lit.cell (o := 0) rfl
              have q01 := HVa_an1.out.lit.cell (o := 1) rfl
              have q0l := HVa_an1.out.lit.lt
              have q10 := HVb_an1.out.lit.cell (o := 0) rfl
              have q11 := HVb_an1.out.lit.cell (o := 1) rfl
              have q1l := HVb_an1.out.lit.lt
              go_wp2_with fail
              go_ret
              exact ⟨rfl, HOan1.out.bel⟩
          · skip
            have q00 := HVa.out.lit.cell (o := 0) rfl
            have q01 := HVa.out.lit.cell (o := 1) rfl
            have q0l := HVa.out.lit.lt
            have q10 := HVb.out.lit.cell (o := 0) rfl
            have q11 := HVb.out.lit.cell (o := 1) rfl
            have q1l := HVb.out.lit.lt
            have hcon := one_own HO0.out HSM.out e1 e2 e4 true HI.out HP.out
            go_wp2_with fail
            refine (show Calls Try.prog _ _ _ _ from hcon).mono ?_
            rintro e vb1 ⟨rfl, hb⟩
            have HVa_b1 := Lib.hid (HVa.out.below hb)
            have HVb_b1 := Lib.hid (HVb.out.below hb)
            have HOb1 := Lib.hid (HO0.out.below hb)
            clear hcon hb HO0 HVa HVb q00 q01 q0l q10 q11 q1l
            have q00 := HVa_b1.out.lit.cell (o := 0) rfl
            have q01 := HVa_b1.out.lit.cell (o := 1) rfl
            have q0l := HVa_b1.out.lit.lt
            have q10 := HVb_b1.out.lit.cell (o := 0) rfl
            have q11 := HVb_b1.out.lit.cell (o := 1) rfl
            have q1l := HVb_b1.out.lit.lt
            have hcon := one_sees HOb1.out HSM.out e1 e2 e4 true HI.out HS1.out
            go_wp2_with fail
            refine (show Calls Try.prog _ _ _ _ from hcon).mono ?_
            rintro e vb2 ⟨rfl, hb⟩
            have HVa_b2 := Lib.hid (HVa_b1.out.below hb)
            have HVb_b2 := Lib.hid (HVb_b1.out.below hb)
            have HOb2 := Lib.hid (HOb1.out.below hb)
            clear hcon hb HOb1 HVa_b1 HVb_b1 q00 q01 q0l q10 q11 q1l
            have q00 := HVa_b2.out.lit.cell (o := 0) rfl
            have q01 := HVa_b2.out.lit.cell (o := 1) rfl
            have q0l := HVa_b2.out.lit.lt
            have q10 := HVb_b2.out.lit.cell (o := 0) rfl
            have q11 := HVb_b2.out.lit.cell (o := 1) rfl
            have q1l := HVb_b2.out.lit.lt
            have hcon := one_counts HOb2.out e4 true HI.out HC.out
            go_wp2_with fail
            refine (show Calls Try.prog _ _ _ _ from hcon).mono ?_
            rintro e vb3 ⟨rfl, hb⟩
            have HVa_b3 := Lib.hid (HVa_b2.out.below hb)
            have HVb_b3 := Lib.hid (HVb_b2.out.below hb)
            have HOb3 := Lib.hid (HOb2.out.below hb)
            clear hcon hb HOb2 HVa_b2 HVb_b2 q00 q01 q0l q10 q11 q1l
            have q00 := HVa_b3.out.lit.cell (o := 0) rfl
            have q01 := HVa_b3.out.lit.cell (o := 1) rfl
            have q0l := HVa_b3.out.lit.lt
            have q10 := HVb_b3.out.lit.cell (o := 0) rfl
            have q11 := HVb_b3.out.lit.cell (o := 1) rfl
            have q1l := HVb_b3.out.lit.lt
            have hcon := one_sees HOb3.out HSM.out e1 e2 e4 true HI.out HS1.out
            go_wp2_with fail
            refine (show Calls Try.prog _ _ _ _ from hcon).mono ?_
            rintro e vb4 ⟨rfl, hb⟩
            have HVa_b4 := Lib.hid (HVa_b3.out.below hb)
            have HVb_b4 := Lib.hid (HVb_b3.out.below hb)
            have HOb4 := Lib.hid (HOb3.out.below hb)
            clear hcon hb HOb3 HVa_b3 HVb_b3 q00 q01 q0l q10 q11 q1l
            have q00 := HVa_b4.out.lit.cell (o := 0) rfl
            have q01 := HVa_b4.out.lit.cell (o := 1) rfl
            have q0l := HVa_b4.out.lit.lt
            have q10 := HVb_b4.out.lit.cell (o := 0) rfl
            have q11 := HVb_b4.out.lit.cell (o := 1) rfl
            have q1l := HVb_b4.out.lit.lt
            have hcon := one_later HOb4.out HSM.out e1 e2 e4 false HI.out HL1.out
            go_wp2_with fail
            refine (show Calls Try.prog _ _ _ _ from hcon).mono ?_
            rintro e vb5 ⟨rfl, hb⟩
            have HVa_b5 := Lib.hid (HVa_b4.out.below hb)
            have HVb_b5 := Lib.hid (HVb_b4.out.below hb)
            have HOb5 := Lib.hid (HOb4.out.below hb)
            clear hcon hb HOb4 HVa_b4 HVb_b4 q00 q01 q0l q10 q11 q1l
            have q00 := HVa_b5.out.lit.cell (o := 0) rfl
            have q01 := HVa_b5.out.lit.cell (o := 1) rfl
            have q0l := HVa_b5.out.lit.lt
            have q10 := HVb_b5.out.lit.cell (o := 0) rfl
            have q11 := HVb_b5.out.lit.cell (o := 1) rfl
            have q1l := HVb_b5.out.lit.lt
            have hcon := one_counts HOb5.out e4 true HI.out HC.out
            go_wp2_with fail
            refine (show Calls Try.prog _ _ _ _ from hcon).mono ?_
            rintro e vb6 ⟨rfl, hb⟩
            have HVa_b6 := Lib.hid (HVa_b5.out.below hb)
            have HVb_b6 := Lib.hid (HVb_b5.out.below hb)
            have HOb6 := Lib.hid (HOb5.out.below hb)
            clear hcon hb HOb5 HVa_b5 HVb_b5 q00 q01 q0l q10 q11 q1l
            have q00 := HVa_b6.out.lit.cell (o := 0) rfl
            have q01 := HVa_b6.out.lit.cell (o := 1) rfl
            have q0l := HVa_b6.out.lit.lt
            have q10 := HVb_b6.out.lit.cell (o := 0) rfl
            have q11 := HVb_b6.out.lit.cell (o := 1) rfl
            have q1l := HVb_b6.out.lit.lt
            have hcon := one_counts HOb6.out e4 true HI.out HC.out
            go_wp2_with fail
            refine (show Calls Try.prog _ _ _ _ from hcon).mono ?_
            rintro e vb7 ⟨rfl, hb⟩
            have HVa_b7 := Lib.hid (HVa_b6.out.below hb)
            have HVb_b7 := Lib.hid (HVb_b6.out.below hb)
            have HOb7 := Lib.hid (HOb6.out.below hb)
            clear hcon hb HOb6 HVa_b6 HVb_b6 q00 q01 q0l q10 q11 q1l
            have q00 := HVa_b7.out.lit.cell (o := 0) rfl
            have q01 := HVa_b7.out.lit.cell (o := 1) rfl
            have q0l := HVa_b7.out.lit.lt
            have q10 := HVb_b7.out.lit.cell (o := 0) rfl
            have q11 := HVb_b7.out.lit.cell (o := 1) rfl
            have q1l := HVb_b7.out.lit.lt
            have hcon := one_top HOb7.out e4 tp HI.out HTP.out
            go_wp2_with fail
            refine (show Calls Try.prog _ _ _ _ from hcon).mono ?_
            rintro e vb8 ⟨rfl, hb⟩
            have HVa_b8 := Lib.hid (HVa_b7.out.below hb)
            have HVb_b8 := Lib.hid (HVb_b7.out.below hb)
            have HOb8 := Lib.hid (HOb7.out.below hb)
            clear hcon hb HOb7 HVa_b7 HVb_b7 q00 q01 q0l q10 q11 q1l
            have q00 := HVa_b8.out.lit.cell (o := 0) rfl
            have q01 := HVa_b8.out.lit.cell (o := 1) rfl
            have q0l := HVa_b8.out.lit.lt
            have q10 := HVb_b8.out.lit.cell (o := 0) rfl
            have q11 := HVb_b8.out.lit.cell (o := 1) rfl
            have q1l := HVb_b8.out.lit.lt
            have hcon := one_number HOb8.out HSM.out tp 0 HTI.out HNN.out
            go_wp2_with fail
            refine (show Calls Try.prog _ _ _ _ from hcon).mono ?_
            rintro e vb9 ⟨rfl, hb⟩
            have HVa_b9 := Lib.hid (HVa_b8.out.below hb)
            have HVb_b9 := Lib.hid (HVb_b8.out.below hb)
            have HOb9 := Lib.hid (HOb8.out.below hb)
            clear hcon hb HOb8 HVa_b8 HVb_b8 q00 q01 q0l q10 q11 q1l
            have q00 := HVa_b9.out.lit.cell (o := 0) rfl
            have q01 := HVa_b9.out.lit.cell (o := 1) rfl
            have q0l := HVa_b9.out.lit.lt
            have q10 := HVb_b9.out.lit.cell (o := 0) rfl
            have q11 := HVb_b9.out.lit.cell (o := 1) rfl
            have q1l := HVb_b9.out.lit.lt
            have hcon := one_later HOb9.out HSM.out e1 e2 e4 false HI.out HL1.out
            go_wp2_with fail
            refine (show Calls Try.prog _ _ _ _ from hcon).mono ?_
            rintro e vb10 ⟨rfl, hb⟩
            have HVa_b10 := Lib.hid (HVa_b9.out.below hb)
            have HVb_b10 := Lib.hid (HVb_b9.out.below hb)
            have HOb10 := Lib.hid (HOb9.out.below hb)
            clear hcon hb HOb9 HVa_b9 HVb_b9 q00 q01 q0l q10 q11 q1l
            have q00 := HVa_b10.out.lit.cell (o := 0) rfl
            have q01 := HVa_b10.out.lit.cell (o := 1) rfl
            have q0l := HVa_b10.out.lit.lt
            have q10 := HVb_b10.out.lit.cell (o := 0) rfl
            have q11 := HVb_b10.out.lit.cell (o := 1) rfl
            have q1l := HVb_b10.out.lit.lt
            have hcon := one_sees HOb10.out HSM.out e1 e2 e4 true HI.out HS1.out
            go_wp2_with fail
            refine (show Calls Try.prog _ _ _ _ from hcon).mono ?_
            rintro e vb11 ⟨rfl, hb⟩
            have HVa_b11 := Lib.hid (HVa_b10.out.below hb)
            have HVb_b11 := Lib.hid (HVb_b10.out.below hb)
            have HOb11 := Lib.hid (HOb10.out.below hb)
            clear hcon hb HOb10 HVa_b10 HVb_b10 q00 q01 q0l q10 q11 q1l
            have q00 := HVa_b11.out.lit.cell (o := 0) rfl
            have q01 := HVa_b11.out.lit.cell (o := 1) rfl
            have q0l := HVa_b11.out.lit.lt
            have q10 := HVb_b11.out.lit.cell (o := 0) rfl
            have q11 := HVb_b11.out.lit.cell (o := 1) rfl
            have q1l := HVb_b11.out.lit.lt
            have hcon := one_own HOb11.out HSM.out e1 e2 e4 true HI.out HP.out
            go_wp2_with fail
            refine (show Calls Try.prog _ _ _ _ from hcon).mono ?_
            rintro e vb12 ⟨rfl, hb⟩
            have HVa_b12 := Lib.hid (HVa_b11.out.below hb)
            have HVb_b12 := Lib.hid (HVb_b11.out.below hb)
            have HOb12 := Lib.hid (HOb11.out.below hb)
            clear hcon hb HOb11 HVa_b11 HVb_b11 q00 q01 q0l q10 q11 q1l
            have q00 := HVa_b12.out.lit.cell (o := 0) rfl
            have q01 := HVa_b12.out.lit.cell (o := 1) rfl
            have q0l := HVa_b12.out.lit.lt
            have q10 := HVb_b12.out.lit.cell (o := 0) rfl
            have q11 := HVb_b12.out.lit.cell (o := 1) rfl
            have q1l := HVb_b12.out.lit.lt
            have hcon := one_top HOb12.out e4 tp HI.out HTP.out
            go_wp2_with fail
            refine (show Calls Try.prog _ _ _ _ from hcon).mono ?_
            rintro e vb13 ⟨rfl, hb⟩
            have HVa_b13 := Lib.hid (HVa_b12.out.below hb)
            have HVb_b13 := Lib.hid (HVb_b12.out.below hb)
            have HOb13 := Lib.hid (HOb12.out.below hb)
            clear hcon hb HOb12 HVa_b12 HVb_b12 q00 q01 q0l q10 q11 q1l
            have q00 := HVa_b13.out.lit.cell (o := 0) rfl
            have q01 := HVa_b13.out.lit.cell (o := 1) rfl
            have q0l := HVa_b13.out.lit.lt
            have q10 := HVb_b13.out.lit.cell (o := 0) rfl
            have q11 := HVb_b13.out.lit.cell (o := 1) rfl
            have q1l := HVb_b13.out.lit.lt
            have hcon := one_number HOb13.out HSM.out tp 0 HTI.out HNN.out
            go_wp2_with fail
            refine (show Calls Try.prog _ _ _ _ from hcon).mono ?_
            rintro e vb14 ⟨rfl, hb⟩
            have HVa_b14 := Lib.hid (HVa_b13.out.below hb)
            have HVb_b14 := Lib.hid (HVb_b13.out.below hb)
            have HOb14 := Lib.hid (HOb13.out.below hb)
            clear hcon hb HOb13 HVa_b13 HVb_b13 q00 q01 q0l q10 q11 q1l
            have q00 := HVa_b14.out.lit.cell (o := 0) rfl
            have q01 := HVa_b14.out.lit.cell (o := 1) rfl
            have q0l := HVa_b14.out.lit.lt
            have q10 := HVb_b14.out.lit.cell (o := 0) rfl
            have q11 := HVb_b14.out.lit.cell (o := 1) rfl
            have q1l := HVb_b14.out.lit.lt
            have hcon := one_own HOb14.out HSM.out e1 e2 e4 true HI.out HP.out
            go_wp2_with fail
            refine (show Calls Try.prog _ _ _ _ from hcon).mono ?_
            rintro e vb15 ⟨rfl, hb⟩
            have HVa_b15 := Lib.hid (HVa_b14.out.below hb)
            have HVb_b15 := Lib.hid (HVb_b14.out.below hb)
            have HOb15 := Lib.hid (HOb14.out.below hb)
            clear hcon hb HOb14 HVa_b14 HVb_b14 q00 q01 q0l q10 q11 q1l
            by_cases he : T.err e4 = 0
            · skip
              have HU : Hid ((T.aboT e4).ownB e2 e4 = false ∧ (T.aboT e4).seesB e1 e2 e4 = false) := Lib.hid (own_gone HOK.out he e1 e2)
              have HUN : Hid ((T.aboT e4).n ≤ 1000) := Lib.hid (by have := HSM.out; unfold Tb.aboT; split <;> exact this)
              have q00 := HVa_b15.out.lit.cell (o := 0) rfl
              have q01 := HVa_b15.out.lit.cell (o := 1) rfl
              have q0l := HVa_b15.out.lit.lt
              have q10 := HVb_b15.out.lit.cell (o := 0) rfl
              have q11 := HVb_b15.out.lit.cell (o := 1) rfl
              have q1l := HVb_b15.out.lit.lt
              have hcon := one_abort HOb15.out HSM.out e4 0 HI.out he rfl
              go_wp2_with fail
              refine (show Calls Try.prog _ _ _ _ from hcon).mono ?_
              rintro e vby1 ⟨Fby1, rfl, hby1, ht, hF⟩
              have HVa_by1 := Lib.hid (HVa_b15.out.next ht hF)
              have HVb_by1 := Lib.hid (HVb_b15.out.next ht hF)
              have HOby1 := Lib.hid hby1
              clear hcon hby1 ht hF HOb15 HVa_b15 HVb_b15 q00 q01 q0l q10 q11 q1l
              have q00 := HVa_by1.out.lit.cell (o := 0) rfl
              have q01 := HVa_by1.out.lit.cell (o := 1) rfl
              have q0l := HVa_by1.out.lit.lt
              have q10 := HVb_by1.out.lit.cell (o := 0) rfl
              have q11 := HVb_by1.out.lit.cell (o := 1) rfl
              have q1l := HVb_by1.out.lit.lt
              have hcon := one_own HOby1.out HUN.out e1 e2 e4 false HI.out HU.out.1
              go_wp2_with fail
              refine (show Calls Try.prog _ _ _ _ from hcon).mono ?_
              rintro e vby2 ⟨rfl, hb⟩
              have HVa_by2 := Lib.hid (HVa_by1.out.below hb)
              have HVb_by2 := Lib.hid (HVb_by1.out.below hb)
              have HOby2 := Lib.hid (HOby1.out.below hb)
              clear hcon hb HOby1 HVa_by1 HVb_by1 q00 q01 q0l q10 q11 q1l
              have q00 := HVa_by2.out.lit.cell (o := 0) rfl
              have q01 := HVa_by2.out.lit.cell (o := 1) rfl
              have q0l := HVa_by2.out.lit.lt
              have q10 := HVb_by2.out.lit.cell (o := 0) rfl
              have q11 := HVb_by2.out.lit.cell (o := 1) rfl
              have q1l := HVb_by2.out.lit.lt
              have hcon := one_sees HOby2.out HUN.out e1 e2 e4 false HI.out HU.out.2
              go_wp2_with fail
              refine (show Calls Try.prog _ _ _ _ from hcon).mono ?_
              rintro e vby3 ⟨rfl, hb⟩
              have HVa_by3 := Lib.hid (HVa_by2.out.below hb)
              have HVb_by3 := Lib.hid (HVb_by2.out.below hb)
              have HOby3 := Lib.hid (HOby2.out.below hb)
              clear hcon hb HOby2 HVa_by2 HVb_by2 q00 q01 q0l q10 q11 q1l
              have q00 := HVa_by3.out.lit.cell (o := 0) rfl
              have q01 := HVa_by3.out.lit.cell (o := 1) rfl
              have q0l := HVa_by3.out.lit.lt
              have q10 := HVb_by3.out.lit.cell (o := 0) rfl
              have q11 := HVb_by3.out.lit.cell (o := 1) rfl
              have q1l := HVb_by3.out.lit.lt
              go_wp2_with fail
              go_ret
              exact ⟨rfl, HOby3.out.bel⟩
            · skip
              obtain ⟨y, hy⟩ : ∃ y, T.err e4 = y := ⟨_, rfl⟩
              have HYE := Lib.hid hy
              rw [hy] at he
              have heb : (y == 0) = false := by simpa using he
              clear hy he
              have q00 := HVa_b15.out.lit.cell (o := 0) rfl
              have q01 := HVa_b15.out.lit.cell (o := 1) rfl
              have q0l := HVa_b15.out.lit.lt
              have q10 := HVb_b15.out.lit.cell (o := 0) rfl
              have q11 := HVb_b15.out.lit.cell (o := 1) rfl
              have q1l := HVb_b15.out.lit.lt
              have hcon := one_abort (T' := T) HOb15.out HSM.out e4 y HI.out HYE.out (by unfold Tb.aboT; rw [HYE.out]; exact if_neg (by simpa using heb))
              go_wp2_with fail
              refine (show Calls Try.prog _ _ _ _ from hcon).mono ?_
              rintro e vbn1 ⟨Fbn1, rfl, hbn1, ht, hF⟩
              have HVa_bn1 := Lib.hid (HVa_b15.out.next ht hF)
              have HVb_bn1 := Lib.hid (HVb_b15.out.next ht hF)
              have HObn1 := Lib.hid hbn1
              clear hcon hbn1 ht hF HOb15 HVa_b15 HVb_b15 q00 q01 q0l q10 q11 q1l
              have q00 := HVa_bn1.out.lit.cell (o := 0) rfl
              have q01 := HVa_bn1.out.lit.cell (o := 1) rfl
              have q0l := HVa_bn1.out.lit.lt
              have q10 := HVb_bn1.out.lit.cell (o := 0) rfl
              have q11 := HVb_bn1.out.lit.cell (o := 1) rfl
              have q1l := HVb_bn1.out.lit.lt
              go_wp2_with fail
              go_ret
              exact ⟨rfl, HObn1.out.bel⟩
        · obtain rfl := hr hzm
          have hzb : (e3 != e2) = true := by simpa using hzm
          clear hr hzm
          rcases hd with hd | rfl
          · skip
            have hnb : (n == 0) = false := by simp; omega
            have q00 := HVa.out.lit.cell (o := 0) rfl
            have q01 := HVa.out.lit.cell (o := 1) rfl
            have q0l := HVa.out.lit.lt
            have q10 := HVb.out.lit.cell (o := 0) rfl
            have q11 := HVb.out.lit.cell (o := 1) rfl
            have q1l := HVb.out.lit.lt
            have hcon := one_own HO0.out HSM.out e1 e2 e4 true HI.out HP.out
            go_wp2_with fail
            refine (show Calls Try.prog _ _ _ _ from hcon).mono ?_
            rintro e vc1 ⟨rfl, hb⟩
            have HVa_c1 := Lib.hid (HVa.out.below hb)
            have HVb_c1 := Lib.hid (HVb.out.below hb)
            have HOc1 := Lib.hid (HO0.out.below hb)
            clear hcon hb HO0 HVa HVb q00 q01 q0l q10 q11 q1l
            have q00 := HVa_c1.out.lit.cell (o := 0) rfl
            have q01 := HVa_c1.out.lit.cell (o := 1) rfl
            have q0l := HVa_c1.out.lit.lt
            have q10 := HVb_c1.out.lit.cell (o := 0) rfl
            have q11 := HVb_c1.out.lit.cell (o := 1) rfl
            have q1l := HVb_c1.out.lit.lt
            have hcon := one_sees HOc1.out HSM.out e1 e2 e4 true HI.out HS1.out
            go_wp2_with fail
            refine (show Calls Try.prog _ _ _ _ from hcon).mono ?_
            rintro e vc2 ⟨rfl, hb⟩
            have HVa_c2 := Lib.hid (HVa_c1.out.below hb)
            have HVb_c2 := Lib.hid (HVb_c1.out.below hb)
            have HOc2 := Lib.hid (HOc1.out.below hb)
            clear hcon hb HOc1 HVa_c1 HVb_c1 q00 q01 q0l q10 q11 q1l
            have q00 := HVa_c2.out.lit.cell (o := 0) rfl
            have q01 := HVa_c2.out.lit.cell (o := 1) rfl
            have q0l := HVa_c2.out.lit.lt
            have q10 := HVb_c2.out.lit.cell (o := 0) rfl
            have q11 := HVb_c2.out.lit.cell (o := 1) rfl
            have q1l := HVb_c2.out.lit.lt
            have hcon := one_counts HOc2.out e4 true HI.out HC.out
            go_wp2_with fail
            refine (show Calls Try.prog _ _ _ _ from hcon).mono ?_
            rintro e vc3 ⟨rfl, hb⟩
            have HVa_c3 := Lib.hid (HVa_c2.out.below hb)
            have HVb_c3 := Lib.hid (HVb_c2.out.below hb)
            have HOc3 := Lib.hid (HOc2.out.below hb)
            clear hcon hb HOc2 HVa_c2 HVb_c2 q00 q01 q0l q10 q11 q1l
            have q00 := HVa_c3.out.lit.cell (o := 0) rfl
            have q01 := HVa_c3.out.lit.cell (o := 1) rfl
            have q0l := HVa_c3.out.lit.lt
            have q10 := HVb_c3.out.lit.cell (o := 0) rfl
            have q11 := HVb_c3.out.lit.cell (o := 1) rfl
            have q1l := HVb_c3.out.lit.lt
            have hcon := one_own HOc3.out HSM.out e1 e3 e4 false HI.out HR.out
            go_wp2_with fail
            refine (show Calls Try.prog _ _ _ _ from hcon).mono ?_
            rintro e vc4 ⟨rfl, hb⟩
            have HVa_c4 := Lib.hid (HVa_c3.out.below hb)
            have HVb_c4 := Lib.hid (HVb_c3.out.below hb)
            have HOc4 := Lib.hid (HOc3.out.below hb)
            clear hcon hb HOc3 HVa_c3 HVb_c3 q00 q01 q0l q10 q11 q1l
            have q00 := HVa_c4.out.lit.cell (o := 0) rfl
            have q01 := HVa_c4.out.lit.cell (o := 1) rfl
            have q0l := HVa_c4.out.lit.lt
            have q10 := HVb_c4.out.lit.cell (o := 0) rfl
            have q11 := HVb_c4.out.lit.cell (o := 1) rfl
            have q1l := HVb_c4.out.lit.lt
            have hcon := one_sees HOc4.out HSM.out e1 e2 e4 true HI.out HS1.out
            go_wp2_with fail
            refine (show Calls Try.prog _ _ _ _ from hcon).mono ?_
            rintro e vc5 ⟨rfl, hb⟩
            have HVa_c5 := Lib.hid (HVa_c4.out.below hb)
            have HVb_c5 := Lib.hid (HVb_c4.out.below hb)
            have HOc5 := Lib.hid (HOc4.out.below hb)
            clear hcon hb HOc4 HVa_c4 HVb_c4 q00 q01 q0l q10 q11 q1l
            have q00 := HVa_c5.out.lit.cell (o := 0) rfl
            have q01 := HVa_c5.out.lit.cell (o := 1) rfl
            have q0l := HVa_c5.out.lit.lt
            have q10 := HVb_c5.out.lit.cell (o := 0) rfl
            have q11 := HVb_c5.out.lit.cell (o := 1) rfl
            have q1l := HVb_c5.out.lit.lt
            have hcon := one_later HOc5.out HSM.out e1 e2 e4 false HI.out HL1.out
            go_wp2_with fail
            refine (show Calls Try.prog _ _ _ _ from hcon).mono ?_
            rintro e vc6 ⟨rfl, hb⟩
            have HVa_c6 := Lib.hid (HVa_c5.out.below hb)
            have HVb_c6 := Lib.hid (HVb_c5.out.below hb)
            have HOc6 := Lib.hid (HOc5.out.below hb)
            clear hcon hb HOc5 HVa_c5 HVb_c5 q00 q01 q0l q10 q11 q1l
            have q00 := HVa_c6.out.lit.cell (o := 0) rfl
            have q01 := HVa_c6.out.lit.cell (o := 1) rfl
            have q0l := HVa_c6.out.lit.lt
            have q10 := HVb_c6.out.lit.cell (o := 0) rfl
            have q11 := HVb_c6.out.lit.cell (o := 1) rfl
            have q1l := HVb_c6.out.lit.lt
            have hcon := one_counts HOc6.out e4 true HI.out HC.out
            go_wp2_with fail
            refine (show Calls Try.prog _ _ _ _ from hcon).mono ?_
            rintro e vc7 ⟨rfl, hb⟩
            have HVa_c7 := Lib.hid (HVa_c6.out.below hb)
            have HVb_c7 := Lib.hid (HVb_c6.out.below hb)
            have HOc7 := Lib.hid (HOc6.out.below hb)
            clear hcon hb HOc6 HVa_c6 HVb_c6 q00 q01 q0l q10 q11 q1l
            have q00 := HVa_c7.out.lit.cell (o := 0) rfl
            have q01 := HVa_c7.out.lit.cell (o := 1) rfl
            have q0l := HVa_c7.out.lit.lt
            have q10 := HVb_c7.out.lit.cell (o := 0) rfl
            have q11 := HVb_c7.out.lit.cell (o := 1) rfl
            have q1l := HVb_c7.out.lit.lt
            have hcon := one_counts HOc7.out e4 true HI.out HC.out
            go_wp2_with fail
            refine (show Calls Try.prog _ _ _ _ from hcon).mono ?_
            rintro e vc8 ⟨rfl, hb⟩
            have HVa_c8 := Lib.hid (HVa_c7.out.below hb)
            have HVb_c8 := Lib.hid (HVb_c7.out.below hb)
            have HOc8 := Lib.hid (HOc7.out.below hb)
            clear hcon hb HOc7 HVa_c7 HVb_c7 q00 q01 q0l q10 q11 q1l
            have q00 := HVa_c8.out.lit.cell (o := 0) rfl
            have q01 := HVa_c8.out.lit.cell (o := 1) rfl
            have q0l := HVa_c8.out.lit.lt
            have q10 := HVb_c8.out.lit.cell (o := 0) rfl
            have q11 := HVb_c8.out.lit.cell (o := 1) rfl
            have q1l := HVb_c8.out.lit.lt
            have hcon := one_top HOc8.out e4 tp HI.out HTP.out
            go_wp2_with fail
            refine (show Calls Try.prog _ _ _ _ from hcon).mono ?_
            rintro e vc9 ⟨rfl, hb⟩
            have HVa_c9 := Lib.hid (HVa_c8.out.below hb)
            have HVb_c9 := Lib.hid (HVb_c8.out.below hb)
            have HOc9 := Lib.hid (HOc8.out.below hb)
            clear hcon hb HOc8 HVa_c8 HVb_c8 q00 q01 q0l q10 q11 q1l
            have q00 := HVa_c9.out.lit.cell (o := 0) rfl
            have q01 := HVa_c9.out.lit.cell (o := 1) rfl
            have q0l := HVa_c9.out.lit.lt
            have q10 := HVb_c9.out.lit.cell (o := 0) rfl
            have q11 := HVb_c9.out.lit.cell (o := 1) rfl
            have q1l := HVb_c9.out.lit.lt
            have hcon := one_number HOc9.out HSM.out tp n HTI.out HNN.out
            go_wp2_with fail
            refine (show Calls Try.prog _ _ _ _ from hcon).mono ?_
            rintro e vc10 ⟨rfl, hb⟩
            have HVa_c10 := Lib.hid (HVa_c9.out.below hb)
            have HVb_c10 := Lib.hid (HVb_c9.out.below hb)
            have HOc10 := Lib.hid (HOc9.out.below hb)
            clear hcon hb HOc9 HVa_c9 HVb_c9 q00 q01 q0l q10 q11 q1l
            have q00 := HVa_c10.out.lit.cell (o := 0) rfl
            have q01 := HVa_c10.out.lit.cell (o := 1) rfl
            have q0l := HVa_c10.out.lit.lt
            have q10 := HVb_c10.out.lit.cell (o := 0) rfl
            have q11 := HVb_c10.out.lit.cell (o := 1) rfl
            have q1l := HVb_c10.out.lit.lt
            have hcon := one_later HOc10.out HSM.out e1 e2 e4 false HI.out HL1.out
            go_wp2_with fail
            refine (show Calls Try.prog _ _ _ _ from hcon).mono ?_
            rintro e vc11 ⟨rfl, hb⟩
            have HVa_c11 := Lib.hid (HVa_c10.out.below hb)
            have HVb_c11 := Lib.hid (HVb_c10.out.below hb)
            have HOc11 := Lib.hid (HOc10.out.below hb)
            clear hcon hb HOc10 HVa_c10 HVb_c10 q00 q01 q0l q10 q11 q1l
            have q00 := HVa_c11.out.lit.cell (o := 0) rfl
            have q01 := HVa_c11.out.lit.cell (o := 1) rfl
            have q0l := HVa_c11.out.lit.lt
            have q10 := HVb_c11.out.lit.cell (o := 0) rfl
            have q11 := HVb_c11.out.lit.cell (o := 1) rfl
            have q1l := HVb_c11.out.lit.lt
            have hcon := one_sees HOc11.out HSM.out e1 e2 e4 true HI.out HS1.out
            go_wp2_with fail
            refine (show Calls Try.prog _ _ _ _ from hcon).mono ?_
            rintro e vc12 ⟨rfl, hb⟩
            have HVa_c12 := Lib.hid (HVa_c11.out.below hb)
            have HVb_c12 := Lib.hid (HVb_c11.out.below hb)
            have HOc12 := Lib.hid (HOc11.out.below hb)
            clear hcon hb HOc11 HVa_c11 HVb_c11 q00 q01 q0l q10 q11 q1l
            have q00 := HVa_c12.out.lit.cell (o := 0) rfl
            have q01 := HVa_c12.out.lit.cell (o := 1) rfl
            have q0l := HVa_c12.out.lit.lt
            have q10 := HVb_c12.out.lit.cell (o := 0) rfl
            have q11 := HVb_c12.out.lit.cell (o := 1) rfl
            have q1l := HVb_c12.out.lit.lt
            have hcon := one_own HOc12.out HSM.out e1 e2 e4 true HI.out HP.out
            go_wp2_with fail
            refine (show Calls Try.prog _ _ _ _ from hcon).mono ?_
            rintro e vc13 ⟨rfl, hb⟩
            have HVa_c13 := Lib.hid (HVa_c12.out.below hb)
            have HVb_c13 := Lib.hid (HVb_c12.out.below hb)
            have HOc13 := Lib.hid (HOc12.out.below hb)
            clear hcon hb HOc12 HVa_c12 HVb_c12 q00 q01 q0l q10 q11 q1l
            have q00 := HVa_c13.out.lit.cell (o := 0) rfl
            have q01 := HVa_c13.out.lit.cell (o := 1) rfl
            have q0l := HVa_c13.out.lit.lt
            have q10 := HVb_c13.out.lit.cell (o := 0) rfl
            have q11 := HVb_c13.out.lit.cell (o := 1) rfl
            have q1l := HVb_c13.out.lit.lt
            have hcon := one_top HOc13.out e4 tp HI.out HTP.out
            go_wp2_with fail
            refine (show Calls Try.prog _ _ _ _ from hcon).mono ?_
            rintro e vc14 ⟨rfl, hb⟩
            have HVa_c14 := Lib.hid (HVa_c13.out.below hb)
            have HVb_c14 := Lib.hid (HVb_c13.out.below hb)
            have HOc14 := Lib.hid (HOc13.out.below hb)
            clear hcon hb HOc13 HVa_c13 HVb_c13 q00 q01 q0l q10 q11 q1l
            have q00 := HVa_c14.out.lit.cell (o := 0) rfl
            have q01 := HVa_c14.out.lit.cell (o := 1) rfl
            have q0l := HVa_c14.out.lit.lt
            have q10 := HVb_c14.out.lit.cell (o := 0) rfl
            have q11 := HVb_c14.out.lit.cell (o := 1) rfl
            have q1l := HVb_c14.out.lit.lt
            have hcon := one_number HOc14.out HSM.out tp n HTI.out HNN.out
            go_wp2_with fail
            refine (show Calls Try.prog _ _ _ _ from hcon).mono ?_
            rintro e vc15 ⟨rfl, hb⟩
            have HVa_c15 := Lib.hid (HVa_c14.out.below hb)
            have HVb_c15 := Lib.hid (HVb_c14.out.below hb)
            have HOc15 := Lib.hid (HOc14.out.below hb)
            clear hcon hb HOc14 HVa_c14 HVb_c14 q00 q01 q0l q10 q11 q1l
            have q00 := HVa_c15.out.lit.cell (o := 0) rfl
            have q01 := HVa_c15.out.lit.cell (o := 1) rfl
            have q0l := HVa_c15.out.lit.lt
            have q10 := HVb_c15.out.lit.cell (o := 0) rfl
            have q11 := HVb_c15.out.lit.cell (o := 1) rfl
            have q1l := HVb_c15.out.lit.lt
            have hcon := one_own HOc15.out HSM.out e1 e2 e4 true HI.out HP.out
            go_wp2_with fail
            refine (show Calls Try.prog _ _ _ _ from hcon).mono ?_
            rintro e vc16 ⟨rfl, hb⟩
            have HVa_c16 := Lib.hid (HVa_c15.out.below hb)
            have HVb_c16 := Lib.hid (HVb_c15.out.below hb)
            have HOc16 := Lib.hid (HOc15.out.below hb)
            clear hcon hb HOc15 HVa_c15 HVb_c15 q00 q01 q0l q10 q11 q1l
            by_cases he : T.err e4 = 0
            · skip
              have HU : Hid ((T.aboT e4).ownB e2 e4 = false ∧ (T.aboT e4).seesB e1 e2 e4 = false) := Lib.hid (own_gone HOK.out he e1 e2)
              have HUN : Hid ((T.aboT e4).n ≤ 1000) := Lib.hid (by have := HSM.out; unfold Tb.aboT; split <;> exact this)
              have q00 := HVa_c16.out.lit.cell (o := 0) rfl
              have q01 := HVa_c16.out.lit.cell (o := 1) rfl
              have q0l := HVa_c16.out.lit.lt
              have q10 := HVb_c16.out.lit.cell (o := 0) rfl
              have q11 := HVb_c16.out.lit.cell (o := 1) rfl
              have q1l := HVb_c16.out.lit.lt
              have hcon := one_abort HOc16.out HSM.out e4 0 HI.out he rfl
              go_wp2_with fail
              refine (show Calls Try.prog _ _ _ _ from hcon).mono ?_
              rintro e vcy1 ⟨Fcy1, rfl, hcy1, ht, hF⟩
              have HVa_cy1 := Lib.hid (HVa_c16.out.next ht hF)
              have HVb_cy1 := Lib.hid (HVb_c16.out.next ht hF)
              have HOcy1 := Lib.hid hcy1
              clear hcon hcy1 ht hF HOc16 HVa_c16 HVb_c16 q00 q01 q0l q10 q11 q1l
              have q00 := HVa_cy1.out.lit.cell (o := 0) rfl
              have q01 := HVa_cy1.out.lit.cell (o := 1) rfl
              have q0l := HVa_cy1.out.lit.lt
              have q10 := HVb_cy1.out.lit.cell (o := 0) rfl
              have q11 := HVb_cy1.out.lit.cell (o := 1) rfl
              have q1l := HVb_cy1.out.lit.lt
              have hcon := one_own HOcy1.out HUN.out e1 e2 e4 false HI.out HU.out.1
              go_wp2_with fail
              refine (show Calls Try.prog _ _ _ _ from hcon).mono ?_
              rintro e vcy2 ⟨rfl, hb⟩
              have HVa_cy2 := Lib.hid (HVa_cy1.out.below hb)
              have HVb_cy2 := Lib.hid (HVb_cy1.out.below hb)
              have HOcy2 := Lib.hid (HOcy1.out.below hb)
              clear hcon hb HOcy1 HVa_cy1 HVb_cy1 q00 q01 q0l q10 q11 q1l
              have q00 := HVa_cy2.out.lit.cell (o := 0) rfl
              have q01 := HVa_cy2.out.lit.cell (o := 1) rfl
              have q0l := HVa_cy2.out.lit.lt
              have q10 := HVb_cy2.out.lit.cell (o := 0) rfl
              have q11 := HVb_cy2.out.lit.cell (o := 1) rfl
              have q1l := HVb_cy2.out.lit.lt
              have hcon := one_sees HOcy2.out HUN.out e1 e2 e4 false HI.out HU.out.2
              go_wp2_with fail
              refine (show Calls Try.prog _ _ _ _ from hcon).mono ?_
              rintro e vcy3 ⟨rfl, hb⟩
              have HVa_cy3 := Lib.hid (HVa_cy2.out.below hb)
              have HVb_cy3 := Lib.hid (HVb_cy2.out.below hb)
              have HOcy3 := Lib.hid (HOcy2.out.below hb)
              clear hcon hb HOcy2 HVa_cy2 HVb_cy2 q00 q01 q0l q10 q11 q1l
              have q00 := HVa_cy3.out.lit.cell (o := 0) rfl
              have q01 := HVa_cy3.out.lit.cell (o := 1) rfl
              have q0l := HVa_cy3.out.lit.lt
              have q10 := HVb_cy3.out.lit.cell (o := 0) rfl
              have q11 := HVb_cy3.out.lit.cell (o := 1) rfl
              have q1l := HVb_cy3.out.lit.lt
              go_wp2_with fail
              go_ret
              exact ⟨rfl, HOcy3.out.bel⟩
            · skip
              obtain ⟨y, hy⟩ : ∃ y, T.err e4 = y := ⟨_, rfl⟩
              have HYE := Lib.hid hy
              rw [hy] at he
              have heb : (y == 0) = false := by simpa using he
              clear hy he
              have q00 := HVa_c16.out.lit.cell (o := 0) rfl
              have q01 := HVa_c16.out.lit.cell (o := 1) rfl
              have q0l := HVa_c16.out.lit.lt
              have q10 := HVb_c16.out.lit.cell (o := 0) rfl
              have q11 := HVb_c16.out.lit.cell (o := 1) rfl
              have q1l := HVb_c16.out.lit.lt
              have hcon := one_abort (T' := T) HOc16.out HSM.out e4 y HI.out HYE.out (by unfold Tb.aboT; rw [HYE.out]; exact if_neg (by simpa using heb))
              go_wp2_with fail
              refine (show Calls Try.prog _ _ _ _ from hcon).mono ?_
              rintro e vcn1 ⟨Fcn1, rfl, hcn1, ht, hF⟩
              have HVa_cn1 := Lib.hid (HVa_c16.out.next ht hF)
              have HVb_cn1 := Lib.hid (HVb_c16.out.next ht hF)
              have HOcn1 := Lib.hid hcn1
              clear hcon hcn1 ht hF HOc16 HVa_c16 HVb_c16 q00 q01 q0l q10 q11 q1l
              have q00 := HVa_cn1.out.lit.cell (o := 0) rfl
              have q01 := HVa_cn1.out.lit.cell (o := 1) rfl
              have q0l := HVa_cn1.out.lit.lt
              have q10 := HVb_cn1.out.lit.cell (o := 0) rfl
              have q11 := HVb_cn1.out.lit.cell (o := 1) rfl
              have q1l := HVb_cn1.out.lit.lt
              go_wp2_with fail
              go_ret
              exact ⟨rfl, HOcn1.out.bel⟩
          · skip
            have q00 := HVa.out.lit.cell (o := 0) rfl
            have q01 := HVa.out.lit.cell (o := 1) rfl
            have q0l := HVa.out.lit.lt
            have q10 := HVb.out.lit.cell (o := 0) rfl
            have q11 := HVb.out.lit.cell (o := 1) rfl
            have q1l := HVb.out.lit.lt
            have hcon := one_own HO0.out HSM.out e1 e2 e4 true HI.out HP.out
            go_wp2_with fail
            refine (show Calls Try.prog _ _ _ _ from hcon).mono ?_
            rintro e vd1 ⟨rfl, hb⟩
            have HVa_d1 := Lib.hid (HVa.out.below hb)
            have HVb_d1 := Lib.hid (HVb.out.below hb)
            have HOd1 := Lib.hid (HO0.out.below hb)
            clear hcon hb HO0 HVa HVb q00 q01 q0l q10 q11 q1l
            have q00 := HVa_d1.out.lit.cell (o := 0) rfl
            have q01 := HVa_d1.out.lit.cell (o := 1) rfl
            have q0l := HVa_d1.out.lit.lt
            have q10 := HVb_d1.out.lit.cell (o := 0) rfl
            have q11 := HVb_d1.out.lit.cell (o := 1) rfl
            have q1l := HVb_d1.out.lit.lt
            have hcon := one_sees HOd1.out HSM.out e1 e2 e4 true HI.out HS1.out
            go_wp2_with fail
            refine (show Calls Try.prog _ _ _ _ from hcon).mono ?_
            rintro e vd2 ⟨rfl, hb⟩
            have HVa_d2 := Lib.hid (HVa_d1.out.below hb)
            have HVb_d2 := Lib.hid (HVb_d1.out.below hb)
            have HOd2 := Lib.hid (HOd1.out.below hb)
            clear hcon hb HOd1 HVa_d1 HVb_d1 q00 q01 q0l q10 q11 q1l
            have q00 := HVa_d2.out.lit.cell (o := 0) rfl
            have q01 := HVa_d2.out.lit.cell (o := 1) rfl
            have q0l := HVa_d2.out.lit.lt
            have q10 := HVb_d2.out.lit.cell (o := 0) rfl
            have q11 := HVb_d2.out.lit.cell (o := 1) rfl
            have q1l := HVb_d2.out.lit.lt
            have hcon := one_counts HOd2.out e4 true HI.out HC.out
            go_wp2_with fail
            refine (show Calls Try.prog _ _ _ _ from hcon).mono ?_
            rintro e vd3 ⟨rfl, hb⟩
            have HVa_d3 := Lib.hid (HVa_d2.out.below hb)
            have HVb_d3 := Lib.hid (HVb_d2.out.below hb)
            have HOd3 := Lib.hid (HOd2.out.below hb)
            clear hcon hb HOd2 HVa_d2 HVb_d2 q00 q01 q0l q10 q11 q1l
            have q00 := HVa_d3.out.lit.cell (o := 0) rfl
            have q01 := HVa_d3.out.lit.cell (o := 1) rfl
            have q0l := HVa_d3.out.lit.lt
            have q10 := HVb_d3.out.lit.cell (o := 0) rfl
            have q11 := HVb_d3.out.lit.cell (o := 1) rfl
            have q1l := HVb_d3.out.lit.lt
            have hcon := one_own HOd3.out HSM.out e1 e3 e4 false HI.out HR.out
            go_wp2_with fail
            refine (show Calls Try.prog _ _ _ _ from hcon).mono ?_
            rintro e vd4 ⟨rfl, hb⟩
            have HVa_d4 := Lib.hid (HVa_d3.out.below hb)
            have HVb_d4 := Lib.hid (HVb_d3.out.below hb)
            have HOd4 := Lib.hid (HOd3.out.below hb)
            clear hcon hb HOd3 HVa_d3 HVb_d3 q00 q01 q0l q10 q11 q1l
            have q00 := HVa_d4.out.lit.cell (o := 0) rfl
            have q01 := HVa_d4.out.lit.cell (o := 1) rfl
            have q0l := HVa_d4.out.lit.lt
            have q10 := HVb_d4.out.lit.cell (o := 0) rfl
            have q11 := HVb_d4.out.lit.cell (o := 1) rfl
            have q1l := HVb_d4.out.lit.lt
            have hcon := one_sees HOd4.out HSM.out e1 e2 e4 true HI.out HS1.out
            go_wp2_with fail
            refine (show Calls Try.prog _ _ _ _ from hcon).mono ?_
            rintro e vd5 ⟨rfl, hb⟩
            have HVa_d5 := Lib.hid (HVa_d4.out.below hb)
            have HVb_d5 := Lib.hid (HVb_d4.out.below hb)
            have HOd5 := Lib.hid (HOd4.out.below hb)
            clear hcon hb HOd4 HVa_d4 HVb_d4 q00 q01 q0l q10 q11 q1l
            have q00 := HVa_d5.out.lit.cell (o := 0) rfl
            have q01 := HVa_d5.out.lit.cell (o := 1) rfl
            have q0l := HVa_d5.out.lit.lt
            have q10 := HVb_d5.out.lit.cell (o := 0) rfl
            have q11 := HVb_d5.out.lit.cell (o := 1) rfl
            have q1l := HVb_d5.out.lit.lt
            have hcon := one_later HOd5.out HSM.out e1 e2 e4 false HI.out HL1.out
            go_wp2_with fail
            refine (show Calls Try.prog _ _ _ _ from hcon).mono ?_
            rintro e vd6 ⟨rfl, hb⟩
            have HVa_d6 := Lib.hid (HVa_d5.out.below hb)
            have HVb_d6 := Lib.hid (HVb_d5.out.below hb)
            have HOd6 := Lib.hid (HOd5.out.below hb)
            clear hcon hb HOd5 HVa_d5 HVb_d5 q00 q01 q0l q10 q11 q1l
            have q00 := HVa_d6.out.lit.cell (o := 0) rfl
            have q01 := HVa_d6.out.lit.cell (o := 1) rfl
            have q0l := HVa_d6.out.lit.lt
            have q10 := HVb_d6.out.lit.cell (o := 0) rfl
            have q11 := HVb_d6.out.lit.cell (o := 1) rfl
            have q1l := HVb_d6.out.lit.lt
            have hcon := one_counts HOd6.out e4 true HI.out HC.out
            go_wp2_with fail
            refine (show Calls Try.prog _ _ _ _ from hcon).mono ?_
            rintro e vd7 ⟨rfl, hb⟩
            have HVa_d7 := Lib.hid (HVa_d6.out.below hb)
            have HVb_d7 := Lib.hid (HVb_d6.out.below hb)
            have HOd7 := Lib.hid (HOd6.out.below hb)
            clear hcon hb HOd6 HVa_d6 HVb_d6 q00 q01 q0l q10 q11 q1l
            have q00 := HVa_d7.out.lit.cell (o := 0) rfl
            have q01 := HVa_d7.out.lit.cell (o := 1) rfl
            have q0l := HVa_d7.out.lit.lt
            have q10 := HVb_d7.out.lit.cell (o := 0) rfl
            have q11 := HVb_d7.out.lit.cell (o := 1) rfl
            have q1l := HVb_d7.out.lit.lt
            have hcon := one_counts HOd7.out e4 true HI.out HC.out
            go_wp2_with fail
            refine (show Calls Try.prog _ _ _ _ from hcon).mono ?_
            rintro e vd8 ⟨rfl, hb⟩
            have HVa_d8 := Lib.hid (HVa_d7.out.below hb)
            have HVb_d8 := Lib.hid (HVb_d7.out.below hb)
            have HOd8 := Lib.hid (HOd7.out.below hb)
            clear hcon hb HOd7 HVa_d7 HVb_d7 q00 q01 q0l q10 q11 q1l
            have q00 := HVa_d8.out.lit.cell (o := 0) rfl
            have q01 := HVa_d8.out.lit.cell (o := 1) rfl
            have q0l := HVa_d8.out.lit.lt
            have q10 := HVb_d8.out.lit.cell (o := 0) rfl
            have q11 := HVb_d8.out.lit.cell (o := 1) rfl
            have q1l := HVb_d8.out.lit.lt
            have hcon := one_top HOd8.out e4 tp HI.out HTP.out
            go_wp2_with fail
            refine (show Calls Try.prog _ _ _ _ from hcon).mono ?_
            rintro e vd9 ⟨rfl, hb⟩
            have HVa_d9 := Lib.hid (HVa_d8.out.below hb)
            have HVb_d9 := Lib.hid (HVb_d8.out.below hb)
            have HOd9 := Lib.hid (HOd8.out.below hb)
            clear hcon hb HOd8 HVa_d8 HVb_d8 q00 q01 q0l q10 q11 q1l
            have q00 := HVa_d9.out.lit.cell (o := 0) rfl
            have q01 := HVa_d9.out.lit.cell (o := 1) rfl
            have q0l := HVa_d9.out.lit.lt
            have q10 := HVb_d9.out.lit.cell (o := 0) rfl
            have q11 := HVb_d9.out.lit.cell (o := 1) rfl
            have q1l := HVb_d9.out.lit.lt
            have hcon := one_number HOd9.out HSM.out tp 0 HTI.out HNN.out
            go_wp2_with fail
            refine (show Calls Try.prog _ _ _ _ from hcon).mono ?_
            rintro e vd10 ⟨rfl, hb⟩
            have HVa_d10 := Lib.hid (HVa_d9.out.below hb)
            have HVb_d10 := Lib.hid (HVb_d9.out.below hb)
            have HOd10 := Lib.hid (HOd9.out.below hb)
            clear hcon hb HOd9 HVa_d9 HVb_d9 q00 q01 q0l q10 q11 q1l
            have q00 := HVa_d10.out.lit.cell (o := 0) rfl
            have q01 := HVa_d10.out.lit.cell (o := 1) rfl
            have q0l := HVa_d10.out.lit.lt
            have q10 := HVb_d10.out.lit.cell (o := 0) rfl
            have q11 := HVb_d10.out.lit.cell (o := 1) rfl
            have q1l := HVb_d10.out.lit.lt
            have hcon := one_later HOd10.out HSM.out e1 e2 e4 false HI.out HL1.out
            go_wp2_with fail
            refine (show Calls Try.prog _ _ _ _ from hcon).mono ?_
            rintro e vd11 ⟨rfl, hb⟩
            have HVa_d11 := Lib.hid (HVa_d10.out.below hb)
            have HVb_d11 := Lib.hid (HVb_d10.out.below hb)
            have HOd11 := Lib.hid (HOd10.out.below hb)
            clear hcon hb HOd10 HVa_d10 HVb_d10 q00 q01 q0l q10 q11 q1l
            have q00 := HVa_d11.out.lit.cell (o := 0) rfl
            have q01 := HVa_d11.out.lit.cell (o := 1) rfl
            have q0l := HVa_d11.out.lit.lt
            have q10 := HVb_d11.out.lit.cell (o := 0) rfl
            have q11 := HVb_d11.out.lit.cell (o := 1) rfl
            have q1l := HVb_d11.out.lit.lt
            have hcon := one_sees HOd11.out HSM.out e1 e2 e4 true HI.out HS1.out
            go_wp2_with fail
            refine (show Calls Try.prog _ _ _ _ from hcon).mono ?_
            rintro e vd12 ⟨rfl, hb⟩
            have HVa_d12 := Lib.hid (HVa_d11.out.below hb)
            have HVb_d12 := Lib.hid (HVb_d11.out.below hb)
            have HOd12 := Lib.hid (HOd11.out.below hb)
            clear hcon hb HOd11 HVa_d11 HVb_d11 q00 q01 q0l q10 q11 q1l
            have q00 := HVa_d12.out.lit.cell (o := 0) rfl
            have q01 := HVa_d12.out.lit.cell (o := 1) rfl
            have q0l := HVa_d12.out.lit.lt
            have q10 := HVb_d12.out.lit.cell (o := 0) rfl
            have q11 := HVb_d12.out.lit.cell (o := 1) rfl
            have q1l := HVb_d12.out.lit.lt
            have hcon := one_own HOd12.out HSM.out e1 e2 e4 true HI.out HP.out
            go_wp2_with fail
            refine (show Calls Try.prog _ _ _ _ from hcon).mono ?_
            rintro e vd13 ⟨rfl, hb⟩
            have HVa_d13 := Lib.hid (HVa_d12.out.below hb)
            have HVb_d13 := Lib.hid (HVb_d12.out.below hb)
            have HOd13 := Lib.hid (HOd12.out.below hb)
            clear hcon hb HOd12 HVa_d12 HVb_d12 q00 q01 q0l q10 q11 q1l
            have q00 := HVa_d13.out.lit.cell (o := 0) rfl
            have q01 := HVa_d13.out.lit.cell (o := 1) rfl
            have q0l := HVa_d13.out.lit.lt
            have q10 := HVb_d13.out.lit.cell (o := 0) rfl
            have q11 := HVb_d13.out.lit.cell (o := 1) rfl
            have q1l := HVb_d13.out.lit.lt
            have hcon := one_top HOd13.out e4 tp HI.out HTP.out
            go_wp2_with fail
            refine (show Calls Try.prog _ _ _ _ from hcon).mono ?_
            rintro e vd14 ⟨rfl, hb⟩
            have HVa_d14 := Lib.hid (HVa_d13.out.below hb)
            have HVb_d14 := Lib.hid (HVb_d13.out.below hb)
            have HOd14 := Lib.hid (HOd13.out.below hb)
            clear hcon hb HOd13 HVa_d13 HVb_d13 q00 q01 q0l q10 q11 q1l
            have q00 := HVa_d14.out.lit.cell (o := 0) rfl
            have q01 := HVa_d14.out.lit.cell (o := 1) rfl
            have q0l := HVa_d14.out.lit.lt
            have q10 := HVb_d14.out.lit.cell (o := 0) rfl
            have q11 := HVb_d14.out.lit.cell (o := 1) rfl
            have q1l := HVb_d14.out.lit.lt
            have hcon := one_number HOd14.out HSM.out tp 0 HTI.out HNN.out
            go_wp2_with fail
            refine (show Calls Try.prog _ _ _ _ from hcon).mono ?_
            rintro e vd15 ⟨rfl, hb⟩
            have HVa_d15 := Lib.hid (HVa_d14.out.below hb)
            have HVb_d15 := Lib.hid (HVb_d14.out.below hb)
            have HOd15 := Lib.hid (HOd14.out.below hb)
            clear hcon hb HOd14 HVa_d14 HVb_d14 q00 q01 q0l q10 q11 q1l
            have q00 := HVa_d15.out.lit.cell (o := 0) rfl
            have q01 := HVa_d15.out.lit.cell (o := 1) rfl
            have q0l := HVa_d15.out.lit.lt
            have q10 := HVb_d15.out.lit.cell (o := 0) rfl
            have q11 := HVb_d15.out.lit.cell (o := 1) rfl
            have q1l := HVb_d15.out.lit.lt
            have hcon := one_own HOd15.out HSM.out e1 e2 e4 true HI.out HP.out
            go_wp2_with fail
            refine (show Calls Try.prog _ _ _ _ from hcon).mono ?_
            rintro e vd16 ⟨rfl, hb⟩
            have HVa_d16 := Lib.hid (HVa_d15.out.below hb)
            have HVb_d16 := Lib.hid (HVb_d15.out.below hb)
            have HOd16 := Lib.hid (HOd15.out.below hb)
            clear hcon hb HOd15 HVa_d15 HVb_d15 q00 q01 q0l q10 q11 q1l
            by_cases he : T.err e4 = 0
            · skip
              have HU : Hid ((T.aboT e4).ownB e2 e4 = false ∧ (T.aboT e4).seesB e1 e2 e4 = false) := Lib.hid (own_gone HOK.out he e1 e2)
              have HUN : Hid ((T.aboT e4).n ≤ 1000) := Lib.hid (by have := HSM.out; unfold Tb.aboT; split <;> exact this)
              have q00 := HVa_d16.out.lit.cell (o := 0) rfl
              have q01 := HVa_d16.out.lit.cell (o := 1) rfl
              have q0l := HVa_d16.out.lit.lt
              have q10 := HVb_d16.out.lit.cell (o := 0) rfl
              have q11 := HVb_d16.out.lit.cell (o := 1) rfl
              have q1l := HVb_d16.out.lit.lt
              have hcon := one_abort HOd16.out HSM.out e4 0 HI.out he rfl
              go_wp2_with fail
              refine (show Calls Try.prog _ _ _ _ from hcon).mono ?_
              rintro e vdy1 ⟨Fdy1, rfl, hdy1, ht, hF⟩
              have HVa_dy1 := Lib.hid (HVa_d16.out.next ht hF)
              have HVb_dy1 := Lib.hid (HVb_d16.out.next ht hF)
              have HOdy1 := Lib.hid hdy1
              clear hcon hdy1 ht hF HOd16 HVa_d16 HVb_d16 q00 q01 q0l q10 q11 q1l
              have q00 := HVa_dy1.out.lit.cell (o := 0) rfl
              have q01 := HVa_dy1.out.lit.cell (o := 1) rfl
              have q0l := HVa_dy1.out.lit.lt
              have q10 := HVb_dy1.out.lit.cell (o := 0) rfl
              have q11 := HVb_dy1.out.lit.cell (o := 1) rfl
              have q1l := HVb_dy1.out.lit.lt
              have hcon := one_own HOdy1.out HUN.out e1 e2 e4 false HI.out HU.out.1
              go_wp2_with fail
              refine (show Calls Try.prog _ _ _ _ from hcon).mono ?_
              rintro e vdy2 ⟨rfl, hb⟩
              have HVa_dy2 := Lib.hid (HVa_dy1.out.below hb)
              have HVb_dy2 := Lib.hid (HVb_dy1.out.below hb)
              have HOdy2 := Lib.hid (HOdy1.out.below hb)
              clear hcon hb HOdy1 HVa_dy1 HVb_dy1 q00 q01 q0l q10 q11 q1l
              have q00 := HVa_dy2.out.lit.cell (o := 0) rfl
              have q01 := HVa_dy2.out.lit.cell (o := 1) rfl
              have q0l := HVa_dy2.out.lit.lt
              have q10 := HVb_dy2.out.lit.cell (o := 0) rfl
              have q11 := HVb_dy2.out.lit.cell (o := 1) rfl
              have q1l := HVb_dy2.out.lit.lt
              have hcon := one_sees HOdy2.out HUN.out e1 e2 e4 false HI.out HU.out.2
              go_wp2_with fail
              refine (show Calls Try.prog _ _ _ _ from hcon).mono ?_
              rintro e vdy3 ⟨rfl, hb⟩
              have HVa_dy3 := Lib.hid (HVa_dy2.out.below hb)
              have HVb_dy3 := Lib.hid (HVb_dy2.out.below hb)
              have HOdy3 := Lib.hid (HOdy2.out.below hb)
              clear hcon hb HOdy2 HVa_dy2 HVb_dy2 q00 q01 q0l q10 q11 q1l
              have q00 := HVa_dy3.out.lit.cell (o := 0) rfl
              have q01 := HVa_dy3.out.lit.cell (o := 1) rfl
              have q0l := HVa_dy3.out.lit.lt
              have q10 := HVb_dy3.out.lit.cell (o := 0) rfl
              have q11 := HVb_dy3.out.lit.cell (o := 1) rfl
              have q1l := HVb_dy3.out.lit.lt
              go_wp2_with fail
              go_ret
              exact ⟨rfl, HOdy3.out.bel⟩
            · skip
              obtain ⟨y, hy⟩ : ∃ y, T.err e4 = y := ⟨_, rfl⟩
              have HYE := Lib.hid hy
              rw [hy] at he
              have heb : (y == 0) = false := by simpa using he
              clear hy he
              have q00 := HVa_d16.out.lit.cell (o := 0) rfl
              have q01 := HVa_d16.out.lit.cell (o := 1) rfl
              have q0l := HVa_d16.out.lit.lt
              have q10 := HVb_d16.out.lit.cell (o := 0) rfl
              have q11 := HVb_d16.out.lit.cell (o := 1) rfl
              have q1l := HVb_d16.out.lit.lt
              have hcon := one_abort (T' := T) HOd16.out HSM.out e4 y HI.out HYE.out (by unfold Tb.aboT; rw [HYE.out]; exact if_neg (by simpa using heb))
              go_wp2_with fail
              refine (show Calls Try.prog _ _ _ _ from hcon).mono ?_
              rintro e vdn1 ⟨Fdn1, rfl, hdn1, ht, hF⟩
              have HVa_dn1 := Lib.hid (HVa_d16.out.next ht hF)
              have HVb_dn1 := Lib.hid (HVb_d16.out.next ht hF)
              have HOdn1 := Lib.hid hdn1
              clear hcon hdn1 ht hF HOd16 HVa_d16 HVb_d16 q00 q01 q0l q10 q11 q1l
              have q00 := HVa_dn1.out.lit.cell (o := 0) rfl
              have q01 := HVa_dn1.out.lit.cell (o := 1) rfl
              have q0l := HVa_dn1.out.lit.lt
              have q10 := HVb_dn1.out.lit.cell (o := 0) rfl
              have q11 := HVb_dn1.out.lit.cell (o := 1) rfl
              have q1l := HVb_dn1.out.lit.lt
              go_wp2_with fail
              go_ret
              exact ⟨rfl, HOdn1.out.bel⟩
      · skip
        have hnb : (n == 0) = false := by simp; omega
        have q00 := HVa.out.lit.cell (o := 0) rfl
        have q01 := HVa.out.lit.cell (o := 1) rfl
        have q0l := HVa.out.lit.lt
        have q10 := HVb.out.lit.cell (o := 0) rfl
        have q11 := HVb.out.lit.cell (o := 1) rfl
        have q1l := HVb.out.lit.lt
        have hcon := one_own HO0.out HSM.out e1 e2 e4 false HI.out HP.out
        go_wp2_with fail
        refine (show Calls Try.prog _ _ _ _ from hcon).mono ?_
        rintro e ve1 ⟨rfl, hb⟩
        have HVa_e1 := Lib.hid (HVa.out.below hb)
        have HVb_e1 := Lib.hid (HVb.out.below hb)
        have HOe1 := Lib.hid (HO0.out.below hb)
        clear hcon hb HO0 HVa HVb q00 q01 q0l q10 q11 q1l
        have q00 := HVa_e1.out.lit.cell (o := 0) rfl
        have q01 := HVa_e1.out.lit.cell (o := 1) rfl
        have q0l := HVa_e1.out.lit.lt
        have q10 := HVb_e1.out.lit.cell (o := 0) rfl
        have q11 := HVb_e1.out.lit.cell (o := 1) rfl
        have q1l := HVb_e1.out.lit.lt
        have hcon := one_sees HOe1.out HSM.out e1 e2 e4 true HI.out HS1.out
        go_wp2_with fail
        refine (show Calls Try.prog _ _ _ _ from hcon).mono ?_
        rintro e ve2 ⟨rfl, hb⟩
        have HVa_e2 := Lib.hid (HVa_e1.out.below hb)
        have HVb_e2 := Lib.hid (HVb_e1.out.below hb)
        have HOe2 := Lib.hid (HOe1.out.below hb)
        clear hcon hb HOe1 HVa_e1 HVb_e1 q00 q01 q0l q10 q11 q1l
        have q00 := HVa_e2.out.lit.cell (o := 0) rfl
        have q01 := HVa_e2.out.lit.cell (o := 1) rfl
        have q0l := HVa_e2.out.lit.lt
        have q10 := HVb_e2.out.lit.cell (o := 0) rfl
        have q11 := HVb_e2.out.lit.cell (o := 1) rfl
        have q1l := HVb_e2.out.lit.lt
        have hcon := one_later HOe2.out HSM.out e1 e2 e4 false HI.out HL1.out
        go_wp2_with fail
        refine (show Calls Try.prog _ _ _ _ from hcon).mono ?_
        rintro e ve3 ⟨rfl, hb⟩
        have HVa_e3 := Lib.hid (HVa_e2.out.below hb)
        have HVb_e3 := Lib.hid (HVb_e2.out.below hb)
        have HOe3 := Lib.hid (HOe2.out.below hb)
        clear hcon hb HOe2 HVa_e2 HVb_e2 q00 q01 q0l q10 q11 q1l
        have q00 := HVa_e3.out.lit.cell (o := 0) rfl
        have q01 := HVa_e3.out.lit.cell (o := 1) rfl
        have q0l := HVa_e3.out.lit.lt
        have q10 := HVb_e3.out.lit.cell (o := 0) rfl
        have q11 := HVb_e3.out.lit.cell (o := 1) rfl
        have q1l := HVb_e3.out.lit.lt
        have hcon := one_counts HOe3.out e4 true HI.out HC.out
        go_wp2_with fail
        refine (show Calls Try.prog _ _ _ _ from hcon).mono ?_
        rintro e ve4 ⟨rfl, hb⟩
        have HVa_e4 := Lib.hid (HVa_e3.out.below hb)
        have HVb_e4 := Lib.hid (HVb_e3.out.below hb)
        have HOe4 := Lib.hid (HOe3.out.below hb)
        clear hcon hb HOe3 HVa_e3 HVb_e3 q00 q01 q0l q10 q11 q1l
        have q00 := HVa_e4.out.lit.cell (o := 0) rfl
        have q01 := HVa_e4.out.lit.cell (o := 1) rfl
        have q0l := HVa_e4.out.lit.lt
        have q10 := HVb_e4.out.lit.cell (o := 0) rfl
        have q11 := HVb_e4.out.lit.cell (o := 1) rfl
        have q1l := HVb_e4.out.lit.lt
        have hcon := one_counts HOe4.out e4 true HI.out HC.out
        go_wp2_with fail
        refine (show Calls Try.prog _ _ _ _ from hcon).mono ?_
        rintro e ve5 ⟨rfl, hb⟩
        have HVa_e5 := Lib.hid (HVa_e4.out.below hb)
        have HVb_e5 := Lib.hid (HVb_e4.out.below hb)
        have HOe5 := Lib.hid (HOe4.out.below hb)
        clear hcon hb HOe4 HVa_e4 HVb_e4 q00 q01 q0l q10 q11 q1l
        have q00 := HVa_e5.out.lit.cell (o := 0) rfl
        have q01 := HVa_e5.out.lit.cell (o := 1) rfl
        have q0l := HVa_e5.out.lit.lt
        have q10 := HVb_e5.out.lit.cell (o := 0) rfl
        have q11 := HVb_e5.out.lit.cell (o := 1) rfl
        have q1l := HVb_e5.out.lit.lt
        have hcon := one_top HOe5.out e4 tp HI.out HTP.out
        go_wp2_with fail
        refine (show Calls Try.prog _ _ _ _ from hcon).mono ?_
        rintro e ve6 ⟨rfl, hb⟩
        have HVa_e6 := Lib.hid (HVa_e5.out.below hb)
        have HVb_e6 := Lib.hid (HVb_e5.out.below hb)
        have HOe6 := Lib.hid (HOe5.out.below hb)
        clear hcon hb HOe5 HVa_e5 HVb_e5 q00 q01 q0l q10 q11 q1l
        have q00 := HVa_e6.out.lit.cell (o := 0) rfl
        have q01 := HVa_e6.out.lit.cell (o := 1) rfl
        have q0l := HVa_e6.out.lit.lt
        have q10 := HVb_e6.out.lit.cell (o := 0) rfl
        have q11 := HVb_e6.out.lit.cell (o := 1) rfl
        have q1l := HVb_e6.out.lit.lt
        have hcon := one_number HOe6.out HSM.out tp n HTI.out HNN.out
        go_wp2_with fail
        refine (show Calls Try.prog _ _ _ _ from hcon).mono ?_
        rintro e ve7 ⟨rfl, hb⟩
        have HVa_e7 := Lib.hid (HVa_e6.out.below hb)
        have HVb_e7 := Lib.hid (HVb_e6.out.below hb)
        have HOe7 := Lib.hid (HOe6.out.below hb)
        clear hcon hb HOe6 HVa_e6 HVb_e6 q00 q01 q0l q10 q11 q1l
        have q00 := HVa_e7.out.lit.cell (o := 0) rfl
        have q01 := HVa_e7.out.lit.cell (o := 1) rfl
        have q0l := HVa_e7.out.lit.lt
        have q10 := HVb_e7.out.lit.cell (o := 0) rfl
        have q11 := HVb_e7.out.lit.cell (o := 1) rfl
        have q1l := HVb_e7.out.lit.lt
        have hcon := one_later HOe7.out HSM.out e1 e2 e4 false HI.out HL1.out
        go_wp2_with fail
        refine (show Calls Try.prog _ _ _ _ from hcon).mono ?_
        rintro e ve8 ⟨rfl, hb⟩
        have HVa_e8 := Lib.hid (HVa_e7.out.below hb)
        have HVb_e8 := Lib.hid (HVb_e7.out.below hb)
        have HOe8 := Lib.hid (HOe7.out.below hb)
        clear hcon hb HOe7 HVa_e7 HVb_e7 q00 q01 q0l q10 q11 q1l
        have q00 := HVa_e8.out.lit.cell (o := 0) rfl
        have q01 := HVa_e8.out.lit.cell (o := 1) rfl
        have q0l := HVa_e8.out.lit.lt
        have q10 := HVb_e8.out.lit.cell (o := 0) rfl
        have q11 := HVb_e8.out.lit.cell (o := 1) rfl
        have q1l := HVb_e8.out.lit.lt
        have hcon := one_sees HOe8.out HSM.out e1 e2 e4 true HI.out HS1.out
        go_wp2_with fail
        refine (show Calls Try.prog _ _ _ _ from hcon).mono ?_
        rintro e ve9 ⟨rfl, hb⟩
        have HVa_e9 := Lib.hid (HVa_e8.out.below hb)
        have HVb_e9 := Lib.hid (HVb_e8.out.below hb)
        have HOe9 := Lib.hid (HOe8.out.below hb)
        clear hcon hb HOe8 HVa_e8 HVb_e8 q00 q01 q0l q10 q11 q1l
        have q00 := HVa_e9.out.lit.cell (o := 0) rfl
        have q01 := HVa_e9.out.lit.cell (o := 1) rfl
        have q0l := HVa_e9.out.lit.lt
        have q10 := HVb_e9.out.lit.cell (o := 0) rfl
        have q11 := HVb_e9.out.lit.cell (o := 1) rfl
        have q1l := HVb_e9.out.lit.lt
        have hcon := one_own HOe9.out HSM.out e1 e2 e4 false HI.out HP.out
        go_wp2_with fail
        refine (show Calls Try.prog _ _ _ _ from hcon).mono ?_
        rintro e ve10 ⟨rfl, hb⟩
        have HVa_e10 := Lib.hid (HVa_e9.out.below hb)
        have HVb_e10 := Lib.hid (HVb_e9.out.below hb)
        have HOe10 := Lib.hid (HOe9.out.below hb)
        clear hcon hb HOe9 HVa_e9 HVb_e9 q00 q01 q0l q10 q11 q1l
        have q00 := HVa_e10.out.lit.cell (o := 0) rfl
        have q01 := HVa_e10.out.lit.cell (o := 1) rfl
        have q0l := HVa_e10.out.lit.lt
        have q10 := HVb_e10.out.lit.cell (o := 0) rfl
        have q11 := HVb_e10.out.lit.cell (o := 1) rfl
        have q1l := HVb_e10.out.lit.lt
        have hcon := one_own HOe10.out HSM.out e1 e2 e4 false HI.out HP.out
        go_wp2_with fail
        refine (show Calls Try.prog _ _ _ _ from hcon).mono ?_
        rintro e ve11 ⟨rfl, hb⟩
        have HVa_e11 := Lib.hid (HVa_e10.out.below hb)
        have HVb_e11 := Lib.hid (HVb_e10.out.below hb)
        have HOe11 := Lib.hid (HOe10.out.below hb)
        clear hcon hb HOe10 HVa_e10 HVb_e10 q00 q01 q0l q10 q11 q1l
        have q00 := HVa_e11.out.lit.cell (o := 0) rfl
        have q01 := HVa_e11.out.lit.cell (o := 1) rfl
        have q0l := HVa_e11.out.lit.lt
        have q10 := HVb_e11.out.lit.cell (o := 0) rfl
        have q11 := HVb_e11.out.lit.cell (o := 1) rfl
        have q1l := HVb_e11.out.lit.lt
        go_wp2_with fail
        go_ret
        exact ⟨rfl, HOe11.out.bel⟩
      · skip
        have hnb : (n == 0) = false := by simp; omega
        have q00 := HVa.out.lit.cell (o := 0) rfl
        have q01 := HVa.out.lit.cell (o := 1) rfl
        have q0l := HVa.out.lit.lt
        have q10 := HVb.out.lit.cell (o := 0) rfl
        have q11 := HVb.out.lit.cell (o := 1) rfl
        have q1l := HVb.out.lit.lt
        have hcon := one_own HO0.out HSM.out e1 e2 e4 false HI.out HP.out
        go_wp2_with fail
        refine (show Calls Try.prog _ _ _ _ from hcon).mono ?_
        rintro e vf1 ⟨rfl, hb⟩
        have HVa_f1 := Lib.hid (HVa.out.below hb)
        have HVb_f1 := Lib.hid (HVb.out.below hb)
        have HOf1 := Lib.hid (HO0.out.below hb)
        clear hcon hb HO0 HVa HVb q00 q01 q0l q10 q11 q1l
        have q00 := HVa_f1.out.lit.cell (o := 0) rfl
        have q01 := HVa_f1.out.lit.cell (o := 1) rfl
        have q0l := HVa_f1.out.lit.lt
        have q10 := HVb_f1.out.lit.cell (o := 0) rfl
        have q11 := HVb_f1.out.lit.cell (o := 1) rfl
        have q1l := HVb_f1.out.lit.lt
        have hcon := one_sees HOf1.out HSM.out e1 e2 e4 false HI.out HS1.out
        go_wp2_with fail
        refine (show Calls Try.prog _ _ _ _ from hcon).mono ?_
        rintro e vf2 ⟨rfl, hb⟩
        have HVa_f2 := Lib.hid (HVa_f1.out.below hb)
        have HVb_f2 := Lib.hid (HVb_f1.out.below hb)
        have HOf2 := Lib.hid (HOf1.out.below hb)
        clear hcon hb HOf1 HVa_f1 HVb_f1 q00 q01 q0l q10 q11 q1l
        have q00 := HVa_f2.out.lit.cell (o := 0) rfl
        have q01 := HVa_f2.out.lit.cell (o := 1) rfl
        have q0l := HVa_f2.out.lit.lt
        have q10 := HVb_f2.out.lit.cell (o := 0) rfl
        have q11 := HVb_f2.out.lit.cell (o := 1) rfl
        have q1l := HVb_f2.out.lit.lt
        have hcon := one_counts HOf2.out e4 true HI.out HC.out
        go_wp2_with fail
        refine (show Calls Try.prog _ _ _ _ from hcon).mono ?_
        rintro e vf3 ⟨rfl, hb⟩
        have HVa_f3 := Lib.hid (HVa_f2.out.below hb)
        have HVb_f3 := Lib.hid (HVb_f2.out.below hb)
        have HOf3 := Lib.hid (HOf2.out.below hb)
        clear hcon hb HOf2 HVa_f2 HVb_f2 q00 q01 q0l q10 q11 q1l
        have q00 := HVa_f3.out.lit.cell (o := 0) rfl
        have q01 := HVa_f3.out.lit.cell (o := 1) rfl
        have q0l := HVa_f3.out.lit.lt
        have q10 := HVb_f3.out.lit.cell (o := 0) rfl
        have q11 := HVb_f3.out.lit.cell (o := 1) rfl
        have q1l := HVb_f3.out.lit.lt
        have hcon := one_top HOf3.out e4 tp HI.out HTP.out
        go_wp2_with fail
        refine (show Calls Try.prog _ _ _ _ from hcon).mono ?_
        rintro e vf4 ⟨rfl, hb⟩
        have HVa_f4 := Lib.hid (HVa_f3.out.below hb)
        have HVb_f4 := Lib.hid (HVb_f3.out.below hb)
        have HOf4 := Lib.hid (HOf3.out.below hb)
        clear hcon hb HOf3 HVa_f3 HVb_f3 q00 q01 q0l q10 q11 q1l
        have q00 := HVa_f4.out.lit.cell (o := 0) rfl
        have q01 := HVa_f4.out.lit.cell (o := 1) rfl
        have q0l := HVa_f4.out.lit.lt
        have q10 := HVb_f4.out.lit.cell (o := 0) rfl
        have q11 := HVb_f4.out.lit.cell (o := 1) rfl
        have q1l := HVb_f4.out.lit.lt
        have hcon := one_number HOf4.out HSM.out tp n HTI.out HNN.out
        go_wp2_with fail
        refine (show Calls Try.prog _ _ _ _ from hcon).mono ?_
        rintro e vf5 ⟨rfl, hb⟩
        have HVa_f5 := Lib.hid (HVa_f4.out.below hb)
        have HVb_f5 := Lib.hid (HVb_f4.out.below hb)
        have HOf5 := Lib.hid (HOf4.out.below hb)
        clear hcon hb HOf4 HVa_f4 HVb_f4 q00 q01 q0l q10 q11 q1l
        have q00 := HVa_f5.out.lit.cell (o := 0) rfl
        have q01 := HVa_f5.out.lit.cell (o := 1) rfl
        have q0l := HVa_f5.out.lit.lt
        have q10 := HVb_f5.out.lit.cell (o := 0) rfl
        have q11 := HVb_f5.out.lit.cell (o := 1) rfl
        have q1l := HVb_f5.out.lit.lt
        have hcon := one_later HOf5.out HSM.out e1 e2 e4 true HI.out HL1.out
        go_wp2_with fail
        refine (show Calls Try.prog _ _ _ _ from hcon).mono ?_
        rintro e vf6 ⟨rfl, hb⟩
        have HVa_f6 := Lib.hid (HVa_f5.out.below hb)
        have HVb_f6 := Lib.hid (HVb_f5.out.below hb)
        have HOf6 := Lib.hid (HOf5.out.below hb)
        clear hcon hb HOf5 HVa_f5 HVb_f5 q00 q01 q0l q10 q11 q1l
        have q00 := HVa_f6.out.lit.cell (o := 0) rfl
        have q01 := HVa_f6.out.lit.cell (o := 1) rfl
        have q0l := HVa_f6.out.lit.lt
        have q10 := HVb_f6.out.lit.cell (o := 0) rfl
        have q11 := HVb_f6.out.lit.cell (o := 1) rfl
        have q1l := HVb_f6.out.lit.lt
        have hcon := one_own HOf6.out HSM.out e1 e2 e4 false HI.out HP.out
        go_wp2_with fail
        refine (show Calls Try.prog _ _ _ _ from hcon).mono ?_
        rintro e vf7 ⟨rfl, hb⟩
        have HVa_f7 := Lib.hid (HVa_f6.out.below hb)
        have HVb_f7 := Lib.hid (HVb_f6.out.below hb)
        have HOf7 := Lib.hid (HOf6.out.below hb)
        clear hcon hb HOf6 HVa_f6 HVb_f6 q00 q01 q0l q10 q11 q1l
        have q00 := HVa_f7.out.lit.cell (o := 0) rfl
        have q01 := HVa_f7.out.lit.cell (o := 1) rfl
        have q0l := HVa_f7.out.lit.lt
        have q10 := HVb_f7.out.lit.cell (o := 0) rfl
        have q11 := HVb_f7.out.lit.cell (o := 1) rfl
        have q1l := HVb_f7.out.lit.lt
        go_wp2_with fail
        go_ret
        exact ⟨rfl, HOf7.out.bel⟩
      · skip
        have q00 := HVa.out.lit.cell (o := 0) rfl
        have q01 := HVa.out.lit.cell (o := 1) rfl
        have q0l := HVa.out.lit.lt
        have q10 := HVb.out.lit.cell (o := 0) rfl
        have q11 := HVb.out.lit.cell (o := 1) rfl
        have q1l := HVb.out.lit.lt
        have hcon := one_own HO0.out HSM.out e1 e2 e4 false HI.out HP.out
        go_wp2_with fail
        refine (show Calls Try.prog _ _ _ _ from hcon).mono ?_
        rintro e vg1 ⟨rfl, hb⟩
        have HVa_g1 := Lib.hid (HVa.out.below hb)
        have HVb_g1 := Lib.hid (HVb.out.below hb)
        have HOg1 := Lib.hid (HO0.out.below hb)
        clear hcon hb HO0 HVa HVb q00 q01 q0l q10 q11 q1l
        have q00 := HVa_g1.out.lit.cell (o := 0) rfl
        have q01 := HVa_g1.out.lit.cell (o := 1) rfl
        have q0l := HVa_g1.out.lit.lt
        have q10 := HVb_g1.out.lit.cell (o := 0) rfl
        have q11 := HVb_g1.out.lit.cell (o := 1) rfl
        have q1l := HVb_g1.out.lit.lt
        have hcon := one_sees HOg1.out HSM.out e1 e2 e4 false HI.out HS1.out
        go_wp2_with fail
        refine (show Calls Try.prog _ _ _ _ from hcon).mono ?_
        rintro e vg2 ⟨rfl, hb⟩
        have HVa_g2 := Lib.hid (HVa_g1.out.below hb)
        have HVb_g2 := Lib.hid (HVb_g1.out.below hb)
        have HOg2 := Lib.hid (HOg1.out.below hb)
        clear hcon hb HOg1 HVa_g1 HVb_g1 q00 q01 q0l q10 q11 q1l
        have q00 := HVa_g2.out.lit.cell (o := 0) rfl
        have q01 := HVa_g2.out.lit.cell (o := 1) rfl
        have q0l := HVa_g2.out.lit.lt
        have q10 := HVb_g2.out.lit.cell (o := 0) rfl
        have q11 := HVb_g2.out.lit.cell (o := 1) rfl
        have q1l := HVb_g2.out.lit.lt
        have hcon := one_counts HOg2.out e4 true HI.out HC.out
        go_wp2_with fail
        refine (show Calls Try.prog _ _ _ _ from hcon).mono ?_
        rintro e vg3 ⟨rfl, hb⟩
        have HVa_g3 := Lib.hid (HVa_g2.out.below hb)
        have HVb_g3 := Lib.hid (HVb_g2.out.below hb)
        have HOg3 := Lib.hid (HOg2.out.below hb)
        clear hcon hb HOg2 HVa_g2 HVb_g2 q00 q01 q0l q10 q11 q1l
        have q00 := HVa_g3.out.lit.cell (o := 0) rfl
        have q01 := HVa_g3.out.lit.cell (o := 1) rfl
        have q0l := HVa_g3.out.lit.lt
        have q10 := HVb_g3.out.lit.cell (o := 0) rfl
        have q11 := HVb_g3.out.lit.cell (o := 1) rfl
        have q1l := HVb_g3.out.lit.lt
        have hcon := one_top HOg3.out e4 tp HI.out HTP.out
        go_wp2_with fail
        refine (show Calls Try.prog _ _ _ _ from hcon).mono ?_
        rintro e vg4 ⟨rfl, hb⟩
        have HVa_g4 := Lib.hid (HVa_g3.out.below hb)
        have HVb_g4 := Lib.hid (HVb_g3.out.below hb)
        have HOg4 := Lib.hid (HOg3.out.below hb)
        clear hcon hb HOg3 HVa_g3 HVb_g3 q00 q01 q0l q10 q11 q1l
        have q00 := HVa_g4.out.lit.cell (o := 0) rfl
        have q01 := HVa_g4.out.lit.cell (o := 1) rfl
        have q0l := HVa_g4.out.lit.lt
        have q10 := HVb_g4.out.lit.cell (o := 0) rfl
        have q11 := HVb_g4.out.lit.cell (o := 1) rfl
        have q1l := HVb_g4.out.lit.lt
        have hcon := one_number HOg4.out HSM.out tp 0 HTI.out HNN.out
        go_wp2_with fail
        refine (show Calls Try.prog _ _ _ _ from hcon).mono ?_
        rintro e vg5 ⟨rfl, hb⟩
        have HVa_g5 := Lib.hid (HVa_g4.out.below hb)
        have HVb_g5 := Lib.hid (HVb_g4.out.below hb)
        have HOg5 := Lib.hid (HOg4.out.below hb)
        clear hcon hb HOg4 HVa_g4 HVb_g4 q00 q01 q0l q10 q11 q1l
        have q00 := HVa_g5.out.lit.cell (o := 0) rfl
        have q01 := HVa_g5.out.lit.cell (o := 1) rfl
        have q0l := HVa_g5.out.lit.lt
        have q10 := HVb_g5.out.lit.cell (o := 0) rfl
        have q11 := HVb_g5.out.lit.cell (o := 1) rfl
        have q1l := HVb_g5.out.lit.lt
        have hcon := one_later HOg5.out HSM.out e1 e2 e4 false HI.out HL1.out
        go_wp2_with fail
        refine (show Calls Try.prog _ _ _ _ from hcon).mono ?_
        rintro e vg6 ⟨rfl, hb⟩
        have HVa_g6 := Lib.hid (HVa_g5.out.below hb)
        have HVb_g6 := Lib.hid (HVb_g5.out.below hb)
        have HOg6 := Lib.hid (HOg5.out.below hb)
        clear hcon hb HOg5 HVa_g5 HVb_g5 q00 q01 q0l q10 q11 q1l
        have q00 := HVa_g6.out.lit.cell (o := 0) rfl
        have q01 := HVa_g6.out.lit.cell (o := 1) rfl
        have q0l := HVa_g6.out.lit.lt
        have q10 := HVb_g6.out.lit.cell (o := 0) rfl
        have q11 := HVb_g6.out.lit.cell (o := 1) rfl
        have q1l := HVb_g6.out.lit.lt
        have hcon := one_sees HOg6.out HSM.out e1 e2 e4 false HI.out HS1.out
        go_wp2_with fail
        refine (show Calls Try.prog _ _ _ _ from hcon).mono ?_
        rintro e vg7 ⟨rfl, hb⟩
        have HVa_g7 := Lib.hid (HVa_g6.out.below hb)
        have HVb_g7 := Lib.hid (HVb_g6.out.below hb)
        have HOg7 := Lib.hid (HOg6.out.below hb)
        clear hcon hb HOg6 HVa_g6 HVb_g6 q00 q01 q0l q10 q11 q1l
        have q00 := HVa_g7.out.lit.cell (o := 0) rfl
        have q01 := HVa_g7.out.lit.cell (o := 1) rfl
        have q0l := HVa_g7.out.lit.lt
        have q10 := HVb_g7.out.lit.cell (o := 0) rfl
        have q11 := HVb_g7.out.lit.cell (o := 1) rfl
        have q1l := HVb_g7.out.lit.lt
        have hcon := one_own HOg7.out HSM.out e1 e2 e4 false HI.out HP.out
        go_wp2_with fail
        refine (show Calls Try.prog _ _ _ _ from hcon).mono ?_
        rintro e vg8 ⟨rfl, hb⟩
        have HVa_g8 := Lib.hid (HVa_g7.out.below hb)
        have HVb_g8 := Lib.hid (HVb_g7.out.below hb)
        have HOg8 := Lib.hid (HOg7.out.below hb)
        clear hcon hb HOg7 HVa_g7 HVb_g7 q00 q01 q0l q10 q11 q1l
        have q00 := HVa_g8.out.lit.cell (o := 0) rfl
        have q01 := HVa_g8.out.lit.cell (o := 1) rfl
        have q0l := HVa_g8.out.lit.lt
        have q10 := HVb_g8.out.lit.cell (o := 0) rfl
        have q11 := HVb_g8.out.lit.cell (o := 1) rfl
        have q1l := HVb_g8.out.lit.lt
        go_wp2_with fail
        go_ret
        exact ⟨rfl, HOg8.out.bel⟩
      · skip
        have q00 := HVa.out.lit.cell (o := 0) rfl
        have q01 := HVa.out.lit.cell (o := 1) rfl
        have q0l := HVa.out.lit.lt
        have q10 := HVb.out.lit.cell (o := 0) rfl
        have q11 := HVb.out.lit.cell (o := 1) rfl
        have q1l := HVb.out.lit.lt
        have hcon := one_own HO0.out HSM.out e1 e2 e4 false HI.out HP.out
        go_wp2_with fail
        refine (show Calls Try.prog _ _ _ _ from hcon).mono ?_
        rintro e vh1 ⟨rfl, hb⟩
        have HVa_h1 := Lib.hid (HVa.out.below hb)
        have HVb_h1 := Lib.hid (HVb.out.below hb)
        have HOh1 := Lib.hid (HO0.out.below hb)
        clear hcon hb HO0 HVa HVb q00 q01 q0l q10 q11 q1l
        have q00 := HVa_h1.out.lit.cell (o := 0) rfl
        have q01 := HVa_h1.out.lit.cell (o := 1) rfl
        have q0l := HVa_h1.out.lit.lt
        have q10 := HVb_h1.out.lit.cell (o := 0) rfl
        have q11 := HVb_h1.out.lit.cell (o := 1) rfl
        have q1l := HVb_h1.out.lit.lt
        have hcon := one_sees HOh1.out HSM.out e1 e2 e4 false HI.out HS1.out
        go_wp2_with fail
        refine (show Calls Try.prog _ _ _ _ from hcon).mono ?_
        rintro e vh2 ⟨rfl, hb⟩
        have HVa_h2 := Lib.hid (HVa_h1.out.below hb)
        have HVb_h2 := Lib.hid (HVb_h1.out.below hb)
        have HOh2 := Lib.hid (HOh1.out.below hb)
        clear hcon hb HOh1 HVa_h1 HVb_h1 q00 q01 q0l q10 q11 q1l
        have q00 := HVa_h2.out.lit.cell (o := 0) rfl
        have q01 := HVa_h2.out.lit.cell (o := 1) rfl
        have q0l := HVa_h2.out.lit.lt
        have q10 := HVb_h2.out.lit.cell (o := 0) rfl
        have q11 := HVb_h2.out.lit.cell (o := 1) rfl
        have q1l := HVb_h2.out.lit.lt
        have hcon := one_counts HOh2.out e4 false HI.out HC.out
        go_wp2_with fail
        refine (show Calls Try.prog _ _ _ _ from hcon).mono ?_
        rintro e vh3 ⟨rfl, hb⟩
        have HVa_h3 := Lib.hid (HVa_h2.out.below hb)
        have HVb_h3 := Lib.hid (HVb_h2.out.below hb)
        have HOh3 := Lib.hid (HOh2.out.below hb)
        clear hcon hb HOh2 HVa_h2 HVb_h2 q00 q01 q0l q10 q11 q1l
        have q00 := HVa_h3.out.lit.cell (o := 0) rfl
        have q01 := HVa_h3.out.lit.cell (o := 1) rfl
        have q0l := HVa_h3.out.lit.lt
        have q10 := HVb_h3.out.lit.cell (o := 0) rfl
        have q11 := HVb_h3.out.lit.cell (o := 1) rfl
        have q1l := HVb_h3.out.lit.lt
        have hcon := one_later HOh3.out HSM.out e1 e2 e4 false HI.out HL1.out
        go_wp2_with fail
        refine (show Calls Try.prog _ _ _ _ from hcon).mono ?_
        rintro e vh4 ⟨rfl, hb⟩
        have HVa_h4 := Lib.hid (HVa_h3.out.below hb)
        have HVb_h4 := Lib.hid (HVb_h3.out.below hb)
        have HOh4 := Lib.hid (HOh3.out.below hb)
        clear hcon hb HOh3 HVa_h3 HVb_h3 q00 q01 q0l q10 q11 q1l
        have q00 := HVa_h4.out.lit.cell (o := 0) rfl
        have q01 := HVa_h4.out.lit.cell (o := 1) rfl
        have q0l := HVa_h4.out.lit.lt
        have q10 := HVb_h4.out.lit.cell (o := 0) rfl
        have q11 := HVb_h4.out.lit.cell (o := 1) rfl
        have q1l := HVb_h4.out.lit.lt
        have hcon := one_sees HOh4.out HSM.out e1 e2 e4 false HI.out HS1.out
        go_wp2_with fail
        refine (show Calls Try.prog _ _ _ _ from hcon).mono ?_
        rintro e vh5 ⟨rfl, hb⟩
        have HVa_h5 := Lib.hid (HVa_h4.out.below hb)
        have HVb_h5 := Lib.hid (HVb_h4.out.below hb)
        have HOh5 := Lib.hid (HOh4.out.below hb)
        clear hcon hb HOh4 HVa_h4 HVb_h4 q00 q01 q0l q10 q11 q1l
        have q00 := HVa_h5.out.lit.cell (o := 0) rfl
        have q01 := HVa_h5.out.lit.cell (o := 1) rfl
        have q0l := HVa_h5.out.lit.lt
        have q10 := HVb_h5.out.lit.cell (o := 0) rfl
        have q11 := HVb_h5.out.lit.cell (o := 1) rfl
        have q1l := HVb_h5.out.lit.lt
        have hcon := one_own HOh5.out HSM.out e1 e2 e4 false HI.out HP.out
        go_wp2_with fail
        refine (show Calls Try.prog _ _ _ _ from hcon).mono ?_
        rintro e vh6 ⟨rfl, hb⟩
        have HVa_h6 := Lib.hid (HVa_h5.out.below hb)
        have HVb_h6 := Lib.hid (HVb_h5.out.below hb)
        have HOh6 := Lib.hid (HOh5.out.below hb)
        clear hcon hb HOh5 HVa_h5 HVb_h5 q00 q01 q0l q10 q11 q1l
        have q00 := HVa_h6.out.lit.cell (o := 0) rfl
        have q01 := HVa_h6.out.lit.cell (o := 1) rfl
        have q0l := HVa_h6.out.lit.lt
        have q10 := HVb_h6.out.lit.cell (o := 0) rfl
        have q11 := HVb_h6.out.lit.cell (o := 1) rfl
        have q1l := HVb_h6.out.lit.lt
        go_wp2_with fail
        go_ret
        exact ⟨rfl, HOh6.out.bel⟩

set_option maxRecDepth 100000 in
set_option maxHeartbeats 8000000 in
theorem own_law (a0 : Option Addr) (c0 n0 : Nat) (l0 : List Stp) (hn0 : l0.length = n0) (e1 e2 e3 e4 : Int) (hin1 : I64 e1) (hin2 : I64 e2) (hin3 : I64 e3) (hin4 : I64 e4) (w : World) (hs0 : SlSt w a0 c0 l0) :
    Calls Try.prog 7 #[.slice a0 n0 c0, .int .i64 e1, .int .i64 e2, .int .i64 e3, .int .i64 e4] w fun e w' => e = .returned (.bool true) ∧ Below w.heap.size w w' := by
  by_cases hz : n0 ≤ 200
  · exact own_main a0 c0 n0 l0 hn0 e1 e2 e3 e4 hin1 hin2 hin3 hin4 w hs0 hz
  · exact own_large a0 c0 n0 l0 hn0 e1 e2 e3 e4 hin1 hin2 hin3 hin4 w hs0 (by omega)

end Go.Proofs.Ytpdfknknnklioaa
