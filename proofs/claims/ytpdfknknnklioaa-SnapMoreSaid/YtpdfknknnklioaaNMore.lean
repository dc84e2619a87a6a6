/-
  The law SnapMore, walked.
-/
import Derived.Test.YtpdfknknnklioaaNAwake
namespace Go.Proofs.Ytpdfknknnklioaa
open Go.RowKit
set_option linter.unusedVariables false

/-- What is asked of one transaction by two viewers. -/
theorem more_math {T : Tb} (hok : T.Ok) (hn : T.n ≤ 1000) (a id : Int) (ha : 0 ≤ a) : ∃ (s1 s2 c : Bool) (tp n : Int), T.seesB a 0 id = s1 ∧ T.seesB (a + 1) 0 id = s2 ∧ T.cnt id = c ∧ T.g T.top id = tp ∧ I64 tp ∧ T.numI tp = n ∧
    ((s1 = true ∧ s2 = true ∧ c = true ∧ ¬ n = a + 1) ∨ (s1 = false ∧ s2 = true ∧ c = true ∧ n = a + 1) ∨ (s1 = false ∧ s2 = false ∧ c = true ∧ ¬ n = a + 1) ∨ (s1 = false ∧ s2 = false ∧ c = false)) := by
  refine ⟨_, _, _, _, _, rfl, rfl, rfl, rfl, g_i64 hok (by omega) id, rfl, ?_⟩
  unfold Tb.seesB Tb.ownB Tb.reachB
  cases hc : T.cnt id with
  | false =>
    have hn0 : T.numI id = 0 := by unfold Tb.numI; rw [hc]; rfl
    rw [hn0]
    simp
  | true =>
    rw [num_top hok hc]
    have ht := cnt_top hok hc
    have hz : decide (T.g T.top id = 0) = false := decide_eq_false (by omega)
    rw [hz]
    obtain ⟨n, hn'⟩ : ∃ n, T.numI id = n := ⟨_, rfl⟩
    rw [hn']
    simp only [Bool.and_false, Bool.false_or]
    by_cases h0 : 0 < n
    · rw [decide_eq_true h0]
      by_cases h1 : n ≤ a
      · rw [decide_eq_true h1, decide_eq_true (show n ≤ a + 1 by omega)]
        exact .inl ⟨by simp, by simp, by simp, by omega⟩
      · rw [decide_eq_false h1]
        by_cases h2 : n ≤ a + 1
        · rw [decide_eq_true h2]
          exact .inr (.inl ⟨by simp, by simp, by simp, by omega⟩)
        · rw [decide_eq_false h2]
          exact .inr (.inr (.inl ⟨by simp, by simp, by simp, by omega⟩))
    · rw [decide_eq_false h0]
      exact .inr (.inr (.inl ⟨by simp, by simp, by simp, by omega⟩))

set_option maxRecDepth 100000 in
set_option maxHeartbeats 8000000 in
theorem more_large (a0 : Option Addr) (c0 n0 : Nat) (l0 : List Stp) (hn0 : l0.length = n0) (e1 e2 : Int) (hin1 : I64 e1) (hin2 : I64 e2) (w : World) (hs0 : SlSt w a0 c0 l0) (hz : 200 < n0) :
    Calls Try.prog 6 #[.slice a0 n0 c0, .int .i64 e1, .int .i64 e2] w fun e w' => e = .returned (.bool true) ∧ Below w.heap.size w w' := by
  have hz2 : (200 : Int) < n0 := by omega
  go_enter Try.func6, Try.ntmps6
  have hcon := awake_is w
  go_wp2_with fail
  refine (show Calls Try.prog _ _ _ _ from hcon).mono ?_
  rintro e w1 ⟨rfl, hb⟩
  have HB1 := Lib.hid hb
  clear hcon hb
  go_wp2_with fail
  go_ret
  exact ⟨rfl, HB1.out⟩

set_option maxRecDepth 100000 in
set_option maxHeartbeats 8000000 in
theorem more_below (a0 : Option Addr) (c0 n0 : Nat) (l0 : List Stp) (hn0 : l0.length = n0) (e1 e2 : Int) (hin1 : I64 e1) (hin2 : I64 e2) (w : World) (hs0 : SlSt w a0 c0 l0) (hz : n0 ≤ 200) (hy : e1 < 0) :
    Calls Try.prog 6 #[.slice a0 n0 c0, .int .i64 e1, .int .i64 e2] w fun e w' => e = .returned (.bool true) ∧ Below w.heap.size w w' := by
  have hz2 : ¬ (200 : Int) < n0 := by omega
  go_enter Try.func6, Try.ntmps6
  have hcon := awake_is w
  go_wp2_with fail
  refine (show Calls Try.prog _ _ _ _ from hcon).mono ?_
  rintro e w1 ⟨rfl, hb⟩
  have HB1 := Lib.hid hb
  clear hcon hb
  go_wp2_with fail
  go_ret
  exact ⟨rfl, HB1.out⟩

set_option maxRecDepth 100000 in
set_option maxHeartbeats 8000000 in
theorem more_above (a0 : Option Addr) (c0 n0 : Nat) (l0 : List Stp) (hn0 : l0.length = n0) (e1 e2 : Int) (hin1 : I64 e1) (hin2 : I64 e2) (w : World) (hs0 : SlSt w a0 c0 l0) (hz : n0 ≤ 200) (hy : 1000 < e1) :
    Calls Try.prog 6 #[.slice a0 n0 c0, .int .i64 e1, .int .i64 e2] w fun e w' => e = .returned (.bool true) ∧ Below w.heap.size w w' := by
  have hz2 : ¬ (200 : Int) < n0 := by omega
  have hy2 : ¬ e1 < 0 := by omega
  go_enter Try.func6, Try.ntmps6
  have hcon := awake_is w
  go_wp2_with fail
  refine (show Calls Try.prog _ _ _ _ from hcon).mono ?_
  rintro e w1 ⟨rfl, hb⟩
  have HB1 := Lib.hid hb
  clear hcon hb
  go_wp2_with fail
  go_ret
  exact ⟨rfl, HB1.out⟩

set_option maxRecDepth 100000 in
set_option maxHeartbeats 8000000 in
theorem more_main (a0 : Option Addr) (c0 n0 : Nat) (l0 : List Stp) (hn0 : l0.length = n0) (e1 e2 : Int) (hin1 : I64 e1) (hin2 : I64 e2) (w : World) (hs0 : SlSt w a0 c0 l0) (hz : n0 ≤ 200) (hy : 0 ≤ e1) (hx : e1 ≤ 1000) :
    Calls Try.prog 6 #[.slice a0 n0 c0, .int .i64 e1, .int .i64 e2] w fun e w' => e = .returned (.bool true) ∧ Below w.heap.size w w' := by
  have hz2 : ¬ (200 : Int) < n0 := by omega
  have hy2 : ¬ e1 < 0 := by omega
  have hx2 : ¬ 1000 < e1 := by omega
  have HZ := Lib.hid hz
  have HS := Lib.hid hs0
  have HN := Lib.hid hn0
  have HI := Lib.hid hin2
  have HY := Lib.hid (And.intro hy hx)
  clear hs0 hn0 hin1 hin2 hy hx
  go_enter Try.func6, Try.ntmps6
  have hcon := awake_is w
  go_wp2_with fail
  refine (show Calls Try.prog _ _ _ _ from hcon).mono ?_
  rintro e w1 ⟨rfl, hb⟩
  have HB1 := Lib.hid hb
  clear hcon hb
  have hcon := one_new (w0 := w) HB1.out
  go_wp2_with fail
  refine (show Calls Try.prog _ _ _ _ from hcon).mono ?_
  rintro e w2 ⟨t, F0, rfl, h2, -, -⟩
  have HO1 := Lib.hid h2
  clear hcon h2 HB1
  go_wp2_with fail
  go_loopg [8] n0 (fun gg sx wr => ∃ (i : Nat) (F : Nat → Prop), sx = .int .i64 i ∧ i ≤ n0 ∧ n0 - i ≤ gg ∧ Hid (One w wr t (Tb.new.run (l0.take i)) F))
  case atStart => exact ⟨0, _, rfl, Nat.zero_le _, by omega, HO1⟩
  case round =>
    obtain ⟨i, F, rfl, hin, hgg, HO⟩ := hrel
    clear HO1
    have hsm := run_small (i := i) (C := 200) Tb.new_small HN.out (by have := HZ.out; omega)
    by_cases hlt : i < n0
    · have hltz : (i : Int) < (n0 : Int) := by omega
      obtain ⟨st, hst⟩ := get_stp (l := l0) (i := i) (by rw [HN.out]; exact hlt)
      have hsl := HS.out.below HO.out.bel
      obtain ⟨sb, so, rfl, d0, d1, d2⟩ := at_st hsl hst
      have hwf := hsl.wf st (List.mem_of_getElem? hst)
      have hlc : n0 ≤ c0 := by have := hsl.lc; rw [HN.out] at this; exact this
      have hrun := run_take (T := Tb.new) hst
      have hcon := one_do HO.out (by have := hsm.1; omega) (by have := hsm.2; omega) st.kind st.id hwf.1 hwf.2 hrun.symm
      clear hwf hrun hst hsm hsl
      go_wp2_with fail
      refine (show Calls Try.prog _ _ _ _ from hcon).mono ?_
      rintro e w3 ⟨F', rfl, ho3, -, -⟩
      have HO3 := Lib.hid ho3
      clear hcon ho3 d0 d1 d2 HO
      go_wp2_with fail
      go_roundg (n0 - (i + 1))
      case measure => omega
      case rel => exact ⟨i + 1, F', by go_num, by omega, Nat.le_refl _, HO3⟩
    · have hltz : ¬ (i : Int) < (n0 : Int) := by omega
      obtain rfl : n0 = i := by omega
      have hfull : l0.take n0 = l0 := List.take_of_length_le (by rw [HN.out]; exact Nat.le_refl _)
      rw [hfull] at HO hsm
      clear hfull
      have hok := Tb.new_ok.run l0
      obtain ⟨T, hT⟩ : ∃ T, Tb.new.run l0 = T := ⟨_, rfl⟩
      have hnu := Tb.Nums.runs Tb.new_ok Tb.new_nums l0
      rw [hT] at HO hsm hok hnu
      have HSMS := Lib.hid hsm
      have HNU := Lib.hid hnu
      have HSM : Hid (T.n ≤ 1000) := Lib.hid (by have := hsm.1; omega)
      have HOK := Lib.hid hok
      clear hsm hok hnu hT hlt hgg hin
      have hw1 : wrap64 (e1 + 1) = e1 + 1 := wr0 (by have := HY.out; omega)
      obtain ⟨ga, gb, V, hga, hgb, hV, hva, hvb, hbV⟩ := View.two wr e1 0 (e1 + 1) 0 HO.out.is.lt
      have HVa := Lib.hid hva
      have HVb := Lib.hid hvb
      have HO0 := Lib.hid (HO.out.below hbV)
      have HGA := Lib.hid hga
      have HGB := Lib.hid hgb
      have HVV := Lib.hid hV
      clear hva hvb hbV hga hgb hV HO
      go_upto_region 9 with (fail)
      rw [HVV.out, HGA.out]
      try rw [HGA.out] at HGB
      rw [HGB.out]
      clear HVV HGA HGB
      obtain ⟨s1, s2, c, tp, n, h1, h2, h3, h4, h5, h6, hc⟩ := more_math HOK.out HSM.out e1 e2 (by have := HY.out; omega)
      have HS1 := Lib.hid h1
      have HS2 := Lib.hid h2
      have HC := Lib.hid h3
      have HTP := Lib.hid h4
      have HTI := Lib.hid h5
      have HNN := Lib.hid h6
      clear h1 h2 h3 h4 h5 h6
      rcases hc with ⟨rfl, rfl, rfl, hne⟩ | ⟨rfl, rfl, rfl, rfl⟩ | ⟨rfl, rfl, rfl, hne⟩ | ⟨rfl, rfl, rfl⟩
      · skip
        have hneb : (n != e1 + 1) = true := by simpa using hne
        have q00 := HVa.out.lit.cell (o := 0) rfl
        have q01 := HVa.out.lit.cell (o := 1) rfl
        have q0l := HVa.out.lit.lt
        have q10 := HVb.out.lit.cell (o := 0) rfl
        have q11 := HVb.out.lit.cell (o := 1) rfl
        have q1l := HVb.out.lit.lt
        have hcon := one_sees HO0.out HSM.out e1 0 e2 true HI.out HS1.out
        go_wp2_with fail
        refine (show Calls Try.prog _ _ _ _ from hcon).mono ?_
        rintro e va1 ⟨rfl, hb⟩
        have HVa_a1 := Lib.hid (HVa.out.below hb)
        have HVb_a1 := Lib.hid (HVb.out.below hb)
        have HOa1 := Lib.hid (HO0.out.below hb)
        clear hcon hb HO0 HVa HVb q00 q01 q0l q10 q11 q1l
        have q00 := HVa_a1.out.lit.cell (o := 0) rfl
        have q01 := HVa_a1.out.lit.cell (o := 1) rfl
        have q0l := HVa_a1.out.lit.lt
        have q10 := HVb_a1.out.lit.cell (o := 0) rfl
        have q11 := HVb_a1.out.lit.cell (o := 1) rfl
        have q1l := HVb_a1.out.lit.lt
        have hcon := one_sees HOa1.out HSM.out (e1 + 1) 0 e2 true HI.out HS2.out
        go_wp2_with fail
        refine (show Calls Try.prog _ _ _ _ from hcon).mono ?_
        rintro e va2 ⟨rfl, hb⟩
        have HVa_a2 := Lib.hid (HVa_a1.out.below hb)
        have HVb_a2 := Lib.hid (HVb_a1.out.below hb)
        have HOa2 := Lib.hid (HOa1.out.below hb)
        clear hcon hb HOa1 HVa_a1 HVb_a1 q00 q01 q0l q10 q11 q1l
        have q00 := HVa_a2.out.lit.cell (o := 0) rfl
        have q01 := HVa_a2.out.lit.cell (o := 1) rfl
        have q0l := HVa_a2.out.lit.lt
        have q10 := HVb_a2.out.lit.cell (o := 0) rfl
        have q11 := HVb_a2.out.lit.cell (o := 1) rfl
        have q1l := HVb_a2.out.lit.lt
        have hcon := one_sees HOa2.out HSM.out e1 0 e2 true HI.out HS1.out
        go_wp2_with fail
        refine (show Calls Try.prog _ _ _ _ from hcon).mono ?_
        rintro e va3 ⟨rfl, hb⟩
        have HVa_a3 := Lib.hid (HVa_a2.out.below hb)
        have HVb_a3 := Lib.hid (HVb_a2.out.below hb)
        have HOa3 := Lib.hid (HOa2.out.below hb)
        clear hcon hb HOa2 HVa_a2 HVb_a2 q00 q01 q0l q10 q11 q1l
        have q00 := HVa_a3.out.lit.cell (o := 0) rfl
        have q01 := HVa_a3.out.lit.cell (o := 1) rfl
        have q0l := HVa_a3.out.lit.lt
        have q10 := HVb_a3.out.lit.cell (o := 0) rfl
        have q11 := HVb_a3.out.lit.cell (o := 1) rfl
        have q1l := HVb_a3.out.lit.lt
        have hcon := one_counts HOa3.out e2 true HI.out HC.out
        go_wp2_with fail
        refine (show Calls Try.prog _ _ _ _ from hcon).mono ?_
        rintro e va4 ⟨rfl, hb⟩
        have HVa_a4 := Lib.hid (HVa_a3.out.below hb)
        have HVb_a4 := Lib.hid (HVb_a3.out.below hb)
        have HOa4 := Lib.hid (HOa3.out.below hb)
        clear hcon hb HOa3 HVa_a3 HVb_a3 q00 q01 q0l q10 q11 q1l
        have q00 := HVa_a4.out.lit.cell (o := 0) rfl
        have q01 := HVa_a4.out.lit.cell (o := 1) rfl
        have q0l := HVa_a4.out.lit.lt
        have q10 := HVb_a4.out.lit.cell (o := 0) rfl
        have q11 := HVb_a4.out.lit.cell (o := 1) rfl
        have q1l := HVb_a4.out.lit.lt
        have hcon := one_top HOa4.out e2 tp HI.out HTP.out
        go_wp2_with fail
        refine (show Calls Try.prog _ _ _ _ from hcon).mono ?_
        rintro e va5 ⟨rfl, hb⟩
        have HVa_a5 := Lib.hid (HVa_a4.out.below hb)
        have HVb_a5 := Lib.hid (HVb_a4.out.below hb)
        have HOa5 := Lib.hid (HOa4.out.below hb)
        clear hcon hb HOa4 HVa_a4 HVb_a4 q00 q01 q0l q10 q11 q1l
        have q00 := HVa_a5.out.lit.cell (o := 0) rfl
        have q01 := HVa_a5.out.lit.cell (o := 1) rfl
        have q0l := HVa_a5.out.lit.lt
        have q10 := HVb_a5.out.lit.cell (o := 0) rfl
        have q11 := HVb_a5.out.lit.cell (o := 1) rfl
        have q1l := HVb_a5.out.lit.lt
        have hcon := one_number HOa5.out HSM.out tp n HTI.out HNN.out
        go_wp2_with fail
        refine (show Calls Try.prog _ _ _ _ from hcon).mono ?_
        rintro e va6 ⟨rfl, hb⟩
        have HVa_a6 := Lib.hid (HVa_a5.out.below hb)
        have HVb_a6 := Lib.hid (HVb_a5.out.below hb)
        have HOa6 := Lib.hid (HOa5.out.below hb)
        clear hcon hb HOa5 HVa_a5 HVb_a5 q00 q01 q0l q10 q11 q1l
        have q00 := HVa_a6.out.lit.cell (o := 0) rfl
        have q01 := HVa_a6.out.lit.cell (o := 1) rfl
        have q0l := HVa_a6.out.lit.lt
        have q10 := HVb_a6.out.lit.cell (o := 0) rfl
        have q11 := HVb_a6.out.lit.cell (o := 1) rfl
        have q1l := HVb_a6.out.lit.lt
        go_wp2_with fail
        go_ret
        exact ⟨rfl, HOa6.out.bel⟩
      · skip
        have q00 := HVa.out.lit.cell (o := 0) rfl
        have q01 := HVa.out.lit.cell (o := 1) rfl
        have q0l := HVa.out.lit.lt
        have q10 := HVb.out.lit.cell (o := 0) rfl
        have q11 := HVb.out.lit.cell (o := 1) rfl
        have q1l := HVb.out.lit.lt
        have hcon := one_sees HO0.out HSM.out e1 0 e2 false HI.out HS1.out
        go_wp2_with fail
        refine (show Calls Try.prog _ _ _ _ from hcon).mono ?_
        rintro e vb1 ⟨rfl, hb⟩
        have HVa_b1 := Lib.hid (HVa.out.below hb)
        have HVb_b1 := Lib.hid (HVb.out.below hb)
        have HOb1 := Lib.hid (HO0.out.below hb)
        clear hcon hb HO0 HVa HVb q00 q01 q0l q10 q11 q1l
        have q00 := HVa_b1.out.lit.cell (o := 0) rfl
        have q01 := HVa_b1.out.lit.cell (o := 1) rfl
        have q0l := HVa_b1.out.lit.lt
        have q10 := HVb_b1.out.lit.cell (o := 0) rfl
        have q11 := HVb_b1.out.lit.cell (o := 1) rfl
        have q1l := HVb_b1.out.lit.lt
        have hcon := one_sees HOb1.out HSM.out e1 0 e2 false HI.out HS1.out
        go_wp2_with fail
        refine (show Calls Try.prog _ _ _ _ from hcon).mono ?_
        rintro e vb2 ⟨rfl, hb⟩
        have HVa_b2 := Lib.hid (HVa_b1.out.below hb)
        have HVb_b2 := Lib.hid (HVb_b1.out.below hb)
        have HOb2 := Lib.hid (HOb1.out.below hb)
        clear hcon hb HOb1 HVa_b1 HVb_b1 q00 q01 q0l q10 q11 q1l
        have q00 := HVa_b2.out.lit.cell (o := 0) rfl
        have q01 := HVa_b2.out.lit.cell (o := 1) rfl
        have q0l := HVa_b2.out.lit.lt
        have q10 := HVb_b2.out.lit.cell (o := 0) rfl
        have q11 := HVb_b2.out.lit.cell (o := 1) rfl
        have q1l := HVb_b2.out.lit.lt
        have hcon := one_sees HOb2.out HSM.out (e1 + 1) 0 e2 true HI.out HS2.out
        go_wp2_with fail
        refine (show Calls Try.prog _ _ _ _ from hcon).mono ?_
        rintro e vb3 ⟨rfl, hb⟩
        have HVa_b3 := Lib.hid (HVa_b2.out.below hb)
        have HVb_b3 := Lib.hid (HVb_b2.out.below hb)
        have HOb3 := Lib.hid (HOb2.out.below hb)
        clear hcon hb HOb2 HVa_b2 HVb_b2 q00 q01 q0l q10 q11 q1l
        have q00 := HVa_b3.out.lit.cell (o := 0) rfl
        have q01 := HVa_b3.out.lit.cell (o := 1) rfl
        have q0l := HVa_b3.out.lit.lt
        have q10 := HVb_b3.out.lit.cell (o := 0) rfl
        have q11 := HVb_b3.out.lit.cell (o := 1) rfl
        have q1l := HVb_b3.out.lit.lt
        have hcon := one_counts HOb3.out e2 true HI.out HC.out
        go_wp2_with fail
        refine (show Calls Try.prog _ _ _ _ from hcon).mono ?_
        rintro e vb4 ⟨rfl, hb⟩
        have HVa_b4 := Lib.hid (HVa_b3.out.below hb)
        have HVb_b4 := Lib.hid (HVb_b3.out.below hb)
        have HOb4 := Lib.hid (HOb3.out.below hb)
        clear hcon hb HOb3 HVa_b3 HVb_b3 q00 q01 q0l q10 q11 q1l
        have q00 := HVa_b4.out.lit.cell (o := 0) rfl
        have q01 := HVa_b4.out.lit.cell (o := 1) rfl
        have q0l := HVa_b4.out.lit.lt
        have q10 := HVb_b4.out.lit.cell (o := 0) rfl
        have q11 := HVb_b4.out.lit.cell (o := 1) rfl
        have q1l := HVb_b4.out.lit.lt
        have hcon := one_top HOb4.out e2 tp HI.out HTP.out
        go_wp2_with fail
        refine (show Calls Try.prog _ _ _ _ from hcon).mono ?_
        rintro e vb5 ⟨rfl, hb⟩
        have HVa_b5 := Lib.hid (HVa_b4.out.below hb)
        have HVb_b5 := Lib.hid (HVb_b4.out.below hb)
        have HOb5 := Lib.hid (HOb4.out.below hb)
        clear hcon hb HOb4 HVa_b4 HVb_b4 q00 q01 q0l q10 q11 q1l
        have q00 := HVa_b5.out.lit.cell (o := 0) rfl
        have q01 := HVa_b5.out.lit.cell (o := 1) rfl
        have q0l := HVa_b5.out.lit.lt
        have q10 := HVb_b5.out.lit.cell (o := 0) rfl
        have q11 := HVb_b5.out.lit.cell (o := 1) rfl
        have q1l := HVb_b5.out.lit.lt
        have hcon := one_number HOb5.out HSM.out tp (e1 + 1) HTI.out HNN.out
        go_wp2_with fail
        refine (show Calls Try.prog _ _ _ _ from hcon).mono ?_
        rintro e vb6 ⟨rfl, hb⟩
        have HVa_b6 := Lib.hid (HVa_b5.out.below hb)
        have HVb_b6 := Lib.hid (HVb_b5.out.below hb)
        have HOb6 := Lib.hid (HOb5.out.below hb)
        clear hcon hb HOb5 HVa_b5 HVb_b5 q00 q01 q0l q10 q11 q1l
        have q00 := HVa_b6.out.lit.cell (o := 0) rfl
        have q01 := HVa_b6.out.lit.cell (o := 1) rfl
        have q0l := HVa_b6.out.lit.lt
        have q10 := HVb_b6.out.lit.cell (o := 0) rfl
        have q11 := HVb_b6.out.lit.cell (o := 1) rfl
        have q1l := HVb_b6.out.lit.lt
        go_wp2_with fail
        go_ret
        exact ⟨rfl, HOb6.out.bel⟩
      · skip
        have hneb : (n != e1 + 1) = true := by simpa using hne
        have q00 := HVa.out.lit.cell (o := 0) rfl
        have q01 := HVa.out.lit.cell (o := 1) rfl
        have q0l := HVa.out.lit.lt
        have q10 := HVb.out.lit.cell (o := 0) rfl
        have q11 := HVb.out.lit.cell (o := 1) rfl
        have q1l := HVb.out.lit.lt
        have hcon := one_sees HO0.out HSM.out e1 0 e2 false HI.out HS1.out
        go_wp2_with fail
        refine (show Calls Try.prog _ _ _ _ from hcon).mono ?_
        rintro e vc1 ⟨rfl, hb⟩
        have HVa_c1 := Lib.hid (HVa.out.below hb)
        have HVb_c1 := Lib.hid (HVb.out.below hb)
        have HOc1 := Lib.hid (HO0.out.below hb)
        clear hcon hb HO0 HVa HVb q00 q01 q0l q10 q11 q1l
        have q00 := HVa_c1.out.lit.cell (o := 0) rfl
        have q01 := HVa_c1.out.lit.cell (o := 1) rfl
        have q0l := HVa_c1.out.lit.lt
        have q10 := HVb_c1.out.lit.cell (o := 0) rfl
        have q11 := HVb_c1.out.lit.cell (o := 1) rfl
        have q1l := HVb_c1.out.lit.lt
        have hcon := one_sees HOc1.out HSM.out e1 0 e2 false HI.out HS1.out
        go_wp2_with fail
        refine (show Calls Try.prog _ _ _ _ from hcon).mono ?_
        rintro e vc2 ⟨rfl, hb⟩
        have HVa_c2 := Lib.hid (HVa_c1.out.below hb)
        have HVb_c2 := Lib.hid (HVb_c1.out.below hb)
        have HOc2 := Lib.hid (HOc1.out.below hb)
        clear hcon hb HOc1 HVa_c1 HVb_c1 q00 q01 q0l q10 q11 q1l
        have q00 := HVa_c2.out.lit.cell (o := 0) rfl
        have q01 := HVa_c2.out.lit.cell (o := 1) rfl
        have q0l := HVa_c2.out.lit.lt
        have q10 := HVb_c2.out.lit.cell (o := 0) rfl
        have q11 := HVb_c2.out.lit.cell (o := 1) rfl
        have q1l := HVb_c2.out.lit.lt
        have hcon := one_sees HOc2.out HSM.out (e1 + 1) 0 e2 false HI.out HS2.out
        go_wp2_with fail
        refine (show Calls Try.prog _ _ _ _ from hcon).mono ?_
        rintro e vc3 ⟨rfl, hb⟩
        have HVa_c3 := Lib.hid (HVa_c2.out.below hb)
        have HVb_c3 := Lib.hid (HVb_c2.out.below hb)
        have HOc3 := Lib.hid (HOc2.out.below hb)
        clear hcon hb HOc2 HVa_c2 HVb_c2 q00 q01 q0l q10 q11 q1l
        have q00 := HVa_c3.out.lit.cell (o := 0) rfl
        have q01 := HVa_c3.out.lit.cell (o := 1) rfl
        have q0l := HVa_c3.out.lit.lt
        have q10 := HVb_c3.out.lit.cell (o := 0) rfl
        have q11 := HVb_c3.out.lit.cell (o := 1) rfl
        have q1l := HVb_c3.out.lit.lt
        have hcon := one_counts HOc3.out e2 true HI.out HC.out
        go_wp2_with fail
        refine (show Calls Try.prog _ _ _ _ from hcon).mono ?_
        rintro e vc4 ⟨rfl, hb⟩
        have HVa_c4 := Lib.hid (HVa_c3.out.below hb)
        have HVb_c4 := Lib.hid (HVb_c3.out.below hb)
        have HOc4 := Lib.hid (HOc3.out.below hb)
        clear hcon hb HOc3 HVa_c3 HVb_c3 q00 q01 q0l q10 q11 q1l
        have q00 := HVa_c4.out.lit.cell (o := 0) rfl
        have q01 := HVa_c4.out.lit.cell (o := 1) rfl
        have q0l := HVa_c4.out.lit.lt
        have q10 := HVb_c4.out.lit.cell (o := 0) rfl
        have q11 := HVb_c4.out.lit.cell (o := 1) rfl
        have q1l := HVb_c4.out.lit.lt
        have hcon := one_top HOc4.out e2 tp HI.out HTP.out
        go_wp2_with fail
        refine (show Calls Try.prog _ _ _ _ from hcon).mono ?_
        rintro e vc5 ⟨rfl, hb⟩
        have HVa_c5 := Lib.hid (HVa_c4.out.below hb)
        have HVb_c5 := Lib.hid (HVb_c4.out.below hb)
        have HOc5 := Lib.hid (HOc4.out.below hb)
        clear hcon hb HOc4 HVa_c4 HVb_c4 q00 q01 q0l q10 q11 q1l
        have q00 := HVa_c5.out.lit.cell (o := 0) rfl
        have q01 := HVa_c5.out.lit.cell (o := 1) rfl
        have q0l := HVa_c5.out.lit.lt
        have q10 := HVb_c5.out.lit.cell (o := 0) rfl
        have q11 := HVb_c5.out.lit.cell (o := 1) rfl
        have q1l := HVb_c5.out.lit.lt
        have hcon := one_number HOc5.out HSM.out tp n HTI.out HNN.out
        go_wp2_with fail
        refine (show Calls Try.prog _ _ _ _ from hcon).mono ?_
        rintro e vc6 ⟨rfl, hb⟩
        have HVa_c6 := Lib.hid (HVa_c5.out.below hb)
        have HVb_c6 := Lib.hid (HVb_c5.out.below hb)
        have HOc6 := Lib.hid (HOc5.out.below hb)
        clear hcon hb HOc5 HVa_c5 HVb_c5 q00 q01 q0l q10 q11 q1l
        have q00 := HVa_c6.out.lit.cell (o := 0) rfl
        have q01 := HVa_c6.out.lit.cell (o := 1) rfl
        have q0l := HVa_c6.out.lit.lt
        have q10 := HVb_c6.out.lit.cell (o := 0) rfl
        have q11 := HVb_c6.out.lit.cell (o := 1) rfl
        have q1l := HVb_c6.out.lit.lt
        go_wp2_with fail
        go_ret
        exact ⟨rfl, HOc6.out.bel⟩
      · skip
        have q00 := HVa.out.lit.cell (o := 0) rfl
        have q01 := HVa.out.lit.cell (o := 1) rfl
        have q0l := HVa.out.lit.lt
        have q10 := HVb.out.lit.cell (o := 0) rfl
        have q11 := HVb.out.lit.cell (o := 1) rfl
        have q1l := HVb.out.lit.lt
        have hcon := one_sees HO0.out HSM.out e1 0 e2 false HI.out HS1.out
        go_wp2_with fail
        refine (show Calls Try.prog _ _ _ _ from hcon).mono ?_
        rintro e vd1 ⟨rfl, hb⟩
        have HVa_d1 := Lib.hid (HVa.out.below hb)
        have HVb_d1 := Lib.hid (HVb.out.below hb)
        have HOd1 := Lib.hid (HO0.out.below hb)
        clear hcon hb HO0 HVa HVb q00 q01 q0l q10 q11 q1l
        have q00 := HVa_d1.out.lit.cell (o := 0) rfl
        have q01 := HVa_d1.out.lit.cell (o := 1) rfl
        have q0l := HVa_d1.out.lit.lt
        have q10 := HVb_d1.out.lit.cell (o := 0) rfl
        have q11 := HVb_d1.out.lit.cell (o := 1) rfl
        have q1l := HVb_d1.out.lit.lt
        have hcon := one_sees HOd1.out HSM.out e1 0 e2 false HI.out HS1.out
        go_wp2_with fail
        refine (show Calls Try.prog _ _ _ _ from hcon).mono ?_
        rintro e vd2 ⟨rfl, hb⟩
        have HVa_d2 := Lib.hid (HVa_d1.out.below hb)
        have HVb_d2 := Lib.hid (HVb_d1.out.below hb)
        have HOd2 := Lib.hid (HOd1.out.below hb)
        clear hcon hb HOd1 HVa_d1 HVb_d1 q00 q01 q0l q10 q11 q1l
        have q00 := HVa_d2.out.lit.cell (o := 0) rfl
        have q01 := HVa_d2.out.lit.cell (o := 1) rfl
        have q0l := HVa_d2.out.lit.lt
        have q10 := HVb_d2.out.lit.cell (o := 0) rfl
        have q11 := HVb_d2.out.lit.cell (o := 1) rfl
        have q1l := HVb_d2.out.lit.lt
        have hcon := one_sees HOd2.out HSM.out (e1 + 1) 0 e2 false HI.out HS2.out
        go_wp2_with fail
        refine (show Calls Try.prog _ _ _ _ from hcon).mono ?_
        rintro e vd3 ⟨rfl, hb⟩
        have HVa_d3 := Lib.hid (HVa_d2.out.below hb)
        have HVb_d3 := Lib.hid (HVb_d2.out.below hb)
        have HOd3 := Lib.hid (HOd2.out.below hb)
        clear hcon hb HOd2 HVa_d2 HVb_d2 q00 q01 q0l q10 q11 q1l
        have q00 := HVa_d3.out.lit.cell (o := 0) rfl
        have q01 := HVa_d3.out.lit.cell (o := 1) rfl
        have q0l := HVa_d3.out.lit.lt
        have q10 := HVb_d3.out.lit.cell (o := 0) rfl
        have q11 := HVb_d3.out.lit.cell (o := 1) rfl
        have q1l := HVb_d3.out.lit.lt
        have hcon := one_counts HOd3.out e2 false HI.out HC.out
        go_wp2_with fail
        refine (show Calls Try.prog _ _ _ _ from hcon).mono ?_
        rintro e vd4 ⟨rfl, hb⟩
        have HVa_d4 := Lib.hid (HVa_d3.out.below hb)
        have HVb_d4 := Lib.hid (HVb_d3.out.below hb)
        have HOd4 := Lib.hid (HOd3.out.below hb)
        clear hcon hb HOd3 HVa_d3 HVb_d3 q00 q01 q0l q10 q11 q1l
        have q00 := HVa_d4.out.lit.cell (o := 0) rfl
        have q01 := HVa_d4.out.lit.cell (o := 1) rfl
        have q0l := HVa_d4.out.lit.lt
        have q10 := HVb_d4.out.lit.cell (o := 0) rfl
        have q11 := HVb_d4.out.lit.cell (o := 1) rfl
        have q1l := HVb_d4.out.lit.lt
        go_wp2_with fail
        go_ret
        exact ⟨rfl, HOd4.out.bel⟩
set_option maxRecDepth 100000 in
set_option maxHeartbeats 8000000 in
theorem more_law (a0 : Option Addr) (c0 n0 : Nat) (l0 : List Stp) (hn0 : l0.length = n0) (e1 e2 : Int) (hin1 : I64 e1) (hin2 : I64 e2) (w : World) (hs0 : SlSt w a0 c0 l0) :
    Calls Try.prog 6 #[.slice a0 n0 c0, .int .i64 e1, .int .i64 e2] w fun e w' => e = .returned (.bool true) ∧ Below w.heap.size w w' := by
  by_cases hz : n0 ≤ 200
  · by_cases hy : 0 ≤ e1
    · by_cases hx : e1 ≤ 1000
      · exact more_main a0 c0 n0 l0 hn0 e1 e2 hin1 hin2 w hs0 hz hy hx
      · exact more_above a0 c0 n0 l0 hn0 e1 e2 hin1 hin2 w hs0 hz (by omega)
    · exact more_below a0 c0 n0 l0 hn0 e1 e2 hin1 hin2 w hs0 hz (by omega)
  · exact more_large a0 c0 n0 l0 hn0 e1 e2 hin1 hin2 w hs0 (by omega)

end Go.Proofs.Ytpdfknknnklioaa
