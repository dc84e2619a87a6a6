/-
  The law SnapStays, walked.
-/
import Derived.Test.YtpdfknknnklioaaRegX
import Derived.Test.YtpdfknknnklioaaNStayM
namespace Go.Proofs.Ytpdfknknnklioaa
open Go.RowKit
set_option linter.unusedVariables false

set_option maxRecDepth 100000 in
set_option maxHeartbeats 8000000 in
theorem stays_large (a0 : Option Addr) (c0 n0 : Nat) (l0 : List Stp) (a1 : Option Addr) (c1 n1 : Nat) (l1 : List Stp) (hn0 : l0.length = n0) (hn1 : l1.length = n1) (w : World) (hs0 : SlSt w a0 c0 l0) (hs1 : SlSt w a1 c1 l1) (hz : 200 < n0) :
    Calls Try.prog 5 #[.slice a0 n0 c0, .slice a1 n1 c1] w fun e w' => e = .returned (.bool true) ∧ Below w.heap.size w w' := by
  have hz2 : (200 : Int) < n0 := by omega
  go_enter Try.func5, Try.ntmps5
  have hcon := awake_is w
  go_wp2_with fail
  refine (show Calls Try.prog _ _ _ _ from hcon).mono ?_
  rintro e w1 ⟨rfl, hb⟩
  have HB1 := Lib.hid hb
  clear hcon hb
  go_wp2_with fail
  go_ret
  exact ⟨rfl, HB1.out⟩

set_option maxRecDepth 100000 in
set_option maxHeartbeats 8000000 in
theorem stays_wide (a0 : Option Addr) (c0 n0 : Nat) (l0 : List Stp) (a1 : Option Addr) (c1 n1 : Nat) (l1 : List Stp) (hn0 : l0.length = n0) (hn1 : l1.length = n1) (w : World) (hs0 : SlSt w a0 c0 l0) (hs1 : SlSt w a1 c1 l1) (hz : n0 ≤ 200) (hy : 200 < n1) :
    Calls Try.prog 5 #[.slice a0 n0 c0, .slice a1 n1 c1] w fun e w' => e = .returned (.bool true) ∧ Below w.heap.size w w' := by
  have hz2 : ¬ (200 : Int) < n0 := by omega
  have hy2 : (200 : Int) < n1 := by omega
  go_enter Try.func5, Try.ntmps5
  have hcon := awake_is w
  go_wp2_with fail
  refine (show Calls Try.prog _ _ _ _ from hcon).mono ?_
  rintro e w1 ⟨rfl, hb⟩
  have HB1 := Lib.hid hb
  clear hcon hb
  go_wp2_with fail
  go_ret
  exact ⟨rfl, HB1.out⟩

set_option maxRecDepth 100000 in
set_option maxHeartbeats 8000000 in
theorem stays_main (a0 : Option Addr) (c0 n0 : Nat) (l0 : List Stp) (a1 : Option Addr) (c1 n1 : Nat) (l1 : List Stp) (hn0 : l0.length = n0) (hn1 : l1.length = n1) (w : World) (hs0 : SlSt w a0 c0 l0) (hs1 : SlSt w a1 c1 l1) (hz : n0 ≤ 200) (hy : n1 ≤ 200) :
    Calls Try.prog 5 #[.slice a0 n0 c0, .slice a1 n1 c1] w fun e w' => e = .returned (.bool true) ∧ Below w.heap.size w w' := by
  have hz2 : ¬ (200 : Int) < n0 := by omega
  have hy2 : ¬ (200 : Int) < n1 := by omega
  have HZ := Lib.hid hz
  have HY := Lib.hid hy
  have HS := Lib.hid hs0
  have HN := Lib.hid hn0
  have HS1 := Lib.hid hs1
  have HN1 := Lib.hid hn1
  clear hs0 hn0 hs1 hn1 hz hy
  go_enter Try.func5, Try.ntmps5
  have hcon := awake_is w
  go_wp2_with fail
  refine (show Calls Try.prog _ _ _ _ from hcon).mono ?_
  rintro e w1 ⟨rfl, hb⟩
  have HB1 := Lib.hid hb
  clear hcon hb
  have hcon := one_new (w0 := w) HB1.out
  go_wp2_with fail
  refine (show Calls Try.prog _ _ _ _ from hcon).mono ?_
  rintro e w2 ⟨t, F0, rfl, h2, -, -⟩
  have HO1 := Lib.hid h2
  clear hcon h2 HB1
  go_wp2_with fail
  go_loopg [6] n0 (fun gg sx wr => ∃ (i : Nat) (F : Nat → Prop), sx = .int .i64 i ∧ i ≤ n0 ∧ n0 - i ≤ gg ∧ Hid (One w wr t (Tb.new.run (l0.take i)) F))
  case atStart => exact ⟨0, _, rfl, Nat.zero_le _, by omega, HO1⟩
  case round =>
    obtain ⟨i, F, rfl, hin, hgg, HO⟩ := hrel
    clear HO1
    have hsm := run_small (i := i) (C := 200) Tb.new_small HN.out (by have := HZ.out; omega)
    by_cases hlt : i < n0
    · have hltz : (i : Int) < (n0 : Int) := by omega
      obtain ⟨st, hst⟩ := get_stp (l := l0) (i := i) (by rw [HN.out]; exact hlt)
      have hsl := HS.out.below HO.out.bel
      obtain ⟨sb, so, rfl, d0, d1, d2⟩ := at_st hsl hst
      have hwf := hsl.wf st (List.mem_of_getElem? hst)
      have hlc : n0 ≤ c0 := by have := hsl.lc; rw [HN.out] at this; exact this
      have hrun := run_take (T := Tb.new) hst
      have hcon := one_do HO.out (by have := hsm.1; omega) (by have := hsm.2; omega) st.kind st.id hwf.1 hwf.2 hrun.symm
      clear hwf hrun hst hsm hsl
      go_wp2_with fail
      refine (show Calls Try.prog _ _ _ _ from hcon).mono ?_
      rintro e w3 ⟨F', rfl, ho3, -, -⟩
      have HO3 := Lib.hid ho3
      clear hcon ho3 d0 d1 d2 HO
      go_wp2_with fail
      go_roundg (n0 - (i + 1))
      case measure => omega
      case rel => exact ⟨i + 1, F', by go_num, by omega, Nat.le_refl _, HO3⟩
    · have hltz : ¬ (i : Int) < (n0 : Int) := by omega
      obtain rfl : n0 = i := by omega
      have hfull : l0.take n0 = l0 := List.take_of_length_le (by rw [HN.out]; exact Nat.le_refl _)
      rw [hfull] at HO hsm
      clear hfull
      have hok := Tb.new_ok.run l0
      obtain ⟨T, hT⟩ : ∃ T, Tb.new.run l0 = T := ⟨_, rfl⟩
      have hnu := Tb.Nums.runs Tb.new_ok Tb.new_nums l0
      rw [hT] at HO hsm hok hnu
      have HSMS := Lib.hid hsm
      have HNU := Lib.hid hnu
      have HSM : Hid (T.n ≤ 1000) := Lib.hid (by have := hsm.1; omega)
      have HOK := Lib.hid hok
      clear hsm hok hnu hT hlt hgg hin
      obtain ⟨la, hla⟩ : ∃ la : Nat, T.last = la := ⟨_, rfl⟩
      have HLA := Lib.hid hla
      clear hla
      have hcon := one_now HO.out HSM.out 0 la (by rw [HLA.out])
      go_wp2_with fail
      refine (show Calls Try.prog _ _ _ _ from hcon).mono ?_
      rintro e w4 ⟨rfl, hb⟩
      have HO0 := Lib.hid (HO.out.below hb)
      clear hcon hb HO
      obtain ⟨ga, V, hga, hV, hva, hbV⟩ := View.one w4 la 0 HO0.out.is.lt
      have hl2 : ∀ k, F k → k < V.heap.size := fun k hk => Nat.lt_of_lt_of_le (HO0.out.is.lt k hk) hbV.size
      obtain ⟨gs, hgs⟩ : ∃ gs, V.heap.size = gs := ⟨_, rfl⟩
      obtain ⟨V2, hV2⟩ : ∃ V2, V.alloc (.cells arr0 40) = V2 := ⟨_, rfl⟩
      have har := Arr.new V hl2
      have hb2 := Below.allocs V (.cells arr0 40)
      rw [hV2] at har hb2
      rw [hgs] at har
      have HVa := Lib.hid (hva.below hb2)
      have HAr := Lib.hid har
      have HO2 := Lib.hid ((HO0.out.below hbV).below hb2)
      have HGA := Lib.hid hga
      have HVV := Lib.hid hV
      have HGS := Lib.hid hgs
      have HV2 := Lib.hid hV2
      have hza := zero_arr
      have HFG : Hid (w.heap.size ≤ gs ∧ ga ≠ gs) := Lib.hid ⟨by have := HO0.out.bel.size; have := hbV.size; omega, by have := hva.lit.lt; omega⟩
      clear hva hl2 har hb2 hga hV hgs hV2 hbV HO0
      go_upto_region 9 with (fail)
      rw [HVV.out, HGA.out]
      go_upto_region 10 with (fail)
      rw [HV2.out, HGS.out]
      clear HVV HGA HGS HV2 hza
      go_wp2_with fail
      go_loopg [9] 401 (fun gg s9 wr => ∃ (i : Nat), s9 = .int .i64 (i : Int) ∧ 1 ≤ i ∧ i ≤ 401 ∧ 401 - i ≤ gg ∧ Hid (One w wr t T F) ∧ Hid (View wr ga la 0 F) ∧ Hid (Arr wr gs (seenF T la i) F))
      case atStart => exact ⟨1, rfl, by omega, by omega, by omega, HO2, HVa, Lib.hid (HAr.out.congr fun j hj => by unfold seenF; rw [if_neg (by omega)])⟩
      case round =>
        obtain ⟨i, rfl, hi1, hi2, hgg, HO3, HVa3, HAr3⟩ := hrel
        clear HO2 HVa HAr
        by_cases hlt : i < 401
        · have hltz : (i : Int) < 401 := by omega
          have hi0 : (0 : Int) ≤ i := by omega
          have HI1 := Lib.hid (And.intro hi1 hlt)
          have hwi : wrap64 ((i : Int) + 1) = (i : Int) + 1 := wr0 (by omega)
          have q0 := HVa3.out.lit.cell (o := 0) rfl
          have q1 := HVa3.out.lit.cell (o := 1) rfl
          have ql := HVa3.out.lit.lt
          have hcon := one_sees HO3.out HSM.out la 0 i _ (by unfold I64; omega) rfl
          clear hi1 hi2
          go_wp2_with fail
          refine (show Calls Try.prog _ _ _ _ from hcon).mono ?_
          rintro e w5 ⟨rfl, hb⟩
          have HO4 := Lib.hid ((HO3.out.below hb).cell (HAr3.out.no) HFG.out.1 i (.bool (T.seesB la 0 (i : Int))))
          have HVa4 := Lib.hid ((HVa3.out.below hb).cell HFG.out.2 i (.bool (T.seesB la 0 (i : Int))))
          have HAr4 := Lib.hid ((HAr3.out.below hb).seen HI1.out.1 HI1.out.2)
          have f0 := (HAr3.out.below hb).cell HI1.out.2
          have f1 := (HAr3.out.below hb).fz i
          have fl := (HAr3.out.below hb).lt
          clear hcon hb q0 q1 ql HO3 HVa3 HAr3
          go_wp2_with fail
          clear f0 f1 fl hwi
          go_roundg (401 - (i + 1))
          case measure => omega
          case rel => exact ⟨i + 1, by exact congrArg (Value.int .i64) (by omega), by omega, by omega, Nat.le_refl _, HO4, HVa4, HAr4⟩
        · obtain rfl : i = 401 := by omega
          clear hi1 hi2 hgg hlt
          have hltz : ¬ ((401 : Nat) : Int) < 401 := by omega
          go_wp2_with fail
          clear hltz
          go_loopg [10] n1 (fun gg s10 wr => ∃ (j : Nat) (F' : Nat → Prop), s10 = .int .i64 (j : Int) ∧ j ≤ n1 ∧ n1 - j ≤ gg ∧ Hid (One w wr t (T.run (l1.take j)) F') ∧ Hid (View wr ga la 0 F') ∧ Hid (Arr wr gs (seenF T la 401) F'))
          case atStart => exact ⟨0, _, rfl, Nat.zero_le _, by omega, HO3, HVa3, HAr3⟩
          case round =>
            obtain ⟨j, F', rfl, hjn, hgg, HO5, HVa5, HAr5⟩ := hrel
            clear HO3 HVa3 HAr3
            have hsm := run_small (i := j) (C := 400) HSMS.out HN1.out (by have := HY.out; omega)
            by_cases hlt : j < n1
            · have hltz : (j : Int) < (n1 : Int) := by omega
              obtain ⟨st, hst⟩ := get_stp (l := l1) (i := j) (by rw [HN1.out]; exact hlt)
              have hsl := HS1.out.below HO5.out.bel
              obtain ⟨sb, so, rfl, d0, d1, d2⟩ := at_st hsl hst
              have hwf := hsl.wf st (List.mem_of_getElem? hst)
              have hlc : n1 ≤ c1 := by have := hsl.lc; rw [HN1.out] at this; exact this
              have hrun := run_take (T := T) hst
              have hsm2 := run_small (i := j + 1) (C := 400) HSMS.out HN1.out (by have := HY.out; omega)
              obtain ⟨U, hU⟩ : ∃ U, T.run (l1.take (j + 1)) = U := ⟨_, rfl⟩
              rw [hU] at hrun hsm2
              have HU := Lib.hid hU
              have HUN : Hid (U.n ≤ 1000) := Lib.hid (by have := hsm2.1; omega)
              have HRS : Hid (∀ k, U.seesB la 0 k = T.seesB la 0 k) := Lib.hid (fun k => by rw [← hU]; exact run_sees HOK.out HNU.out (by rw [HLA.out]; exact Nat.le_refl _) _ k)
              have hcon := one_do HO5.out (by have := hsm.1; omega) (by have := hsm.2; omega) st.kind st.id hwf.1 hwf.2 hrun.symm
              clear hwf hrun hst hsm hsl hsm2 hU
              go_wp2_with fail
              refine (show Calls Try.prog _ _ _ _ from hcon).mono ?_
              rintro e w6 ⟨F6, rfl, ho6, ht6, hF6⟩
              have HO6 := Lib.hid ho6
              have HVa6 := Lib.hid (HVa5.out.next ht6 hF6)
              have HAr6 := Lib.hid (HAr5.out.next ht6 hF6)
              clear hcon ho6 ht6 hF6 d0 d1 d2 HO5 HVa5 HAr5
              go_wp2_with fail
              go_loopg [11] 401 (fun gg s11 wr => ∃ (i : Nat), s11 = .int .i64 (i : Int) ∧ 1 ≤ i ∧ i ≤ 401 ∧ 401 - i ≤ gg ∧ Hid (Below w6.heap.size w6 wr))
              case atStart => exact ⟨1, rfl, by omega, by omega, by omega, Lib.hid (Below.refl _ _)⟩
              case round =>
                obtain ⟨i, rfl, hi1, hi2, hgg2, HBW⟩ := hrel
                by_cases hlt2 : i < 401
                · have hltz2 : (i : Int) < 401 := by omega
                  have hi0 : (0 : Int) ≤ i := by omega
                  have HI1 := Lib.hid (And.intro hi1 hlt2)
                  have HI6 : Hid (I64 (i : Int)) := Lib.hid (by unfold I64; omega)
                  have hwi : wrap64 ((i : Int) + 1) = (i : Int) + 1 := wr0 (by omega)
                  obtain ⟨b, hb⟩ : ∃ b, T.seesB la 0 (i : Int) = b := ⟨_, rfl⟩
                  have HSB : Hid (U.seesB la 0 (i : Int) = b) := Lib.hid (by rw [HRS.out, hb])
                  have HFB : Hid (seenF T la 401 i = b) := Lib.hid (by unfold seenF; rw [if_pos ⟨hi1, hlt2⟩, hb])
                  clear hb hi1 hi2
                  have HW1 := Lib.hid (HO6.out.below HBW.out)
                  have HW2 := Lib.hid (HVa6.out.below HBW.out)
                  have HW3 := Lib.hid (HAr6.out.below HBW.out)
                  have HFI : Hid ((i : Int) < 401 ∧ (0 : Int) ≤ i) := Lib.hid ⟨by omega, by omega⟩
                  go_upto_region 21 with (fail)
                  have hdr := below_drw wr
                  try simp only [List.append_eq, List.cons_append, List.nil_append]
                  refine RX.wp_region_plan (fun w w' => Below w.heap.size w w') [.it (.agg #[.int .i64 la, .int .i64 0]), .it (.pointer (some ⟨t, 0, none⟩)), .it (.int .i64 i), .it (.bool b), .it (.int .i64 i), .it (.pointer (some ⟨gs, i, none⟩)), .it (.bool b), .it (.bool false)] (by kernel_rfl) (by kernel_rfl) (fun _ => Below.refl _ _) (fun _ _ _ => below_tr) ?_
                  refine RX.seqP_value (fun _ => Below.refl _ _) _ (by first | rfl | simp) (fun w' hw' hctx => ?_) ?_
                  · have e0 := (HW2.out.below (below_tr hdr hw')).lit.cell (o := 0) rfl
                    have e1 := (HW2.out.below (below_tr hdr hw')).lit.cell (o := 1) rfl
                    have e2 := (HW2.out.below (below_tr hdr hw')).lit.lt
                    go_simp
                    try first | with_reducible rfl | simp
                  simp only [Act.put, List.setIfInBounds_toArray, List.set_cons_zero, List.set_cons_succ]
                  refine RX.seqP_value (fun _ => Below.refl _ _) _ (by first | rfl | simp) (fun w' hw' hctx => by (go_simp); (try first | with_reducible rfl | simp)) ?_
                  simp only [Act.put, List.setIfInBounds_toArray, List.set_cons_zero, List.set_cons_succ]
                  refine RX.seqP_value (fun _ => Below.refl _ _) _ (by first | rfl | simp) (fun w' hw' hctx => by (go_simp); (try first | with_reducible rfl | simp)) ?_
                  simp only [Act.put, List.setIfInBounds_toArray, List.set_cons_zero, List.set_cons_succ]
                  refine RX.seqP_call (17) #[.agg #[.int .i64 la, .int .i64 0], .pointer (some ⟨t, 0, none⟩), .int .i64 i] (.bool b) (by first | rfl | simp) (fun w' hw' hctx => ?_) (fun w' hw' hctx => one_sees (HW1.out.below (below_tr hdr hw')) HUN.out la 0 i b HI6.out HSB.out) ?_
                  · go_simp
                  simp only [Act.put, List.setIfInBounds_toArray, List.set_cons_zero, List.set_cons_succ]
                  refine RX.seqP_value (fun _ => Below.refl _ _) _ (by first | rfl | simp) (fun w' hw' hctx => by (go_simp); (try first | with_reducible rfl | simp)) ?_
                  simp only [Act.put, List.setIfInBounds_toArray, List.set_cons_zero, List.set_cons_succ]
                  refine RX.seqP_value (fun _ => Below.refl _ _) _ (by first | rfl | simp) (fun w' hw' hctx => ?_) ?_
                  · obtain ⟨e3, e4⟩ := HFI.out
                    go_simp
                    try first | with_reducible rfl | simp
                  simp only [Act.put, List.setIfInBounds_toArray, List.set_cons_zero, List.set_cons_succ]
                  refine RX.seqP_value (fun _ => Below.refl _ _) _ (by first | rfl | simp) (fun w' hw' hctx => ?_) ?_
                  · have e0 := (HW3.out.below (below_tr hdr hw')).cell HI1.out.2
                    rw [HFB.out] at e0
                    have e2 := (HW3.out.below (below_tr hdr hw')).lt
                    go_simp
                    try first | with_reducible rfl | simp
                  simp only [Act.put, List.setIfInBounds_toArray, List.set_cons_zero, List.set_cons_succ]
                  refine RX.seqP_value (fun _ => Below.refl _ _) _ (by first | rfl | simp) (fun w' hw' hctx => by (go_simp); (try first | with_reducible rfl | simp)) ?_
                  simp only [Act.put, List.setIfInBounds_toArray, List.set_cons_zero, List.set_cons_succ]
                  refine RX.seqP_nil (fun w7 hR hctx _ => ?_)
                  have hb7 := below_tr hdr hR
                  clear hctx hR
                  have HB7 := Lib.hid (below_tr HBW.out hb7)
                  clear hb7 hdr HW1 HW2 HW3
                  go_wp2_with fail
                  clear hwi
                  go_roundg (401 - (i + 1))
                  case measure => omega
                  case rel => exact ⟨i + 1, by exact congrArg (Value.int .i64) (by omega), by omega, by omega, Nat.le_refl _, HB7⟩
                · obtain rfl : i = 401 := by omega
                  have hltz2 : ¬ ((401 : Nat) : Int) < 401 := by omega
                  clear hi1 hi2 hgg2 hlt2
                  go_wp2_with fail
                  have HO7 : Hid (One w wr t (T.run (l1.take (j + 1))) F6) := Lib.hid (by rw [HU.out]; exact HO6.out.below HBW.out)
                  have HVa7 := Lib.hid (HVa6.out.below HBW.out)
                  have HAr7 := Lib.hid (HAr6.out.below HBW.out)
                  clear hltz2
                  go_roundg (n1 - (j + 1))
                  case measure => omega
                  case rel => exact ⟨j + 1, F6, by go_num, by omega, Nat.le_refl _, HO7, HVa7, HAr7⟩
            · have hltz : ¬ (j : Int) < (n1 : Int) := by omega
              clear hlt
              go_wp2_with fail
              go_ret
              exact ⟨rfl, HO5.out.bel⟩

set_option maxRecDepth 100000 in
set_option maxHeartbeats 8000000 in
theorem stays_law (a0 : Option Addr) (c0 n0 : Nat) (l0 : List Stp) (a1 : Option Addr) (c1 n1 : Nat) (l1 : List Stp) (hn0 : l0.length = n0) (hn1 : l1.length = n1) (w : World) (hs0 : SlSt w a0 c0 l0) (hs1 : SlSt w a1 c1 l1) :
    Calls Try.prog 5 #[.slice a0 n0 c0, .slice a1 n1 c1] w fun e w' => e = .returned (.bool true) ∧ Below w.heap.size w w' := by
  by_cases hz : n0 ≤ 200
  · by_cases hy : n1 ≤ 200
    · exact stays_main a0 c0 n0 l0 a1 c1 n1 l1 hn0 hn1 w hs0 hs1 hz hy
    · exact stays_wide a0 c0 n0 l0 a1 c1 n1 l1 hn0 hn1 w hs0 hs1 hz (by omega)
  · exact stays_large a0 c0 n0 l0 a1 c1 n1 l1 hn0 hn1 w hs0 hs1 (by omega)

end Go.Proofs.Ytpdfknknnklioaa
