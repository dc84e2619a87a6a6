/-
  The law QueueTogether, walked.
-/
import Derived.Test.YtjjhmfpdbjflmaaPApp
import Derived.IntWalk
namespace Go.Proofs.Ytjjhmfpdbjflmaa
open Go.RowKit
set_option linter.unusedVariables false

set_option maxRecDepth 100000 in
set_option maxHeartbeats 8000000 in
theorem together_law (c : Int) (hc : U8 c) (a : Option Addr) (cc n : Nat) (l : List Stp) (hln : l.length = n) (w : World) (hs : SlSt w a cc l) :
    Calls Try.prog 5 #[.int .u8 c, .slice a n cc] w fun e w' => e = .returned (.bool true) ∧ Below w.heap.size w w' := by
  have mixed : Try.prog.follows Departure.mixedOrders = true := by kernel_rfl
  have HS := Lib.hid hs
  have HLN := Lib.hid hln
  have HC8 := Lib.hid hc
  clear hs hln hc
  go_enter Try.func5, Try.ntmps5
  by_cases h100 : (100 : Int) < (n : Int)
  · go_wp2_with fail
    refine (awake_is _).mono ?_
    rintro e w1 ⟨rfl, hb⟩
    have HB := Lib.hid hb
    clear hb
    go_wp2_with fail
    go_ret
    exact ⟨rfl, HB.out⟩
  · have HN : Hid (n ≤ 100) := Lib.hid (by omega)
    go_wp2_with fail
    refine (awake_is _).mono ?_
    rintro e w1 ⟨rfl, hb1⟩
    have HB1 := Lib.hid hb1
    clear hb1
    by_cases hcl : c = 1 ∨ c = 2
    · have HCL := Lib.hid hcl
      have hcon := new_q c w1 hcl
      go_wp2_with fail
      refine (show Calls Try.prog _ _ _ _ from hcon).mono ?_
      rintro e w3 ⟨h, rfl, hq, hb⟩
      clear hcon
      have HQ3 := Lib.hid (hq.older HB1.out.size)
      have HB3 := Lib.hid (below_tr HB1.out hb)
      clear hq hb HB1 hcl
      go_wp2_with fail
      have hstart : Hid (Qu (fun _ => False) w.heap.size w3 h 0 ((Lk.new c).play (l.take 0)) ∧ Below w.heap.size w w3) := Lib.hid ⟨HQ3.out, HB3.out⟩
      clear HQ3 HB3
      go_loopg [7] n (fun gg s7 wr => ∃ (i : Nat), s7 = .int .i64 i ∧ i ≤ n ∧ n - i ≤ gg ∧ Hid (Qu (fun _ => False) w.heap.size wr h i ((Lk.new c).play (l.take i)) ∧ Below w.heap.size w wr))
      case atStart => exact ⟨0, rfl, Nat.zero_le _, by omega, hstart⟩
      case round =>
        obtain ⟨i, rfl, hi, hgg, HJ⟩ := hrel
        clear hstart
        by_cases hlt : i < n
        · have hltz : (i : Int) < (n : Int) := by omega
          obtain ⟨st, b, o, hst, ea, hwf, hbl, -, -, -⟩ := (HS.out.below HJ.out.2).get (i := i) (by rw [HLN.out]; exact hlt)
          subst ea
          have hlc : n ≤ cc := by have := HS.out.lc; rw [HLN.out] at this; exact this
          have hcm := HS.out.cm
          have hic : i + 1 ≤ cc := by omega
          have hin0 : (i : Int) ≤ (i : Int) + 1 := by omega
          have hw1 : wrap64 ((i : Int) + 1) = (i : Int) + 1 := wrOk (by have := HN.out; omega)
          have hplay := play_q (w := wr) (some ⟨b, o + i * 3, none⟩) 1 (cc - i) [st] rfl (by have := HN.out; omega) (fun W' ht => (HS.out.below (HJ.out.2.trans (ht.below (fun k hk => hk.1) HJ.out.1.nw))).one hst) HJ.out.1
          have hcons : (Lk.new c).play (l.take (i + 1)) = ((Lk.new c).play (l.take i)).play [st] := by rw [play_take hst]; rfl
          rw [← hcons] at hplay
          have HPL := Lib.hid hplay
          have HLT := Lib.hid (And.intro hlt (And.intro hi hgg))
          clear hplay hcons hst hwf hbl hi hgg
          go_wp2_with fail
          refine HPL.out.mono ?_
          rintro e w4 ⟨rfl, hq, ht⟩
          obtain ⟨A, hA⟩ : ∃ A, (Lk.new c).play (l.take (i + 1)) = A := ⟨_, rfl⟩
          have hac : A.c = c := by rw [← hA, play_c]; rfl
          have HQ4 : Hid (Qu (fun _ => False) w.heap.size w4 h (i + 1) ((Lk.new c).play (l.take (i + 1))) ∧ Below w.heap.size w w4) := Lib.hid ⟨hq, HJ.out.2.trans (ht.below (fun k hk => hk.1) HJ.out.1.nw)⟩
          rw [hA] at hq
          have HAC := Lib.hid hac
          have HQ := Lib.hid hq
          have HOK := Lib.hid hq.ok
          clear hq ht hac hA HPL HJ hic hin0 hw1 hlc hcm
          have hz : i + 1 ≤ 50000 := by have := HN.out; omega
          have HZ := Lib.hid hz
          clear hz
          have hcon := holders_q HZ.out HQ.out
          go_wp2_with fail
          refine (show Calls Try.prog _ _ _ _ from hcon).mono ?_
          rintro e w5 ⟨v, rfl, hr, -, hb⟩
          clear hcon
          obtain ⟨ha, hc, rfl, -, -⟩ := hr.form
          obtain ⟨hn, hn0⟩ : ∃ k, (fsts A.hd).length = k := ⟨_, rfl⟩
          rw [hn0] at hr ⊢
          have HHN := Lib.hid hn0
          clear hn0
          have HH5 := Lib.hid hr
          have HQ5 := Lib.hid (HQ.out.below hb)
          have HB5 := Lib.hid hb
          clear hb hr
          have hcon := row_q HZ.out HQ5.out
          go_wp2_with fail
          refine (show Calls Try.prog _ _ _ _ from hcon).mono ?_
          rintro e w6 ⟨v, rfl, hr, -, hb⟩
          clear hcon
          obtain ⟨ra, rc, rfl, -, -⟩ := hr.form
          obtain ⟨rn, rn0⟩ : ∃ k, (fsts A.wt).length = k := ⟨_, rfl⟩
          rw [rn0] at hr ⊢
          have HRN := Lib.hid rn0
          clear rn0
          have HK := Lib.hid (And.intro (HQ5.out.below hb) (And.intro (RowF.below HH5.out hb) hr))
          have HKB := Lib.hid (below_tr HB5.out hb)
          have HCH := Lib.hid (RowI.cap HH5.out)
          have HCR := Lib.hid (RowI.cap hr)
          clear hb hr HH5 HQ5 HB5
          go_wp2_with fail
          go_loopg [10] hn (fun gk s10 wr => ∃ (a1 : Nat), s10 = .int .i64 a1 ∧ a1 ≤ hn ∧ hn - a1 ≤ gk ∧ Hid (Below w6.heap.size w6 wr))
          case atStart => exact ⟨0, rfl, Nat.zero_le _, by omega, Lib.hid (Below.refl _ _)⟩
          case round =>
            obtain ⟨a1, rfl, ha1, hgk, HBa⟩ := hrel
            by_cases hlta : a1 < hn
            · have hltaz : (a1 : Int) < (hn : Int) := by omega
              obtain ⟨y, hy⟩ := get_int (l := fsts A.hd) (i := a1) (by rw [HHN.out]; exact hlta)
              obtain ⟨hb0, e0, hbl, q0⟩ := RowI.look (RowF.below (HK.out.2.1) HBa.out) hy
              subst e0
              obtain ⟨p, hp⟩ := fst_get hy
              have HP := Lib.hid hp
              have hnc : hn ≤ hc := HCH.out.1
              have hcm : hc ≤ maxLen := HCH.out.2.1
              have HY := Lib.hid hy
              have HPM := HOK.out.ok.held _ (List.mem_of_getElem? hp)
              have HY64 : Hid (I64 y) := Lib.hid HPM.2.1
              have hpe : heldL A.hd y = p := held_of HOK.out.ok.rise (List.mem_of_getElem? hp)
              have HPE := Lib.hid hpe
              have HPU : Hid (U16 p) := Lib.hid HPM.2.2.1
              have hp0 : (p == 0) = false := by rw [beq_eq_false_iff_ne]; exact HPM.2.2.2.1
              have HLA := Lib.hid (And.intro hlta (And.intro ha1 hgk))
              clear hy hp ha1 hgk hbl q0 HPM hpe
              go_upto_region 14 with (fail)
              go_cut [78] (fun sx wx => sx = .bool false ∧ Hid (Below w6.heap.size w6 wx))
              case first =>
                by_cases hz1 : a1 = 0
                · subst hz1
                  have hgt : ¬ (0 : Int) < ((0 : Nat) : Int) := by decide
                  have hdr := below_drw wr
                  try simp only [List.append_eq, List.cons_append, List.nil_append]
                  refine RX.wp_region_plan (fun w w' => Below w.heap.size w w') [.it (.pointer (some ⟨h, 0, none⟩)), .it (.slice (some ⟨hb0, 0, none⟩) hn hc), .it (.int .i64 0), .it (.pointer (some ⟨hb0, 0, none⟩)), .it (.int .i64 y), .it (.int .u16 p), .it (.bool false), .it (.bool false), .it (.int .i64 0), .it (.bool false), .it (.bool false), .it undef, .it undef, .it undef, .it undef, .it undef, .it undef, .it undef, .it undef, .it undef, .it undef, .it (.bool false), .it (.bool false)] (by kernel_rfl) (by kernel_rfl) (fun _ => Below.refl _ _) (fun _ _ _ => below_tr) ?_
                  refine RX.seqP_value (fun _ => Below.refl _ _) _ (by first | rfl | simp) (fun w' hw' hctx => by (go_simp); (try first | with_reducible rfl | simp)) ?_
                  simp only [Act.put, List.setIfInBounds_toArray, List.set_cons_zero, List.set_cons_succ]
                  refine RX.seqP_value (fun _ => Below.refl _ _) _ (by first | rfl | simp) (fun w' hw' hctx => by (go_simp); (try first | with_reducible rfl | simp)) ?_
                  simp only [Act.put, List.setIfInBounds_toArray, List.set_cons_zero, List.set_cons_succ]
                  refine RX.seqP_value (fun _ => Below.refl _ _) _ (by first | rfl | simp) (fun w' hw' hctx => by (go_simp); (try first | with_reducible rfl | simp)) ?_
                  simp only [Act.put, List.setIfInBounds_toArray, List.set_cons_zero, List.set_cons_succ]
                  refine RX.seqP_value (fun _ => Below.refl _ _) _ (by first | rfl | simp) (fun w' hw' hctx => ?_) ?_
                  · obtain ⟨hbl, q0⟩ := RowI.cell (RowF.below (HK.out.2.1) (below_tr HBa.out (below_tr hdr hw'))) HY.out
                    go_simp
                    try first | with_reducible rfl | simp
                  simp only [Act.put, List.setIfInBounds_toArray, List.set_cons_zero, List.set_cons_succ]
                  refine RX.seqP_value (fun _ => Below.refl _ _) _ (by first | rfl | simp) (fun w' hw' hctx => ?_) ?_
                  · obtain ⟨hbl, q0⟩ := RowI.cell (RowF.below (HK.out.2.1) (below_tr HBa.out (below_tr hdr hw'))) HY.out
                    go_simp
                    try first | with_reducible rfl | simp
                  simp only [Act.put, List.setIfInBounds_toArray, List.set_cons_zero, List.set_cons_succ]
                  refine RX.seqP_call (20) #[.pointer (some ⟨h, 0, none⟩), .int .i64 y] (.int .u16 p) (by first | rfl | simp) (fun w' hw' hctx => ?_) (fun w' hw' hctx => held_q y HY64.out ((HK.out.1).below (below_tr HBa.out (below_tr hdr hw'))) p HPE.out) ?_
                  · go_simp
                  simp only [Act.put, List.setIfInBounds_toArray, List.set_cons_zero, List.set_cons_succ]
                  refine RX.seqP_value (fun _ => Below.refl _ _) _ (by first | rfl | simp) (fun w' hw' hctx => by (go_simp); (try first | with_reducible rfl | simp)) ?_
                  simp only [Act.put, List.setIfInBounds_toArray, List.set_cons_zero, List.set_cons_succ]
                  refine RX.seqP_value (fun _ => Below.refl _ _) _ (by first | rfl | simp) (fun w' hw' hctx => by (go_simp); (try first | with_reducible rfl | simp)) ?_
                  simp only [Act.put, List.setIfInBounds_toArray, List.set_cons_zero, List.set_cons_succ]
                  refine RX.seqP_value (fun _ => Below.refl _ _) _ (by first | rfl | simp) (fun w' hw' hctx => by (go_simp); (try first | with_reducible rfl | simp)) ?_
                  simp only [Act.put, List.setIfInBounds_toArray, List.set_cons_zero, List.set_cons_succ]
                  refine RX.seqP_value (fun _ => Below.refl _ _) _ (by first | rfl | simp) (fun w' hw' hctx => by (go_simp); (try first | with_reducible rfl | simp)) ?_
                  simp only [Act.put, List.setIfInBounds_toArray, List.set_cons_zero, List.set_cons_succ]
                  refine RX.seqP_value (fun _ => Below.refl _ _) _ (by first | rfl | simp) (fun w' hw' hctx => by (go_simp); (try first | with_reducible rfl | simp)) ?_
                  simp only [Act.put, List.setIfInBounds_toArray, List.set_cons_zero, List.set_cons_succ]
                  refine RX.seqP_skip (by first | rfl | simp) ?_
                  simp only [Act.put, List.setIfInBounds_toArray, List.set_cons_zero, List.set_cons_succ]
                  refine RX.seqP_skip (by first | rfl | simp) ?_
                  simp only [Act.put, List.setIfInBounds_toArray, List.set_cons_zero, List.set_cons_succ]
                  refine RX.seqP_skip (by first | rfl | simp) ?_
                  simp only [Act.put, List.setIfInBounds_toArray, List.set_cons_zero, List.set_cons_succ]
                  refine RX.seqP_skip (by first | rfl | simp) ?_
                  simp only [Act.put, List.setIfInBounds_toArray, List.set_cons_zero, List.set_cons_succ]
                  refine RX.seqP_skip (by first | rfl | simp) ?_
                  simp only [Act.put, List.setIfInBounds_toArray, List.set_cons_zero, List.set_cons_succ]
                  refine RX.seqP_skip (by first | rfl | simp) ?_
                  simp only [Act.put, List.setIfInBounds_toArray, List.set_cons_zero, List.set_cons_succ]
                  refine RX.seqP_skip (by first | rfl | simp) ?_
                  simp only [Act.put, List.setIfInBounds_toArray, List.set_cons_zero, List.set_cons_succ]
                  refine RX.seqP_skip (by first | rfl | simp) ?_
                  simp only [Act.put, List.setIfInBounds_toArray, List.set_cons_zero, List.set_cons_succ]
                  refine RX.seqP_skip (by first | rfl | simp) ?_
                  simp only [Act.put, List.setIfInBounds_toArray, List.set_cons_zero, List.set_cons_succ]
                  refine RX.seqP_skip (by first | rfl | simp) ?_
                  simp only [Act.put, List.setIfInBounds_toArray, List.set_cons_zero, List.set_cons_succ]
                  refine RX.seqP_value (fun _ => Below.refl _ _) _ (by first | rfl | simp) (fun w' hw' hctx => by (go_simp); (try first | with_reducible rfl | simp)) ?_
                  simp only [Act.put, List.setIfInBounds_toArray, List.set_cons_zero, List.set_cons_succ]
                  refine RX.seqP_value (fun _ => Below.refl _ _) _ (by first | rfl | simp) (fun w' hw' hctx => by (go_simp); (try first | with_reducible rfl | simp)) ?_
                  simp only [Act.put, List.setIfInBounds_toArray, List.set_cons_zero, List.set_cons_succ]
                  refine RX.seqP_nil (fun w2 hR hctx _ => ?_)
                  have hb2 := below_tr hdr hR
                  clear hctx hR
                  have HB2 := Lib.hid (below_tr HBa.out hb2)
                  clear hb2 hdr
                  go_wp2_with fail
                  go_meet
                  exact ⟨rfl, HB2⟩
                · obtain ⟨j, hj⟩ : ∃ j, a1 = j + 1 := ⟨a1 - 1, by omega⟩
                  have hgt : (0 : Int) < (a1 : Int) := by omega
                  have hgtn : 0 < a1 := by omega
                  have hjlt : j < hn := by omega
                  have hjz : (j : Int) < (hn : Int) := by omega
                  have hj0 : (0 : Int) ≤ (j : Int) := by omega
                  have hsub : wrap64 ((a1 : Int) - 1) = (j : Int) := by unfold maxLen at hcm; rw [wrOk (by omega)]; omega
                  have hsub2 : IntKind.i64.wrap ((a1 : Int) - 1) = (j : Int) := by rw [IntWalk.i64_in _ (by unfold maxLen at hcm; omega)]; omega
                  obtain ⟨y0, hy0⟩ := get_int (l := fsts A.hd) (i := j) (by rw [HHN.out]; exact hjlt)
                  have hlt0 : y0 < y := by
                    have hr := List.pairwise_iff_getElem.1 HOK.out.ok.rise j a1 (by rw [HHN.out]; exact hjlt) (by rw [HHN.out]; exact hlta) (by omega)
                    obtain ⟨e1, e2⟩ := List.getElem?_eq_some_iff.1 hy0
                    obtain ⟨e3, e4⟩ := List.getElem?_eq_some_iff.1 HY.out
                    rw [e2, e4] at hr
                    exact hr
                  have hle0 : ¬ y ≤ y0 := by omega
                  have HY0 := Lib.hid hy0
                  clear hj hjlt hy0 hlt0
                  have hdr := below_drw wr
                  try simp only [List.append_eq, List.cons_append, List.nil_append]
                  refine RX.wp_region_plan (fun w w' => Below w.heap.size w w') [.it (.pointer (some ⟨h, 0, none⟩)), .it (.slice (some ⟨hb0, 0, none⟩) hn hc), .it (.int .i64 a1), .it (.pointer (some ⟨hb0, a1, none⟩)), .it (.int .i64 y), .it (.int .u16 p), .it (.bool false), .it (.bool false), .it (.int .i64 a1), .it (.bool true), .it (.bool true), .it (.slice (some ⟨hb0, 0, none⟩) hn hc), .it (.int .i64 a1), .it (.pointer (some ⟨hb0, a1, none⟩)), .it (.int .i64 y), .it (.slice (some ⟨hb0, 0, none⟩) hn hc), .it (.int .i64 a1), .it (.int .i64 j), .it (.pointer (some ⟨hb0, j, none⟩)), .it (.int .i64 y0), .it (.bool false), .it (.bool false), .it (.bool false)] (by kernel_rfl) (by kernel_rfl) (fun _ => Below.refl _ _) (fun _ _ _ => below_tr) ?_
                  refine RX.seqP_value (fun _ => Below.refl _ _) _ (by first | rfl | simp) (fun w' hw' hctx => by (go_simp); (try first | with_reducible rfl | simp)) ?_
                  simp only [Act.put, List.setIfInBounds_toArray, List.set_cons_zero, List.set_cons_succ]
                  refine RX.seqP_value (fun _ => Below.refl _ _) _ (by first | rfl | simp) (fun w' hw' hctx => by (go_simp); (try first | with_reducible rfl | simp)) ?_
                  simp only [Act.put, List.setIfInBounds_toArray, List.set_cons_zero, List.set_cons_succ]
                  refine RX.seqP_value (fun _ => Below.refl _ _) _ (by first | rfl | simp) (fun w' hw' hctx => by (go_simp); (try first | with_reducible rfl | simp)) ?_
                  simp only [Act.put, List.setIfInBounds_toArray, List.set_cons_zero, List.set_cons_succ]
                  refine RX.seqP_value (fun _ => Below.refl _ _) _ (by first | rfl | simp) (fun w' hw' hctx => ?_) ?_
                  · obtain ⟨hbl, q0⟩ := RowI.cell (RowF.below (HK.out.2.1) (below_tr HBa.out (below_tr hdr hw'))) HY.out
                    go_simp
                    try first | with_reducible rfl | simp
                  simp only [Act.put, List.setIfInBounds_toArray, List.set_cons_zero, List.set_cons_succ]
                  refine RX.seqP_value (fun _ => Below.refl _ _) _ (by first | rfl | simp) (fun w' hw' hctx => ?_) ?_
                  · obtain ⟨hbl, q0⟩ := RowI.cell (RowF.below (HK.out.2.1) (below_tr HBa.out (below_tr hdr hw'))) HY.out
                    go_simp
                    try first | with_reducible rfl | simp
                  simp only [Act.put, List.setIfInBounds_toArray, List.set_cons_zero, List.set_cons_succ]
                  refine RX.seqP_call (20) #[.pointer (some ⟨h, 0, none⟩), .int .i64 y] (.int .u16 p) (by first | rfl | simp) (fun w' hw' hctx => ?_) (fun w' hw' hctx => held_q y HY64.out ((HK.out.1).below (below_tr HBa.out (below_tr hdr hw'))) p HPE.out) ?_
                  · go_simp
                  simp only [Act.put, List.setIfInBounds_toArray, List.set_cons_zero, List.set_cons_succ]
                  refine RX.seqP_value (fun _ => Below.refl _ _) _ (by first | rfl | simp) (fun w' hw' hctx => by (go_simp); (try first | with_reducible rfl | simp)) ?_
                  simp only [Act.put, List.setIfInBounds_toArray, List.set_cons_zero, List.set_cons_succ]
                  refine RX.seqP_value (fun _ => Below.refl _ _) _ (by first | rfl | simp) (fun w' hw' hctx => by (go_simp); (try first | with_reducible rfl | simp)) ?_
                  simp only [Act.put, List.setIfInBounds_toArray, List.set_cons_zero, List.set_cons_succ]
                  refine RX.seqP_value (fun _ => Below.refl _ _) _ (by first | rfl | simp) (fun w' hw' hctx => by (go_simp); (try first | with_reducible rfl | simp)) ?_
                  simp only [Act.put, List.setIfInBounds_toArray, List.set_cons_zero, List.set_cons_succ]
                  refine RX.seqP_value (fun _ => Below.refl _ _) _ (by first | rfl | simp) (fun w' hw' hctx => by (go_simp); (try first | with_reducible rfl | simp)) ?_
                  simp only [Act.put, List.setIfInBounds_toArray, List.set_cons_zero, List.set_cons_succ]
                  refine RX.seqP_value (fun _ => Below.refl _ _) _ (by first | rfl | simp) (fun w' hw' hctx => by (go_simp); (try first | with_reducible rfl | simp)) ?_
                  simp only [Act.put, List.setIfInBounds_toArray, List.set_cons_zero, List.set_cons_succ]
                  refine RX.seqP_value (fun _ => Below.refl _ _) _ (by first | rfl | simp) (fun w' hw' hctx => by (go_simp); (try first | with_reducible rfl | simp)) ?_
                  simp only [Act.put, List.setIfInBounds_toArray, List.set_cons_zero, List.set_cons_succ]
                  refine RX.seqP_value (fun _ => Below.refl _ _) _ (by first | rfl | simp) (fun w' hw' hctx => by (go_simp); (try first | with_reducible rfl | simp)) ?_
                  simp only [Act.put, List.setIfInBounds_toArray, List.set_cons_zero, List.set_cons_succ]
                  refine RX.seqP_value (fun _ => Below.refl _ _) _ (by first | rfl | simp) (fun w' hw' hctx => ?_) ?_
                  · obtain ⟨hbl, q0⟩ := RowI.cell (RowF.below (HK.out.2.1) (below_tr HBa.out (below_tr hdr hw'))) HY.out
                    go_simp
                    try first | with_reducible rfl | simp
                  simp only [Act.put, List.setIfInBounds_toArray, List.set_cons_zero, List.set_cons_succ]
                  refine RX.seqP_value (fun _ => Below.refl _ _) _ (by first | rfl | simp) (fun w' hw' hctx => ?_) ?_
                  · obtain ⟨hbl, q0⟩ := RowI.cell (RowF.below (HK.out.2.1) (below_tr HBa.out (below_tr hdr hw'))) HY.out
                    go_simp
                    try first | with_reducible rfl | simp
                  simp only [Act.put, List.setIfInBounds_toArray, List.set_cons_zero, List.set_cons_succ]
                  refine RX.seqP_value (fun _ => Below.refl _ _) _ (by first | rfl | simp) (fun w' hw' hctx => by (go_simp); (try first | with_reducible rfl | simp)) ?_
                  simp only [Act.put, List.setIfInBounds_toArray, List.set_cons_zero, List.set_cons_succ]
                  refine RX.seqP_value (fun _ => Below.refl _ _) _ (by first | rfl | simp) (fun w' hw' hctx => by (go_simp); (try first | with_reducible rfl | simp)) ?_
                  simp only [Act.put, List.setIfInBounds_toArray, List.set_cons_zero, List.set_cons_succ]
                  refine RX.seqP_value (fun _ => Below.refl _ _) _ (by first | rfl | simp) (fun w' hw' hctx => by (go_simp); (try first | with_reducible rfl | simp)) ?_
                  simp only [Act.put, List.setIfInBounds_toArray, List.set_cons_zero, List.set_cons_succ]
                  refine RX.seqP_value (fun _ => Below.refl _ _) _ (by first | rfl | simp) (fun w' hw' hctx => ?_) ?_
                  · obtain ⟨hbl, q0⟩ := RowI.cell (RowF.below (HK.out.2.1) (below_tr HBa.out (below_tr hdr hw'))) HY0.out
                    go_simp
                    try first | with_reducible rfl | simp
                  simp only [Act.put, List.setIfInBounds_toArray, List.set_cons_zero, List.set_cons_succ]
                  refine RX.seqP_value (fun _ => Below.refl _ _) _ (by first | rfl | simp) (fun w' hw' hctx => ?_) ?_
                  · obtain ⟨hbl, q0⟩ := RowI.cell (RowF.below (HK.out.2.1) (below_tr HBa.out (below_tr hdr hw'))) HY0.out
                    go_simp
                    try first | with_reducible rfl | simp
                  simp only [Act.put, List.setIfInBounds_toArray, List.set_cons_zero, List.set_cons_succ]
                  refine RX.seqP_value (fun _ => Below.refl _ _) _ (by first | rfl | simp) (fun w' hw' hctx => by (go_simp); (try first | with_reducible rfl | simp)) ?_
                  simp only [Act.put, List.setIfInBounds_toArray, List.set_cons_zero, List.set_cons_succ]
                  refine RX.seqP_value (fun _ => Below.refl _ _) _ (by first | rfl | simp) (fun w' hw' hctx => by (go_simp); (try first | with_reducible rfl | simp)) ?_
                  simp only [Act.put, List.setIfInBounds_toArray, List.set_cons_zero, List.set_cons_succ]
                  refine RX.seqP_value (fun _ => Below.refl _ _) _ (by first | rfl | simp) (fun w' hw' hctx => by (go_simp); (try first | with_reducible rfl | simp)) ?_
                  simp only [Act.put, List.setIfInBounds_toArray, List.set_cons_zero, List.set_cons_succ]
                  refine RX.seqP_nil (fun w2 hR hctx _ => ?_)
                  have hb2 := below_tr hdr hR
                  clear hctx hR
                  have HB2 := Lib.hid (below_tr HBa.out hb2)
                  clear hb2 hdr
                  go_wp2_with fail
                  go_meet
                  exact ⟨rfl, HB2⟩
              case rest =>
                obtain ⟨rfl, HB14⟩ := hcut
                clear HBa hp0
                go_wp2_with fail
                go_loopg [11, 12] hn (fun gk s11 s12 wr => ∃ (b1 : Nat), s11 = .int .i64 b1 ∧ b1 ≤ hn ∧ hn - b1 ≤ gk ∧ Hid (Below w6.heap.size w6 wr))
                case atStart => exact ⟨0, rfl, Nat.zero_le _, by omega, HB14⟩
                case round =>
                  obtain ⟨b1, rfl, hb1, hgk, HBb⟩ := hrel
                  clear HB14
                  by_cases hltb : b1 < hn
                  · have hltbz : (b1 : Int) < (hn : Int) := by omega
                    have hla : (a1 : Int) < (hn : Int) := by have := HLA.out; omega
                    obtain ⟨z, hz⟩ := get_int (l := fsts A.hd) (i := b1) (by rw [HHN.out]; exact hltb)
                    obtain ⟨q, hq⟩ := fst_get hz
                    have HZ1 := Lib.hid hz
                    have HQM := HOK.out.ok.held _ (List.mem_of_getElem? hq)
                    have HZ64 : Hid (I64 z) := Lib.hid HQM.2.1
                    have hqe : heldL A.hd z = q := held_of HOK.out.ok.rise (List.mem_of_getElem? hq)
                    have HQE := Lib.hid hqe
                    have HQU : Hid (U16 q) := Lib.hid HQM.2.2.1
                    have HGO : Hid (a1 ≠ b1 → ∀ k : Nat, hasB q k = true → goB c p (k : Int) = true) := Lib.hid (fun hne k hk => by
                      have hyz : y ≠ z := by
                        intro e
                        rw [← e] at hz
                        have hnd : (fsts A.hd).Nodup := HOK.out.ok.rise.imp (fun h => by omega)
                        exact hne ((List.getElem?_inj (by rw [HHN.out]; exact HLA.out.1) hnd).1 (HY.out.trans hz.symm))
                      have := HOK.out.ok.go _ (List.mem_of_getElem? HP.out) _ (List.mem_of_getElem? hq) hyz k hk
                      rwa [HAC.out] at this)
                    have HLB := Lib.hid (And.intro hltb (And.intro hb1 hgk))
                    clear hz hq hb1 hgk HQM hqe
                    go_wp2_with fail
                    go_loopg [12] 9 (fun gm s12 wr => ∃ (m : Nat), s12 = .int .u8 m ∧ 1 ≤ m ∧ m ≤ 9 ∧ 9 - m ≤ gm ∧ Hid (Below w6.heap.size w6 wr))
                    case atStart => exact ⟨1, rfl, Nat.le_refl _, by omega, by omega, HBb⟩
                    case round =>
                      obtain ⟨m, rfl, hm1, hm9, hgm, HBm⟩ := hrel
                      clear HBb
                      by_cases hm8 : m ≤ 8
                      · have hm8z : (m : Int) ≤ 8 := by omega
                        by_cases hab : a1 = b1
                        · have hne : ((a1 : Int) != (b1 : Int)) = false := by rw [hab]; exact bne_self_eq_false _
                          clear hab
                          go_wp2_with fail
                          go_roundg (hn - (b1 + 1))
                          case measure => have := HLB.out; omega
                          case rel => exact ⟨b1 + 1, by have h0 := HCH.out.1; have h1 := HCH.out.2.1; have h2 := HLB.out; unfold maxLen at h1; rw [wrOk (by omega)]; rfl, by have := HLB.out; omega, Nat.le_refl _, HBm⟩
                        · have hne : ((a1 : Int) != (b1 : Int)) = true := by rw [bne_iff_ne]; omega
                          have HAB := Lib.hid hab
                          clear hab
                          go_upto_region 22 with (fail)
                          go_cut [115] (fun sx wx => sx = .bool false ∧ Hid (Below w6.heap.size w6 wx))
                          case first =>
                            have hbt := bit_two q HQU.out m (by omega)
                            obtain ⟨hbl, q0⟩ := RowI.cell (RowF.below (HK.out.2.1) HBm.out) HZ1.out
                            have hcon := held_q z HZ64.out ((HK.out.1).below HBm.out) q HQE.out
                            by_cases hh : hasB q m = true
                            · rw [hh] at hbt
                              have HG : Hid (goB c p (m : Int) = true) := Lib.hid (HGO.out HAB.out m hh)
                              have HM8 : Hid (U8 (m : Int)) := Lib.hid (by unfold U8; omega)
                              clear hh
                              go_wp2_with fail
                              refine (show Calls Try.prog _ _ _ _ from hcon).mono ?_
                              rintro e wx ⟨rfl, hb⟩
                              have HBx := Lib.hid (below_tr HBm.out hb)
                              obtain ⟨hbl1, q1⟩ := RowI.cell (RowF.below (HK.out.2.1) HBx.out) HY.out
                              have hcon := held_q y HY64.out ((HK.out.1).below HBx.out) p HPE.out
                              clear hb q0 hbl
                              go_wp2_with fail
                              refine (show Calls Try.prog _ _ _ _ from hcon).mono ?_
                              rintro e wy ⟨rfl, hb⟩
                              have HBy := Lib.hid (below_tr HBx.out hb)
                              have hcon := go_is c p m HM8.out HPU.out wy true HG.out
                              clear hb q1 hbl1
                              go_wp2_with fail
                              refine (show Calls Try.prog _ _ _ _ from hcon).mono ?_
                              rintro e wz ⟨rfl, hb⟩
                              have HBz := Lib.hid (below_tr HBy.out hb)
                              clear hb hcon
                              go_wp2_with fail
                              go_meet
                              exact ⟨rfl, HBz⟩
                            · have hh' : hasB q m = false := by simpa using hh
                              rw [hh'] at hbt
                              clear hh hh'
                              go_wp2_with fail
                              refine (show Calls Try.prog _ _ _ _ from hcon).mono ?_
                              rintro e wx ⟨rfl, hb⟩
                              have HBx := Lib.hid (below_tr HBm.out hb)
                              clear hb hcon q0 hbl
                              go_wp2_with fail
                              go_meet
                              exact ⟨rfl, HBx⟩
                          case rest =>
                            obtain ⟨rfl, HB22⟩ := hcut
                            have hw8 : IntKind.u8.wrap ((m : Int) + 1) = (m : Int) + 1 := by rw [IntKind.wrap_u8]; omega
                            clear HBm
                            go_wp2_with fail
                            go_roundg (9 - (m + 1))
                            case measure => omega
                            case rel => exact ⟨m + 1, by first | rfl | (rw [hw8]; rfl), by omega, by omega, Nat.le_refl _, HB22⟩
                      · have hm8z : ¬ (m : Int) ≤ 8 := by omega
                        go_wp2_with fail
                        go_roundg (hn - (b1 + 1))
                        case measure => have := HLB.out; omega
                        case rel => exact ⟨b1 + 1, by have h0 := HCH.out.1; have h1 := HCH.out.2.1; have h2 := HLB.out; unfold maxLen at h1; rw [wrOk (by omega)]; rfl, by have := HLB.out; omega, Nat.le_refl _, HBm⟩
                  · have hltbz : ¬ (b1 : Int) < (hn : Int) := by omega
                    clear hb1 hgk hltb
                    go_wp2_with fail
                    go_roundg (hn - (a1 + 1))
                    case measure => have := HLA.out; omega
                    case rel => exact ⟨a1 + 1, by have h0 := HCH.out.1; have h1 := HCH.out.2.1; have h2 := HLA.out; unfold maxLen at h1; rw [wrOk (by omega)]; rfl, by have := HLA.out; omega, Nat.le_refl _, HBb⟩
            · have hltaz : ¬ (a1 : Int) < (hn : Int) := by omega
              clear ha1 hgk hlta
              go_wp2_with fail
              go_loopg [13] rn (fun gk s13 wr => ∃ (k : Nat), s13 = .int .i64 k ∧ k ≤ rn ∧ rn - k ≤ gk ∧ Hid (Below w6.heap.size w6 wr))
              case atStart => exact ⟨0, rfl, Nat.zero_le _, by omega, HBa⟩
              case round =>
                obtain ⟨k, rfl, hk, hgk, HBk⟩ := hrel
                clear HBa
                by_cases hltk : k < rn
                · have hltkz : (k : Int) < (rn : Int) := by omega
                  obtain ⟨y, hy⟩ := get_int (l := fsts A.wt) (i := k) (by rw [HRN.out]; exact hltk)
                  obtain ⟨rb, e0, hbl, q0⟩ := RowI.look (RowF.below (HK.out.2.2) HBk.out) hy
                  subst e0
                  obtain ⟨m, hm⟩ := fst_get hy
                  have hnc : rn ≤ rc := HCR.out.1
                  have hcm : rc ≤ maxLen := HCR.out.2.1
                  have hkc : k ≤ rc := by omega
                  have hkr : k ≤ rn := hk
                  have HY := Lib.hid hy
                  have HW := HOK.out.ok.wts _ (List.mem_of_getElem? hm)
                  have HY64 : Hid (I64 y) := Lib.hid HW.2.1
                  have HM8 : Hid (U8 m) := Lib.hid (may_u8 HW.2.2)
                  have hyw : y ∈ fsts A.wt := mem_int hy
                  have hmv : heldL A.wt y = m := (idx_get HOK.out.ok.wnd hm).2
                  have HWV : Hid (waitsV A y = m) := Lib.hid (by unfold waitsV; rw [if_pos hyw]; exact hmv)
                  have HWB : Hid (waitsB A y = true) := Lib.hid (by unfold waitsB; exact decide_eq_true hyw)
                  have HNC : Hid (covB c (heldL A.hd y) m = false) := Lib.hid (by have := HOK.out.ok.ncov _ (List.mem_of_getElem? hm); rwa [HAC.out] at this)
                  have HWH := Lib.hid (HOK.out.whom hm)
                  have HLK := Lib.hid (And.intro hltk (And.intro hk hgk))
                  have hcon := for_q y HZ.out ((HK.out.1).below HBk.out)
                  clear hy hm hk hgk HW hyw hmv
                  go_wp2_with fail
                  refine (show Calls Try.prog _ _ _ _ from hcon).mono ?_
                  rintro e wa ⟨v, rfl, hr, -, hb⟩
                  obtain ⟨W, hW⟩ : ∃ W, A.whom y = W := ⟨_, rfl⟩
                  rw [hW] at hr HWH
                  obtain ⟨wa0, wc0, rfl, -, -⟩ := hr.form
                  obtain ⟨wn, wn0⟩ : ∃ k, (W).length = k := ⟨_, rfl⟩
                  rw [wn0] at hr ⊢
                  have HWN := Lib.hid wn0
                  clear wn0
                  have HRW := Lib.hid hr
                  have HCW := Lib.hid (RowI.cap hr)
                  have HBw := Lib.hid (below_tr HBk.out hb)
                  have hwn0 : ((wn : Int) == 0) = false := by
                    rw [beq_eq_false_iff_ne]
                    intro e
                    have : W = [] := List.eq_nil_of_length_eq_zero (by rw [HWN.out]; omega)
                    exact HWH.out.1 this
                  obtain ⟨hbl2, q1⟩ := RowI.cell (RowF.below (HK.out.2.2) HBw.out) HY.out
                  have hcon := waits_q y HZ.out ((HK.out.1).below HBw.out) m HWV.out true HWB.out
                  clear hr hb hW q0 hbl HBk
                  go_wp2_with fail
                  refine (show Calls Try.prog _ _ _ _ from hcon).mono ?_
                  rintro e wb ⟨rfl, hb⟩
                  have HBb := Lib.hid (below_tr HBw.out hb)
                  obtain ⟨hbl3, q2⟩ := RowI.cell (RowF.below (HK.out.2.2) HBb.out) HY.out
                  obtain ⟨o1, ho1⟩ : ∃ o, heldL A.hd y = o := ⟨_, rfl⟩
                  have hcon := held_q y HY64.out ((HK.out.1).below HBb.out) o1 ho1
                  have HU : Hid (U16 o1) := Lib.hid (by rw [← ho1]; exact held_u16 HOK.out.ok y)
                  have HCV : Hid (covB c o1 m = false) := Lib.hid (by rw [← ho1]; exact HNC.out)
                  have HRB := Lib.hid (RowF.below HRW.out hb)
                  clear hb q1 hbl2 ho1 HRW
                  go_wp2_with fail
                  refine (show Calls Try.prog _ _ _ _ from hcon).mono ?_
                  rintro e wc ⟨rfl, hb⟩
                  have HBc := Lib.hid (below_tr HBb.out hb)
                  have HRC := Lib.hid (RowF.below HRB.out hb)
                  have hcon := covers_is c o1 m HM8.out HU.out wc false HCV.out
                  clear hb q2 hbl3 HRB HBb HBw
                  go_wp2_with fail
                  refine (show Calls Try.prog _ _ _ _ from hcon).mono ?_
                  rintro e wd ⟨rfl, hb⟩
                  have HBd := Lib.hid (below_tr HBc.out hb)
                  have HRD := Lib.hid (RowF.below HRC.out hb)
                  clear hb HRC HBc hcon hwn0
                  go_wp2_with fail
                  go_loopg [17] wn (fun gj s17 wr => ∃ (j : Nat), s17 = .int .i64 j ∧ j ≤ wn ∧ wn - j ≤ gj ∧ Hid (Below w6.heap.size w6 wr) ∧ Hid (Below wd.heap.size wd wr))
                  case atStart => exact ⟨0, rfl, Nat.zero_le _, by omega, HBd, Lib.hid (Below.refl _ _)⟩
                  case round =>
                    obtain ⟨j, rfl, hj, hgj, HBj, HBJ⟩ := hrel
                    clear HBd
                    by_cases hltj : j < wn
                    · have hltjz : (j : Int) < (wn : Int) := by omega
                      have hltkz2 : (k : Int) < (rn : Int) := hltkz
                      obtain ⟨z, hz⟩ := get_int (l := W) (i := j) (by rw [HWN.out]; exact hltj)
                      obtain ⟨wb0, e0, hbl, q0⟩ := RowI.look (RowF.below HRD.out HBJ.out) hz
                      subst e0
                      obtain ⟨hzy, hzin⟩ := HWH.out.2 z (mem_int hz)
                      have hne : (z == y) = false := by rw [beq_eq_false_iff_ne]; exact hzy
                      have HZ9 := Lib.hid hz
                      have hwc : wn ≤ wc0 := HCW.out.1
                      have hwm : wc0 ≤ maxLen := HCW.out.2.1
                      have HLJ := Lib.hid (And.intro hltj (And.intro hj hgj))
                      clear hz hzy hbl q0 hj hgj
                      go_upto_region 34 with (fail)
                      go_cut [189] (fun sx wx => sx = .bool false ∧ Hid (Below w6.heap.size w6 wx) ∧ Hid (Below wd.heap.size wd wx))
                      case first =>
                        by_cases h1 : z ∈ fsts A.hd
                        · have HI := Lib.hid (decide_eq_true h1)
                          clear hzin h1
                          have hdr := below_drw wr
                          try simp only [List.append_eq, List.cons_append, List.nil_append]
                          refine RX.wp_region_plan (fun w w' => Below w.heap.size w w') [.it (.slice (some ⟨wb0, 0, none⟩) wn wc0), .it (.int .i64 j), .it (.pointer (some ⟨wb0, j, none⟩)), .it (.int .i64 z), .it (.slice (some ⟨rb, 0, none⟩) rn rc), .it (.int .i64 k), .it (.pointer (some ⟨rb, k, none⟩)), .it (.int .i64 y), .it (.bool false), .it (.bool false), .it (.slice ha hn hc), .it (.slice (some ⟨wb0, 0, none⟩) wn wc0), .it (.int .i64 j), .it (.pointer (some ⟨wb0, j, none⟩)), .it (.int .i64 z), .it (.bool true), .it (.bool false), .it (.bool false), .it undef, .it undef, .it undef, .it undef, .it undef, .it undef, .it undef, .it undef, .it undef, .it (.bool false), .it (.bool false)] (by kernel_rfl) (by kernel_rfl) (fun _ => Below.refl _ _) (fun _ _ _ => below_tr) ?_
                          refine RX.seqP_value (fun _ => Below.refl _ _) _ (by first | rfl | simp) (fun w' hw' hctx => by (go_simp); (try first | with_reducible rfl | simp)) ?_
                          simp only [Act.put, List.setIfInBounds_toArray, List.set_cons_zero, List.set_cons_succ]
                          refine RX.seqP_value (fun _ => Below.refl _ _) _ (by first | rfl | simp) (fun w' hw' hctx => by (go_simp); (try first | with_reducible rfl | simp)) ?_
                          simp only [Act.put, List.setIfInBounds_toArray, List.set_cons_zero, List.set_cons_succ]
                          refine RX.seqP_value (fun _ => Below.refl _ _) _ (by first | rfl | simp) (fun w' hw' hctx => ?_) ?_
                          · obtain ⟨hbl, q0⟩ := RowI.cell (RowF.below HRD.out (below_tr HBJ.out (below_tr hdr hw'))) HZ9.out
                            go_simp
                            try first | with_reducible rfl | simp
                          simp only [Act.put, List.setIfInBounds_toArray, List.set_cons_zero, List.set_cons_succ]
                          refine RX.seqP_value (fun _ => Below.refl _ _) _ (by first | rfl | simp) (fun w' hw' hctx => ?_) ?_
                          · obtain ⟨hbl, q0⟩ := RowI.cell (RowF.below HRD.out (below_tr HBJ.out (below_tr hdr hw'))) HZ9.out
                            go_simp
                            try first | with_reducible rfl | simp
                          simp only [Act.put, List.setIfInBounds_toArray, List.set_cons_zero, List.set_cons_succ]
                          refine RX.seqP_value (fun _ => Below.refl _ _) _ (by first | rfl | simp) (fun w' hw' hctx => by (go_simp); (try first | with_reducible rfl | simp)) ?_
                          simp only [Act.put, List.setIfInBounds_toArray, List.set_cons_zero, List.set_cons_succ]
                          refine RX.seqP_value (fun _ => Below.refl _ _) _ (by first | rfl | simp) (fun w' hw' hctx => by (go_simp); (try first | with_reducible rfl | simp)) ?_
                          simp only [Act.put, List.setIfInBounds_toArray, List.set_cons_zero, List.set_cons_succ]
                          refine RX.seqP_value (fun _ => Below.refl _ _) _ (by first | rfl | simp) (fun w' hw' hctx => ?_) ?_
                          · obtain ⟨hbl, q0⟩ := RowI.cell (RowF.below (HK.out.2.2) (below_tr HBj.out (below_tr hdr hw'))) HY.out
                            go_simp
                            try first | with_reducible rfl | simp
                          simp only [Act.put, List.setIfInBounds_toArray, List.set_cons_zero, List.set_cons_succ]
                          refine RX.seqP_value (fun _ => Below.refl _ _) _ (by first | rfl | simp) (fun w' hw' hctx => ?_) ?_
                          · obtain ⟨hbl, q0⟩ := RowI.cell (RowF.below (HK.out.2.2) (below_tr HBj.out (below_tr hdr hw'))) HY.out
                            go_simp
                            try first | with_reducible rfl | simp
                          simp only [Act.put, List.setIfInBounds_toArray, List.set_cons_zero, List.set_cons_succ]
                          refine RX.seqP_value (fun _ => Below.refl _ _) _ (by first | rfl | simp) (fun w' hw' hctx => by (go_simp); (try first | with_reducible rfl | simp)) ?_
                          simp only [Act.put, List.setIfInBounds_toArray, List.set_cons_zero, List.set_cons_succ]
                          refine RX.seqP_value (fun _ => Below.refl _ _) _ (by first | rfl | simp) (fun w' hw' hctx => by (go_simp); (try first | with_reducible rfl | simp)) ?_
                          simp only [Act.put, List.setIfInBounds_toArray, List.set_cons_zero, List.set_cons_succ]
                          refine RX.seqP_value (fun _ => Below.refl _ _) _ (by first | rfl | simp) (fun w' hw' hctx => by (go_simp); (try first | with_reducible rfl | simp)) ?_
                          simp only [Act.put, List.setIfInBounds_toArray, List.set_cons_zero, List.set_cons_succ]
                          refine RX.seqP_value (fun _ => Below.refl _ _) _ (by first | rfl | simp) (fun w' hw' hctx => by (go_simp); (try first | with_reducible rfl | simp)) ?_
                          simp only [Act.put, List.setIfInBounds_toArray, List.set_cons_zero, List.set_cons_succ]
                          refine RX.seqP_value (fun _ => Below.refl _ _) _ (by first | rfl | simp) (fun w' hw' hctx => by (go_simp); (try first | with_reducible rfl | simp)) ?_
                          simp only [Act.put, List.setIfInBounds_toArray, List.set_cons_zero, List.set_cons_succ]
                          refine RX.seqP_value (fun _ => Below.refl _ _) _ (by first | rfl | simp) (fun w' hw' hctx => ?_) ?_
                          · obtain ⟨hbl, q0⟩ := RowI.cell (RowF.below HRD.out (below_tr HBJ.out (below_tr hdr hw'))) HZ9.out
                            go_simp
                            try first | with_reducible rfl | simp
                          simp only [Act.put, List.setIfInBounds_toArray, List.set_cons_zero, List.set_cons_succ]
                          refine RX.seqP_value (fun _ => Below.refl _ _) _ (by first | rfl | simp) (fun w' hw' hctx => ?_) ?_
                          · obtain ⟨hbl, q0⟩ := RowI.cell (RowF.below HRD.out (below_tr HBJ.out (below_tr hdr hw'))) HZ9.out
                            go_simp
                            try first | with_reducible rfl | simp
                          simp only [Act.put, List.setIfInBounds_toArray, List.set_cons_zero, List.set_cons_succ]
                          refine RX.seqP_call (28) #[.slice ha hn hc, .int .i64 z] (.bool true) (by first | rfl | simp) (fun w' hw' hctx => ?_) (fun w' hw' hctx => in_row _ (fsts A.hd) z w' (RowF.below (HK.out.2.1) (below_tr HBj.out (below_tr hdr hw'))) true HI.out) ?_
                          · go_simp
                          simp only [Act.put, List.setIfInBounds_toArray, List.set_cons_zero, List.set_cons_succ]
                          refine RX.seqP_value (fun _ => Below.refl _ _) _ (by first | rfl | simp) (fun w' hw' hctx => by (go_simp); (try first | with_reducible rfl | simp)) ?_
                          simp only [Act.put, List.setIfInBounds_toArray, List.set_cons_zero, List.set_cons_succ]
                          refine RX.seqP_value (fun _ => Below.refl _ _) _ (by first | rfl | simp) (fun w' hw' hctx => by (go_simp); (try first | with_reducible rfl | simp)) ?_
                          simp only [Act.put, List.setIfInBounds_toArray, List.set_cons_zero, List.set_cons_succ]
                          refine RX.seqP_skip (by first | rfl | simp) ?_
                          simp only [Act.put, List.setIfInBounds_toArray, List.set_cons_zero, List.set_cons_succ]
                          refine RX.seqP_skip (by first | rfl | simp) ?_
                          simp only [Act.put, List.setIfInBounds_toArray, List.set_cons_zero, List.set_cons_succ]
                          refine RX.seqP_skip (by first | rfl | simp) ?_
                          simp only [Act.put, List.setIfInBounds_toArray, List.set_cons_zero, List.set_cons_succ]
                          refine RX.seqP_skip (by first | rfl | simp) ?_
                          simp only [Act.put, List.setIfInBounds_toArray, List.set_cons_zero, List.set_cons_succ]
                          refine RX.seqP_skip (by first | rfl | simp) ?_
                          simp only [Act.put, List.setIfInBounds_toArray, List.set_cons_zero, List.set_cons_succ]
                          refine RX.seqP_skip (by first | rfl | simp) ?_
                          simp only [Act.put, List.setIfInBounds_toArray, List.set_cons_zero, List.set_cons_succ]
                          refine RX.seqP_skip (by first | rfl | simp) ?_
                          simp only [Act.put, List.setIfInBounds_toArray, List.set_cons_zero, List.set_cons_succ]
                          refine RX.seqP_skip (by first | rfl | simp) ?_
                          simp only [Act.put, List.setIfInBounds_toArray, List.set_cons_zero, List.set_cons_succ]
                          refine RX.seqP_skip (by first | rfl | simp) ?_
                          simp only [Act.put, List.setIfInBounds_toArray, List.set_cons_zero, List.set_cons_succ]
                          refine RX.seqP_value (fun _ => Below.refl _ _) _ (by first | rfl | simp) (fun w' hw' hctx => by (go_simp); (try first | with_reducible rfl | simp)) ?_
                          simp only [Act.put, List.setIfInBounds_toArray, List.set_cons_zero, List.set_cons_succ]
                          refine RX.seqP_value (fun _ => Below.refl _ _) _ (by first | rfl | simp) (fun w' hw' hctx => by (go_simp); (try first | with_reducible rfl | simp)) ?_
                          simp only [Act.put, List.setIfInBounds_toArray, List.set_cons_zero, List.set_cons_succ]
                          refine RX.seqP_nil (fun w2 hR hctx _ => ?_)
                          have hb2 := below_tr hdr hR
                          clear hctx hR
                          have HB2 := Lib.hid (And.intro (below_tr HBj.out hb2) (below_tr HBJ.out hb2))
                          clear hb2 hdr
                          go_wp2_with fail
                          go_meet
                          exact ⟨rfl, Lib.hid HB2.out.1, Lib.hid HB2.out.2⟩
                        · have HI := Lib.hid (decide_eq_false h1)
                          have HI2 : Hid (decide (z ∈ (fsts A.wt).take k) = true) := Lib.hid (decide_eq_true (by rw [← fsts_take]; exact hzin.resolve_left h1))
                          clear hzin h1
                          have hdr := below_drw wr
                          try simp only [List.append_eq, List.cons_append, List.nil_append]
                          refine RX.wp_region_plan (fun w w' => Below w.heap.size w w') [.it (.slice (some ⟨wb0, 0, none⟩) wn wc0), .it (.int .i64 j), .it (.pointer (some ⟨wb0, j, none⟩)), .it (.int .i64 z), .it (.slice (some ⟨rb, 0, none⟩) rn rc), .it (.int .i64 k), .it (.pointer (some ⟨rb, k, none⟩)), .it (.int .i64 y), .it (.bool false), .it (.bool false), .it (.slice ha hn hc), .it (.slice (some ⟨wb0, 0, none⟩) wn wc0), .it (.int .i64 j), .it (.pointer (some ⟨wb0, j, none⟩)), .it (.int .i64 z), .it (.bool false), .it (.bool true), .it (.bool true), .it (.slice (some ⟨rb, 0, none⟩) rn rc), .it (.int .i64 k), .it (.slice (some ⟨rb, 0, none⟩) k rc), .it (.slice (some ⟨wb0, 0, none⟩) wn wc0), .it (.int .i64 j), .it (.pointer (some ⟨wb0, j, none⟩)), .it (.int .i64 z), .it (.bool true), .it (.bool false), .it (.bool false), .it (.bool false)] (by kernel_rfl) (by kernel_rfl) (fun _ => Below.refl _ _) (fun _ _ _ => below_tr) ?_
                          refine RX.seqP_value (fun _ => Below.refl _ _) _ (by first | rfl | simp) (fun w' hw' hctx => by (go_simp); (try first | with_reducible rfl | simp)) ?_
                          simp only [Act.put, List.setIfInBounds_toArray, List.set_cons_zero, List.set_cons_succ]
                          refine RX.seqP_value (fun _ => Below.refl _ _) _ (by first | rfl | simp) (fun w' hw' hctx => by (go_simp); (try first | with_reducible rfl | simp)) ?_
                          simp only [Act.put, List.setIfInBounds_toArray, List.set_cons_zero, List.set_cons_succ]
                          refine RX.seqP_value (fun _ => Below.refl _ _) _ (by first | rfl | simp) (fun w' hw' hctx => ?_) ?_
                          · obtain ⟨hbl, q0⟩ := RowI.cell (RowF.below HRD.out (below_tr HBJ.out (below_tr hdr hw'))) HZ9.out
                            go_simp
                            try first | with_reducible rfl | simp
                          simp only [Act.put, List.setIfInBounds_toArray, List.set_cons_zero, List.set_cons_succ]
                          refine RX.seqP_value (fun _ => Below.refl _ _) _ (by first | rfl | simp) (fun w' hw' hctx => ?_) ?_
                          · obtain ⟨hbl, q0⟩ := RowI.cell (RowF.below HRD.out (below_tr HBJ.out (below_tr hdr hw'))) HZ9.out
                            go_simp
                            try first | with_reducible rfl | simp
                          simp only [Act.put, List.setIfInBounds_toArray, List.set_cons_zero, List.set_cons_succ]
                          refine RX.seqP_value (fun _ => Below.refl _ _) _ (by first | rfl | simp) (fun w' hw' hctx => by (go_simp); (try first | with_reducible rfl | simp)) ?_
                          simp only [Act.put, List.setIfInBounds_toArray, List.set_cons_zero, List.set_cons_succ]
                          refine RX.seqP_value (fun _ => Below.refl _ _) _ (by first | rfl | simp) (fun w' hw' hctx => by (go_simp); (try first | with_reducible rfl | simp)) ?_
                          simp only [Act.put, List.setIfInBounds_toArray, List.set_cons_zero, List.set_cons_succ]
                          refine RX.seqP_value (fun _ => Below.refl _ _) _ (by first | rfl | simp) (fun w' hw' hctx => ?_) ?_
                          · obtain ⟨hbl, q0⟩ := RowI.cell (RowF.below (HK.out.2.2) (below_tr HBj.out (below_tr hdr hw'))) HY.out
                            go_simp
                            try first | with_reducible rfl | simp
                          simp only [Act.put, List.setIfInBounds_toArray, List.set_cons_zero, List.set_cons_succ]
                          refine RX.seqP_value (fun _ => Below.refl _ _) _ (by first | rfl | simp) (fun w' hw' hctx => ?_) ?_
                          · obtain ⟨hbl, q0⟩ := RowI.cell (RowF.below (HK.out.2.2) (below_tr HBj.out (below_tr hdr hw'))) HY.out
                            go_simp
                            try first | with_reducible rfl | simp
                          simp only [Act.put, List.setIfInBounds_toArray, List.set_cons_zero, List.set_cons_succ]
                          refine RX.seqP_value (fun _ => Below.refl _ _) _ (by first | rfl | simp) (fun w' hw' hctx => by (go_simp); (try first | with_reducible rfl | simp)) ?_
                          simp only [Act.put, List.setIfInBounds_toArray, List.set_cons_zero, List.set_cons_succ]
                          refine RX.seqP_value (fun _ => Below.refl _ _) _ (by first | rfl | simp) (fun w' hw' hctx => by (go_simp); (try first | with_reducible rfl | simp)) ?_
                          simp only [Act.put, List.setIfInBounds_toArray, List.set_cons_zero, List.set_cons_succ]
                          refine RX.seqP_value (fun _ => Below.refl _ _) _ (by first | rfl | simp) (fun w' hw' hctx => by (go_simp); (try first | with_reducible rfl | simp)) ?_
                          simp only [Act.put, List.setIfInBounds_toArray, List.set_cons_zero, List.set_cons_succ]
                          refine RX.seqP_value (fun _ => Below.refl _ _) _ (by first | rfl | simp) (fun w' hw' hctx => by (go_simp); (try first | with_reducible rfl | simp)) ?_
                          simp only [Act.put, List.setIfInBounds_toArray, List.set_cons_zero, List.set_cons_succ]
                          refine RX.seqP_value (fun _ => Below.refl _ _) _ (by first | rfl | simp) (fun w' hw' hctx => by (go_simp); (try first | with_reducible rfl | simp)) ?_
                          simp only [Act.put, List.setIfInBounds_toArray, List.set_cons_zero, List.set_cons_succ]
                          refine RX.seqP_value (fun _ => Below.refl _ _) _ (by first | rfl | simp) (fun w' hw' hctx => ?_) ?_
                          · obtain ⟨hbl, q0⟩ := RowI.cell (RowF.below HRD.out (below_tr HBJ.out (below_tr hdr hw'))) HZ9.out
                            go_simp
                            try first | with_reducible rfl | simp
                          simp only [Act.put, List.setIfInBounds_toArray, List.set_cons_zero, List.set_cons_succ]
                          refine RX.seqP_value (fun _ => Below.refl _ _) _ (by first | rfl | simp) (fun w' hw' hctx => ?_) ?_
                          · obtain ⟨hbl, q0⟩ := RowI.cell (RowF.below HRD.out (below_tr HBJ.out (below_tr hdr hw'))) HZ9.out
                            go_simp
                            try first | with_reducible rfl | simp
                          simp only [Act.put, List.setIfInBounds_toArray, List.set_cons_zero, List.set_cons_succ]
                          refine RX.seqP_call (28) #[.slice ha hn hc, .int .i64 z] (.bool false) (by first | rfl | simp) (fun w' hw' hctx => ?_) (fun w' hw' hctx => in_row _ (fsts A.hd) z w' (RowF.below (HK.out.2.1) (below_tr HBj.out (below_tr hdr hw'))) false HI.out) ?_
                          · go_simp
                          simp only [Act.put, List.setIfInBounds_toArray, List.set_cons_zero, List.set_cons_succ]
                          refine RX.seqP_value (fun _ => Below.refl _ _) _ (by first | rfl | simp) (fun w' hw' hctx => by (go_simp); (try first | with_reducible rfl | simp)) ?_
                          simp only [Act.put, List.setIfInBounds_toArray, List.set_cons_zero, List.set_cons_succ]
                          refine RX.seqP_value (fun _ => Below.refl _ _) _ (by first | rfl | simp) (fun w' hw' hctx => by (go_simp); (try first | with_reducible rfl | simp)) ?_
                          simp only [Act.put, List.setIfInBounds_toArray, List.set_cons_zero, List.set_cons_succ]
                          refine RX.seqP_value (fun _ => Below.refl _ _) _ (by first | rfl | simp) (fun w' hw' hctx => by (go_simp); (try first | with_reducible rfl | simp)) ?_
                          simp only [Act.put, List.setIfInBounds_toArray, List.set_cons_zero, List.set_cons_succ]
                          refine RX.seqP_value (fun _ => Below.refl _ _) _ (by first | rfl | simp) (fun w' hw' hctx => by (go_simp); (try first | with_reducible rfl | simp)) ?_
                          simp only [Act.put, List.setIfInBounds_toArray, List.set_cons_zero, List.set_cons_succ]
                          refine RX.seqP_value (fun _ => Below.refl _ _) _ (by first | rfl | simp) (fun w' hw' hctx => by (go_simp); (try first | with_reducible rfl | simp)) ?_
                          simp only [Act.put, List.setIfInBounds_toArray, List.set_cons_zero, List.set_cons_succ]
                          refine RX.seqP_value (fun _ => Below.refl _ _) _ (by first | rfl | simp) (fun w' hw' hctx => by (go_simp); (try first | with_reducible rfl | simp)) ?_
                          simp only [Act.put, List.setIfInBounds_toArray, List.set_cons_zero, List.set_cons_succ]
                          refine RX.seqP_value (fun _ => Below.refl _ _) _ (by first | rfl | simp) (fun w' hw' hctx => by (go_simp); (try first | with_reducible rfl | simp)) ?_
                          simp only [Act.put, List.setIfInBounds_toArray, List.set_cons_zero, List.set_cons_succ]
                          refine RX.seqP_value (fun _ => Below.refl _ _) _ (by first | rfl | simp) (fun w' hw' hctx => ?_) ?_
                          · obtain ⟨hbl, q0⟩ := RowI.cell (RowF.below HRD.out (below_tr HBJ.out (below_tr hdr hw'))) HZ9.out
                            go_simp
                            try first | with_reducible rfl | simp
                          simp only [Act.put, List.setIfInBounds_toArray, List.set_cons_zero, List.set_cons_succ]
                          refine RX.seqP_value (fun _ => Below.refl _ _) _ (by first | rfl | simp) (fun w' hw' hctx => ?_) ?_
                          · obtain ⟨hbl, q0⟩ := RowI.cell (RowF.below HRD.out (below_tr HBJ.out (below_tr hdr hw'))) HZ9.out
                            go_simp
                            try first | with_reducible rfl | simp
                          simp only [Act.put, List.setIfInBounds_toArray, List.set_cons_zero, List.set_cons_succ]
                          refine RX.seqP_call (28) #[.slice (some ⟨rb, 0, none⟩) k rc, .int .i64 z] (.bool true) (by first | rfl | simp) (fun w' hw' hctx => ?_) (fun w' hw' hctx => in_row _ ((fsts A.wt).take k) z w' (RowI.cut (RowF.below (HK.out.2.2) (below_tr HBj.out (below_tr hdr hw'))) hkr) true HI2.out) ?_
                          · go_simp
                          simp only [Act.put, List.setIfInBounds_toArray, List.set_cons_zero, List.set_cons_succ]
                          refine RX.seqP_value (fun _ => Below.refl _ _) _ (by first | rfl | simp) (fun w' hw' hctx => by (go_simp); (try first | with_reducible rfl | simp)) ?_
                          simp only [Act.put, List.setIfInBounds_toArray, List.set_cons_zero, List.set_cons_succ]
                          refine RX.seqP_value (fun _ => Below.refl _ _) _ (by first | rfl | simp) (fun w' hw' hctx => by (go_simp); (try first | with_reducible rfl | simp)) ?_
                          simp only [Act.put, List.setIfInBounds_toArray, List.set_cons_zero, List.set_cons_succ]
                          refine RX.seqP_value (fun _ => Below.refl _ _) _ (by first | rfl | simp) (fun w' hw' hctx => by (go_simp); (try first | with_reducible rfl | simp)) ?_
                          simp only [Act.put, List.setIfInBounds_toArray, List.set_cons_zero, List.set_cons_succ]
                          refine RX.seqP_nil (fun w2 hR hctx _ => ?_)
                          have hb2 := below_tr hdr hR
                          clear hctx hR
                          have HB2 := Lib.hid (And.intro (below_tr HBj.out hb2) (below_tr HBJ.out hb2))
                          clear hb2 hdr
                          go_wp2_with fail
                          go_meet
                          exact ⟨rfl, Lib.hid HB2.out.1, Lib.hid HB2.out.2⟩
                      case rest =>
                        obtain ⟨rfl, HB34, HB35⟩ := hcut
                        clear HBj HBJ hzin
                        go_wp2_with fail
                        go_roundg (wn - (j + 1))
                        case measure => have := HLJ.out; omega
                        case rel => exact ⟨j + 1, by have h0 := HCW.out.1; have h1 := HCW.out.2.1; have h2 := HLJ.out; unfold maxLen at h1; rw [wrOk (by omega)]; rfl, by have := HLJ.out; omega, Nat.le_refl _, HB34, HB35⟩
                    · have hltjz : ¬ (j : Int) < (wn : Int) := by omega
                      clear hj hgj hltj
                      go_wp2_with fail
                      go_roundg (rn - (k + 1))
                      case measure => have := HLK.out; omega
                      case rel => exact ⟨k + 1, by have h0 := HCR.out.1; have h1 := HCR.out.2.1; have h2 := HLK.out; unfold maxLen at h1; rw [wrOk (by omega)]; rfl, by have := HLK.out; omega, Nat.le_refl _, HBj⟩
                · have hltkz : ¬ (k : Int) < (rn : Int) := by omega
                  clear hk hgk hltk
                  go_wp2_with fail
                  go_roundg (n - (i + 1))
                  case measure => have := HLT.out; omega
                  case rel => exact ⟨i + 1, by first | rfl | (rw [wrOk (by have := HN.out; have := HLT.out; omega)]; rfl), by have := HLT.out; omega, Nat.le_refl _, Lib.hid ⟨HQ4.out.1.below (below_tr HKB.out HBk.out), HQ4.out.2.trans ((below_tr HKB.out HBk.out).mono HQ4.out.2.size)⟩⟩
        · have hltz : ¬ (i : Int) < (n : Int) := by omega
          have hin : i = n := by omega
          subst hin
          clear hi hgg hlt
          obtain ⟨A, hA⟩ : ∃ A, (Lk.new c).play (l.take i) = A := ⟨_, rfl⟩
          have HQ : Hid (Qu (fun _ => False) w.heap.size wr h i A) := Lib.hid (by rw [← hA]; exact HJ.out.1)
          have HB := Lib.hid HJ.out.2
          have HLEN : Hid (A.hd.length + A.wt.length ≤ 100) := Lib.hid (by
            have h1 := play_len (Lk.new c) (l.take i)
            rw [hA] at h1
            have h2 := HN.out
            have h3 : (l.take i).length ≤ i := List.length_take_le _ _
            have e : (Lk.new c).hd.length + (Lk.new c).wt.length = 0 := rfl
            omega)
          obtain ⟨q, hq⟩ : ∃ q, decide (A.hd = [] ∧ A.wt = []) = q := ⟨_, rfl⟩
          have HD := Lib.hid hq
          have hcon := idle_q HQ.out q hq
          clear HJ hA hq
          go_wp2_with fail
          refine (show Calls Try.prog _ _ _ _ from hcon).mono ?_
          rintro e wa ⟨rfl, hb⟩
          have HQa := Lib.hid (HQ.out.below hb)
          have HBa := Lib.hid (below_tr HB.out hb)
          have hcon := holders_q (by have := HN.out; omega) HQa.out
          clear hb HQ HB
          go_wp2_with fail
          refine (show Calls Try.prog _ _ _ _ from hcon).mono ?_
          rintro e wb ⟨v, rfl, hr, -, hb⟩
          obtain ⟨ha, hc, rfl, -, -⟩ := hr.form
          obtain ⟨hn, hn0⟩ : ∃ k, (fsts A.hd).length = k := ⟨_, rfl⟩
          rw [hn0] at hr ⊢
          have HHN := Lib.hid hn0
          clear hn0
          have HQb := Lib.hid (HQa.out.below hb)
          have HBb := Lib.hid (below_tr HBa.out hb)
          have hcon := row_q (by have := HN.out; omega) HQb.out
          have HCH := Lib.hid (RowI.cap hr)
          clear hb hr HQa HBa
          go_wp2_with fail
          refine (show Calls Try.prog _ _ _ _ from hcon).mono ?_
          rintro e wc ⟨v, rfl, hr, -, hb⟩
          obtain ⟨ra, rc, rfl, -, -⟩ := hr.form
          obtain ⟨rn, rn0⟩ : ∃ k, (fsts A.wt).length = k := ⟨_, rfl⟩
          rw [rn0] at hr ⊢
          have HRN := Lib.hid rn0
          clear rn0
          have HBc := Lib.hid (below_tr HBb.out hb)
          have hadd : wrap64 ((hn : Int) + (rn : Int)) = (hn : Int) + (rn : Int) := wrOk (by
            have h3 := HLEN.out
            have h4 := HHN.out
            have h5 := HRN.out
            rw [fsts_len] at h4 h5
            omega)
          have hlast : (q == ((hn : Int) + (rn : Int) == 0)) = true := by
            rw [← HD.out]
            have h4 := HHN.out
            have h5 := HRN.out
            rw [fsts_len] at h4 h5
            by_cases h1 : A.hd = [] ∧ A.wt = []
            · rw [decide_eq_true h1]
              rw [h1.1] at h4
              rw [h1.2] at h5
              simp at h4 h5
              subst h4 h5
              rfl
            · rw [decide_eq_false h1]
              have : ¬ ((hn : Int) + (rn : Int) = 0) := fun e => h1 ⟨List.eq_nil_of_length_eq_zero (by omega), List.eq_nil_of_length_eq_zero (by omega)⟩
              have e2 : ((hn : Int) + (rn : Int) == 0) = false := by rw [beq_eq_false_iff_ne]; exact this
              rw [e2]; rfl
          clear hb hr HQb HBb hcon
          go_wp2_with fail
          go_ret
          exact ⟨rfl, HBc.out⟩
    · have hcon := new_bad c w1 (by omega)
      go_wp2_with fail
      refine (show Calls Try.prog _ _ _ _ from hcon).mono ?_
      rintro e w3 ⟨rfl, hb⟩
      clear hcon
      have HB3 := Lib.hid (below_tr HB1.out hb)
      clear hb HB1
      go_wp2_with fail
      go_ret
      exact ⟨rfl, HB3.out⟩

end Go.Proofs.Ytjjhmfpdbjflmaa
