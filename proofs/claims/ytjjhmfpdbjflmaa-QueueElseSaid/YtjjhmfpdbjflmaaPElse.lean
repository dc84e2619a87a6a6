/-
  The law QueueElse, walked.
-/
import Derived.Test.YtjjhmfpdbjflmaaPRowG
namespace Go.Proofs.Ytjjhmfpdbjflmaa
open Go.RowKit
set_option linter.unusedVariables false

set_option maxRecDepth 100000 in
set_option maxHeartbeats 8000000 in
theorem else_law (c : Int) (hc : U8 c) (a : Option Addr) (cc n : Nat) (l : List Stp) (hln : l.length = n) (x : Int) (hx : I64 x) (w : World) (hs : SlSt w a cc l) :
    Calls Try.prog 7 #[.int .u8 c, .slice a n cc, .int .i64 x] w fun e w' => e = .returned (.bool true) ∧ Below w.heap.size w w' := by
  have mixed : Try.prog.follows Departure.mixedOrders = true := by kernel_rfl
  have HS := Lib.hid hs
  have HLN := Lib.hid hln
  have HC8 := Lib.hid hc
  have HX := Lib.hid hx
  clear hs hln hc hx
  go_enter Try.func7, Try.ntmps7
  by_cases h100 : (100 : Int) < (n : Int)
  · go_wp2_with fail
    refine (awake_is _).mono ?_
    rintro e w1 ⟨rfl, hb⟩
    have HB := Lib.hid hb
    clear hb
    go_wp2_with fail
    go_ret
    exact ⟨rfl, HB.out⟩
  · have HN : Hid (n ≤ 100) := Lib.hid (by omega)
    by_cases hx1 : x < 1
    · go_wp2_with fail
      refine (awake_is _).mono ?_
      rintro e w1 ⟨rfl, hb⟩
      have HB := Lib.hid hb
      clear hb
      go_wp2_with fail
      go_ret
      exact ⟨rfl, HB.out⟩
    have HX1 : Hid (1 ≤ x) := Lib.hid (by omega)
    go_wp2_with fail
    refine (awake_is _).mono ?_
    rintro e w1 ⟨rfl, hb1⟩
    have HB1 := Lib.hid hb1
    clear hb1
    by_cases hcl : c = 1 ∨ c = 2
    · have HCL := Lib.hid hcl
      have hcon := new_q c w1 hcl
      go_wp2_with fail
      refine (show Calls Try.prog _ _ _ _ from hcon).mono ?_
      rintro e w3 ⟨h, rfl, hq, hb⟩
      clear hcon
      have HQ3 := Lib.hid (hq.older HB1.out.size)
      have HB3 := Lib.hid (below_tr HB1.out hb)
      clear hq hb HB1 hcl
      have hplay := play_q a n cc l HLN.out (by have := HN.out; omega) (fun W' ht => HS.out.below (HB3.out.trans (ht.below (fun k hk => hk.1) HQ3.out.nw))) HQ3.out
      have HPL := Lib.hid hplay
      clear hplay
      go_wp2_with fail
      refine HPL.out.mono ?_
      rintro e w4 ⟨rfl, hq, ht⟩
      obtain ⟨A, hA⟩ : ∃ A, (Lk.new c).play l = A := ⟨_, rfl⟩
      have hac : A.c = c := by rw [← hA, play_c]; rfl
      rw [hA] at hq
      have HAC := Lib.hid hac
      have HQ4 : Hid (Qu (fun _ => False) w.heap.size w4 h n A) := Lib.hid (hq.mono (by omega))
      have HB4 : Hid (Below w.heap.size w w4) := Lib.hid (HB3.out.trans (ht.below (fun k hk => hk.1) HQ3.out.nw))
      clear hq ht hA hac HPL HQ3 HB3
      have hcon := copy_q (by have := HN.out; omega) HQ4.out
      go_wp2_with fail
      refine (show Calls Try.prog _ _ _ _ from hcon).mono ?_
      rintro e w5 ⟨h2, rfl, hq, hb⟩
      clear hcon
      obtain ⟨Y, hY, hst⟩ := hq.own
      have HQ5 := Lib.hid (HQ4.out.apart (Y := Y) (fun k hk => (hY k hk).1.1) hb.size (fun k hk => (hY k hk).2) hb)
      have HST := Lib.hid hst
      have HB5 := Lib.hid (below_tr HB4.out hb)
      clear hq hb hY hst HQ4 HB4
      have e0 : Lk.dropE x = 0 := by have := HX1.out; unfold Lk.dropE; rw [if_neg (by omega)]
      have hcon := drop_q x HX.out (by have := HN.out; omega) HQ5.out
      go_wp2_with fail
      refine (show Calls Try.prog _ _ _ _ from hcon).mono ?_
      rintro e w6 ⟨v, rfl, hr, -, hq, ht⟩
      clear hcon
      rw [e0]
      have HEL := Lib.hid (HQ5.out.ok.else HX1.out)
      have HNO := Lib.hid (fun h1 h2 => HQ5.out.ok.none (x := x) h1 h2)
      have HOK := Lib.hid HQ5.out.ok
      have HW6 := Lib.hid (HST.out w6 (ht.stay (fun k hk hf => hf.2 (.inr hk))))
      have HB6 : Hid (Below w.heap.size w w6) := Lib.hid (HB5.out.trans (ht.below (fun k hk => hk.1) HQ5.out.nw))
      obtain ⟨B, hB⟩ : ∃ B, A.drop x = B := ⟨_, rfl⟩
      obtain ⟨G, hG⟩ : ∃ G, A.dropG x = G := ⟨_, rfl⟩
      have hbc : B.c = c := by rw [← hB, drop_c, HAC.out]
      rw [hB] at hq HEL HNO
      rw [hG] at hr HEL HNO
      rw [HAC.out] at HEL
      have HBC := Lib.hid hbc
      have HBO := Lib.hid hq.ok
      have HL6 := Lib.hid hq
      obtain ⟨ga, gc, rfl, -, -⟩ := hr.form
      obtain ⟨gn, gn0⟩ : ∃ k, (G).length = k := ⟨_, rfl⟩
      rw [gn0] at hr ⊢
      have HGN := Lib.hid gn0
      clear gn0
      have HG6 := Lib.hid hr
      clear hr hq ht hbc hB hG e0 HST HQ5 HB5
      have hz0 : heldL B.hd x = 0 := HEL.out.no.1
      have hcon := held_q x HX.out HL6.out 0 hz0
      go_wp2_with fail
      refine (show Calls Try.prog _ _ _ _ from hcon).mono ?_
      rintro e w7 ⟨rfl, hb⟩
      clear hcon
      have HL7 := Lib.hid (HL6.out.below hb)
      have HW7 := Lib.hid (HW6.out.below hb)
      have HG7 := Lib.hid (RowF.below HG6.out hb)
      have HB7 := Lib.hid (below_tr HB6.out hb)
      clear hb HL6 HW6 HG6 HB6 hz0
      have hcon := holders_q (by have := HN.out; omega) HW7.out
      go_wp2_with fail
      refine (show Calls Try.prog _ _ _ _ from hcon).mono ?_
      rintro e w8 ⟨v, rfl, hr, -, hb⟩
      clear hcon
      obtain ⟨ha, hc, rfl, -, -⟩ := hr.form
      obtain ⟨hn, hn0⟩ : ∃ k, (fsts A.hd).length = k := ⟨_, rfl⟩
      rw [hn0] at hr ⊢
      have HHN := Lib.hid hn0
      clear hn0
      have HH8 := Lib.hid hr
      have HL8 := Lib.hid (HL7.out.below hb)
      have HW8 := Lib.hid (HW7.out.below hb)
      have HG8 := Lib.hid (RowF.below HG7.out hb)
      have HB8 := Lib.hid (below_tr HB7.out hb)
      clear hb hr HL7 HW7 HG7 HB7
      have hcon := row_q (by have := HN.out; omega) HW8.out
      go_wp2_with fail
      refine (show Calls Try.prog _ _ _ _ from hcon).mono ?_
      rintro e w9 ⟨v, rfl, hr, -, hb⟩
      clear hcon
      obtain ⟨ra, rc, rfl, -, -⟩ := hr.form
      obtain ⟨rn, rn0⟩ : ∃ k, (fsts A.wt).length = k := ⟨_, rfl⟩
      rw [rn0] at hr ⊢
      have HRN := Lib.hid rn0
      clear rn0
      have HK := Lib.hid (And.intro (HL8.out.below hb) (And.intro (HW8.out.below hb) (And.intro (RowF.below HG8.out hb) (And.intro (RowF.below HH8.out hb) (And.intro hr (below_tr HB8.out hb))))))
      clear hb hr HL8 HW8 HG8 HB8 HH8
      go_upto_region 12 with (fail)
      go_cut [92] (fun sx wx => sx = .bool false ∧ Hid (Below w9.heap.size w9 wx))
      case first =>
        have hin1 := fun q hq => in_row _ (fsts A.hd) x w9 HK.out.2.2.2.1 q hq
        by_cases h1 : x ∈ fsts A.hd
        · have hcon := hin1 true (decide_eq_true h1)
          clear hin1
          go_wp2_with fail
          refine (show Calls Try.prog _ _ _ _ from hcon).mono ?_
          rintro e wa ⟨rfl, hb⟩
          have HBa := Lib.hid hb
          clear hb hcon
          go_wp2_with fail
          go_meet
          exact ⟨rfl, HBa⟩
        · have hcon := hin1 false (decide_eq_false h1)
          clear hin1
          go_wp2_with fail
          refine (show Calls Try.prog _ _ _ _ from hcon).mono ?_
          rintro e wa ⟨rfl, hb⟩
          have HBa := Lib.hid hb
          have hin2 := fun q hq => in_row _ (fsts A.wt) x wa (RowF.below HK.out.2.2.2.2.1 hb) q hq
          clear hb hcon
          by_cases h2 : x ∈ fsts A.wt
          · have hcon := hin2 true (decide_eq_true h2)
            clear hin2
            go_wp2_with fail
            refine (show Calls Try.prog _ _ _ _ from hcon).mono ?_
            rintro e wb ⟨rfl, hb⟩
            have HBb := Lib.hid (below_tr HBa.out hb)
            clear hb hcon
            go_wp2_with fail
            go_meet
            exact ⟨rfl, HBb⟩
          · have hcon := hin2 false (decide_eq_false h2)
            clear hin2
            go_wp2_with fail
            refine (show Calls Try.prog _ _ _ _ from hcon).mono ?_
            rintro e wb ⟨rfl, hb⟩
            have HBb := Lib.hid (below_tr HBa.out hb)
            clear hb hcon
            have hno := HNO.out h1 h2
            obtain rfl : gn = 0 := by rw [← HGN.out, hno.2]; rfl
            have HBA := Lib.hid hno.1
            clear hno
            have hcon := holders_q (by have := HN.out; omega) (HK.out.1.below HBb.out)
            go_wp2_with fail
            refine (show Calls Try.prog _ _ _ _ from hcon).mono ?_
            rintro e wc ⟨v, rfl, hr, -, hb⟩
            have HBc := Lib.hid (below_tr HBb.out hb)
            have hcon2 := ints_is _ _ _ _ true (by rw [HBA.out]; exact decide_eq_true rfl) wc hr (RowF.below HK.out.2.2.2.1 HBc.out)
            clear hb hcon hr
            go_wp2_with fail
            refine (show Calls Try.prog _ _ _ _ from hcon2).mono ?_
            rintro e wd ⟨rfl, hb⟩
            have HBd := Lib.hid (below_tr HBc.out hb)
            clear hb hcon2
            have hcon := row_q (by have := HN.out; omega) (HK.out.1.below HBd.out)
            go_wp2_with fail
            refine (show Calls Try.prog _ _ _ _ from hcon).mono ?_
            rintro e we ⟨v, rfl, hr, -, hb⟩
            have HBe := Lib.hid (below_tr HBd.out hb)
            have hcon2 := ints_is _ _ _ _ true (by rw [HBA.out]; exact decide_eq_true rfl) we hr (RowF.below HK.out.2.2.2.2.1 HBe.out)
            clear hb hcon hr
            go_wp2_with fail
            refine (show Calls Try.prog _ _ _ _ from hcon2).mono ?_
            rintro e wf ⟨rfl, hb⟩
            have HBf := Lib.hid (below_tr HBe.out hb)
            clear hb hcon2
            go_wp2_with fail
            go_meet
            exact ⟨rfl, HBf⟩
      case rest =>
        obtain ⟨rfl, HB10⟩ := hcut
        rename World => w10
        go_wp2_with fail
        go_loopg [13] hn (fun gg s13 wr => ∃ (i : Nat), s13 = .int .i64 i ∧ i ≤ hn ∧ hn - i ≤ gg ∧ Hid (Below w9.heap.size w9 wr))
        case atStart => exact ⟨0, rfl, Nat.zero_le _, by omega, HB10⟩
        case round =>
          obtain ⟨i, rfl, hi, hgg, HBq⟩ := hrel
          clear HB10
          by_cases hlt : i < hn
          · have hltz : (i : Int) < (hn : Int) := by omega
            obtain ⟨y, hy⟩ := get_int (l := fsts A.hd) (i := i) (by rw [HHN.out]; exact hlt)
            obtain ⟨hb0, rfl, hbl, q0⟩ := RowI.look (RowF.below (HK.out.2.2.2.1) HBq.out) hy
            have hcap := RowI.cap (HK.out.2.2.2.1)
            have hnc := hcap.1
            have HY := Lib.hid hy
            have HLT := Lib.hid (And.intro hlt (And.intro hi hgg))
            have HCAP := Lib.hid hcap
            clear hy hi hgg hcap hnc hbl q0
            by_cases hyx : y = x
            · have hne : (y != x) = false := by rw [hyx]; exact bne_self_eq_false x
              go_upto_region 17 with (fail)
              have hdr := below_drw wr
              try simp only [List.append_eq, List.cons_append, List.nil_append]
              refine RX.wp_region_plan (fun w w' => Below w.heap.size w w') [.it (.slice (some ⟨hb0, 0, none⟩) hn hc), .it (.int .i64 i), .it (.pointer (some ⟨hb0, i, none⟩)), .it (.int .i64 y), .it (.int .i64 x), .it (.bool false), .it (.bool false), .it undef, .it undef, .it undef, .it undef, .it undef, .it undef, .it undef, .it undef, .it undef, .it undef, .it undef, .it undef, .it undef, .it undef, .it (.bool false)] (by kernel_rfl) (by kernel_rfl) (fun _ => Below.refl _ _) (fun _ _ _ => below_tr) ?_
              refine RX.seqP_value (fun _ => Below.refl _ _) _ (by first | rfl | simp) (fun w' hw' hctx => by (go_simp); (try first | with_reducible rfl | simp)) ?_
              simp only [Act.put, List.setIfInBounds_toArray, List.set_cons_zero, List.set_cons_succ]
              refine RX.seqP_value (fun _ => Below.refl _ _) _ (by first | rfl | simp) (fun w' hw' hctx => by (go_simp); (try first | with_reducible rfl | simp)) ?_
              simp only [Act.put, List.setIfInBounds_toArray, List.set_cons_zero, List.set_cons_succ]
              refine RX.seqP_value (fun _ => Below.refl _ _) _ (by first | rfl | simp) (fun w' hw' hctx => ?_) ?_
              · obtain ⟨hbl, q0⟩ := RowI.cell (RowF.below HK.out.2.2.2.1 (below_tr HBq.out (below_tr hdr hw'))) HY.out
                go_simp
                try first | with_reducible rfl | simp
              simp only [Act.put, List.setIfInBounds_toArray, List.set_cons_zero, List.set_cons_succ]
              refine RX.seqP_value (fun _ => Below.refl _ _) _ (by first | rfl | simp) (fun w' hw' hctx => ?_) ?_
              · obtain ⟨hbl, q0⟩ := RowI.cell (RowF.below HK.out.2.2.2.1 (below_tr HBq.out (below_tr hdr hw'))) HY.out
                go_simp
                try first | with_reducible rfl | simp
              simp only [Act.put, List.setIfInBounds_toArray, List.set_cons_zero, List.set_cons_succ]
              refine RX.seqP_value (fun _ => Below.refl _ _) _ (by first | rfl | simp) (fun w' hw' hctx => by (go_simp); (try first | with_reducible rfl | simp)) ?_
              simp only [Act.put, List.setIfInBounds_toArray, List.set_cons_zero, List.set_cons_succ]
              refine RX.seqP_value (fun _ => Below.refl _ _) _ (by first | rfl | simp) (fun w' hw' hctx => by (go_simp); (try first | with_reducible rfl | simp)) ?_
              simp only [Act.put, List.setIfInBounds_toArray, List.set_cons_zero, List.set_cons_succ]
              refine RX.seqP_value (fun _ => Below.refl _ _) _ (by first | rfl | simp) (fun w' hw' hctx => by (go_simp); (try first | with_reducible rfl | simp)) ?_
              simp only [Act.put, List.setIfInBounds_toArray, List.set_cons_zero, List.set_cons_succ]
              refine RX.seqP_skip (by first | rfl | simp) ?_
              simp only [Act.put, List.setIfInBounds_toArray, List.set_cons_zero, List.set_cons_succ]
              refine RX.seqP_skip (by first | rfl | simp) ?_
              simp only [Act.put, List.setIfInBounds_toArray, List.set_cons_zero, List.set_cons_succ]
              refine RX.seqP_skip (by first | rfl | simp) ?_
              simp only [Act.put, List.setIfInBounds_toArray, List.set_cons_zero, List.set_cons_succ]
              refine RX.seqP_skip (by first | rfl | simp) ?_
              simp only [Act.put, List.setIfInBounds_toArray, List.set_cons_zero, List.set_cons_succ]
              refine RX.seqP_skip (by first | rfl | simp) ?_
              simp only [Act.put, List.setIfInBounds_toArray, List.set_cons_zero, List.set_cons_succ]
              refine RX.seqP_skip (by first | rfl | simp) ?_
              simp only [Act.put, List.setIfInBounds_toArray, List.set_cons_zero, List.set_cons_succ]
              refine RX.seqP_skip (by first | rfl | simp) ?_
              simp only [Act.put, List.setIfInBounds_toArray, List.set_cons_zero, List.set_cons_succ]
              refine RX.seqP_skip (by first | rfl | simp) ?_
              simp only [Act.put, List.setIfInBounds_toArray, List.set_cons_zero, List.set_cons_succ]
              refine RX.seqP_skip (by first | rfl | simp) ?_
              simp only [Act.put, List.setIfInBounds_toArray, List.set_cons_zero, List.set_cons_succ]
              refine RX.seqP_skip (by first | rfl | simp) ?_
              simp only [Act.put, List.setIfInBounds_toArray, List.set_cons_zero, List.set_cons_succ]
              refine RX.seqP_skip (by first | rfl | simp) ?_
              simp only [Act.put, List.setIfInBounds_toArray, List.set_cons_zero, List.set_cons_succ]
              refine RX.seqP_skip (by first | rfl | simp) ?_
              simp only [Act.put, List.setIfInBounds_toArray, List.set_cons_zero, List.set_cons_succ]
              refine RX.seqP_skip (by first | rfl | simp) ?_
              simp only [Act.put, List.setIfInBounds_toArray, List.set_cons_zero, List.set_cons_succ]
              refine RX.seqP_skip (by first | rfl | simp) ?_
              simp only [Act.put, List.setIfInBounds_toArray, List.set_cons_zero, List.set_cons_succ]
              refine RX.seqP_value (fun _ => Below.refl _ _) _ (by first | rfl | simp) (fun w' hw' hctx => by (go_simp); (try first | with_reducible rfl | simp)) ?_
              simp only [Act.put, List.setIfInBounds_toArray, List.set_cons_zero, List.set_cons_succ]
              refine RX.seqP_nil (fun w2 hR hctx _ => ?_)
              have hb2 := below_tr hdr hR
              clear hctx hR
              have HB2 := Lib.hid (below_tr HBq.out hb2)
              clear hb2 hdr
              go_wp2_with fail
              go_roundg (hn - (i + 1))
              case measure => have := HLT.out; omega
              case rel => exact ⟨i + 1, by have h0 := HCAP.out.1; have h1 := HCAP.out.2.1; have h2 := HLT.out; unfold maxLen at h1; rw [wrOk (by omega)]; rfl, by have := HLT.out; omega, Nat.le_refl _, HB2⟩
            · have hne : (y != x) = true := by simpa using hyx
              obtain ⟨m, hm⟩ := fst_get HY.out
              have HY64 : Hid (I64 y) := Lib.hid (HOK.out.ok.held _ (List.mem_of_getElem? hm)).2.1
              obtain ⟨o1, ho1⟩ : ∃ o, heldL A.hd y = o := ⟨_, rfl⟩
              obtain ⟨o2, ho2⟩ : ∃ o, heldL B.hd y = o := ⟨_, rfl⟩
              have hno : (bits .andNot .u16 o1 o2 != 0) = false := andNot_none (by rw [← ho1]; exact held_u16 HOK.out.ok y) (by rw [← ho2]; exact held_u16 HBO.out.ok y) (fun k hk => by rw [← ho1] at hk; rw [← ho2]; exact HEL.out.more y k hyx hk)
              have HO1 := Lib.hid ho1
              have HO2 := Lib.hid ho2
              clear hm ho1 ho2 hyx
              go_upto_region 17 with (fail)
              have hdr := below_drw wr
              try simp only [List.append_eq, List.cons_append, List.nil_append]
              refine RX.wp_region_plan (fun w w' => Below w.heap.size w w') [.it (.slice (some ⟨hb0, 0, none⟩) hn hc), .it (.int .i64 i), .it (.pointer (some ⟨hb0, i, none⟩)), .it (.int .i64 y), .it (.int .i64 x), .it (.bool true), .it (.bool true), .it (.pointer (some ⟨h2, 0, none⟩)), .it (.slice (some ⟨hb0, 0, none⟩) hn hc), .it (.int .i64 i), .it (.pointer (some ⟨hb0, i, none⟩)), .it (.int .i64 y), .it (.int .u16 o1), .it (.pointer (some ⟨h, 0, none⟩)), .it (.slice (some ⟨hb0, 0, none⟩) hn hc), .it (.int .i64 i), .it (.pointer (some ⟨hb0, i, none⟩)), .it (.int .i64 y), .it (.int .u16 o2), .it (.int .u16 (bits .andNot .u16 o1 o2)), .it (.bool false), .it (.bool false)] (by kernel_rfl) (by kernel_rfl) (fun _ => Below.refl _ _) (fun _ _ _ => below_tr) ?_
              refine RX.seqP_value (fun _ => Below.refl _ _) _ (by first | rfl | simp) (fun w' hw' hctx => by (go_simp); (try first | with_reducible rfl | simp)) ?_
              simp only [Act.put, List.setIfInBounds_toArray, List.set_cons_zero, List.set_cons_succ]
              refine RX.seqP_value (fun _ => Below.refl _ _) _ (by first | rfl | simp) (fun w' hw' hctx => by (go_simp); (try first | with_reducible rfl | simp)) ?_
              simp only [Act.put, List.setIfInBounds_toArray, List.set_cons_zero, List.set_cons_succ]
              refine RX.seqP_value (fun _ => Below.refl _ _) _ (by first | rfl | simp) (fun w' hw' hctx => ?_) ?_
              · obtain ⟨hbl, q0⟩ := RowI.cell (RowF.below HK.out.2.2.2.1 (below_tr HBq.out (below_tr hdr hw'))) HY.out
                go_simp
                try first | with_reducible rfl | simp
              simp only [Act.put, List.setIfInBounds_toArray, List.set_cons_zero, List.set_cons_succ]
              refine RX.seqP_value (fun _ => Below.refl _ _) _ (by first | rfl | simp) (fun w' hw' hctx => ?_) ?_
              · obtain ⟨hbl, q0⟩ := RowI.cell (RowF.below HK.out.2.2.2.1 (below_tr HBq.out (below_tr hdr hw'))) HY.out
                go_simp
                try first | with_reducible rfl | simp
              simp only [Act.put, List.setIfInBounds_toArray, List.set_cons_zero, List.set_cons_succ]
              refine RX.seqP_value (fun _ => Below.refl _ _) _ (by first | rfl | simp) (fun w' hw' hctx => by (go_simp); (try first | with_reducible rfl | simp)) ?_
              simp only [Act.put, List.setIfInBounds_toArray, List.set_cons_zero, List.set_cons_succ]
              refine RX.seqP_value (fun _ => Below.refl _ _) _ (by first | rfl | simp) (fun w' hw' hctx => by (go_simp); (try first | with_reducible rfl | simp)) ?_
              simp only [Act.put, List.setIfInBounds_toArray, List.set_cons_zero, List.set_cons_succ]
              refine RX.seqP_value (fun _ => Below.refl _ _) _ (by first | rfl | simp) (fun w' hw' hctx => by (go_simp); (try first | with_reducible rfl | simp)) ?_
              simp only [Act.put, List.setIfInBounds_toArray, List.set_cons_zero, List.set_cons_succ]
              refine RX.seqP_value (fun _ => Below.refl _ _) _ (by first | rfl | simp) (fun w' hw' hctx => by (go_simp); (try first | with_reducible rfl | simp)) ?_
              simp only [Act.put, List.setIfInBounds_toArray, List.set_cons_zero, List.set_cons_succ]
              refine RX.seqP_value (fun _ => Below.refl _ _) _ (by first | rfl | simp) (fun w' hw' hctx => by (go_simp); (try first | with_reducible rfl | simp)) ?_
              simp only [Act.put, List.setIfInBounds_toArray, List.set_cons_zero, List.set_cons_succ]
              refine RX.seqP_value (fun _ => Below.refl _ _) _ (by first | rfl | simp) (fun w' hw' hctx => by (go_simp); (try first | with_reducible rfl | simp)) ?_
              simp only [Act.put, List.setIfInBounds_toArray, List.set_cons_zero, List.set_cons_succ]
              refine RX.seqP_value (fun _ => Below.refl _ _) _ (by first | rfl | simp) (fun w' hw' hctx => ?_) ?_
              · obtain ⟨hbl, q0⟩ := RowI.cell (RowF.below HK.out.2.2.2.1 (below_tr HBq.out (below_tr hdr hw'))) HY.out
                go_simp
                try first | with_reducible rfl | simp
              simp only [Act.put, List.setIfInBounds_toArray, List.set_cons_zero, List.set_cons_succ]
              refine RX.seqP_value (fun _ => Below.refl _ _) _ (by first | rfl | simp) (fun w' hw' hctx => ?_) ?_
              · obtain ⟨hbl, q0⟩ := RowI.cell (RowF.below HK.out.2.2.2.1 (below_tr HBq.out (below_tr hdr hw'))) HY.out
                go_simp
                try first | with_reducible rfl | simp
              simp only [Act.put, List.setIfInBounds_toArray, List.set_cons_zero, List.set_cons_succ]
              refine RX.seqP_call (20) #[.pointer (some ⟨h2, 0, none⟩), .int .i64 y] (.int .u16 o1) (by first | rfl | simp) (fun w' hw' hctx => ?_) (fun w' hw' hctx => held_q y HY64.out (HK.out.2.1.below (below_tr HBq.out (below_tr hdr hw'))) o1 HO1.out) ?_
              · go_simp
              simp only [Act.put, List.setIfInBounds_toArray, List.set_cons_zero, List.set_cons_succ]
              refine RX.seqP_value (fun _ => Below.refl _ _) _ (by first | rfl | simp) (fun w' hw' hctx => by (go_simp); (try first | with_reducible rfl | simp)) ?_
              simp only [Act.put, List.setIfInBounds_toArray, List.set_cons_zero, List.set_cons_succ]
              refine RX.seqP_value (fun _ => Below.refl _ _) _ (by first | rfl | simp) (fun w' hw' hctx => by (go_simp); (try first | with_reducible rfl | simp)) ?_
              simp only [Act.put, List.setIfInBounds_toArray, List.set_cons_zero, List.set_cons_succ]
              refine RX.seqP_value (fun _ => Below.refl _ _) _ (by first | rfl | simp) (fun w' hw' hctx => by (go_simp); (try first | with_reducible rfl | simp)) ?_
              simp only [Act.put, List.setIfInBounds_toArray, List.set_cons_zero, List.set_cons_succ]
              refine RX.seqP_value (fun _ => Below.refl _ _) _ (by first | rfl | simp) (fun w' hw' hctx => ?_) ?_
              · obtain ⟨hbl, q0⟩ := RowI.cell (RowF.below HK.out.2.2.2.1 (below_tr HBq.out (below_tr hdr hw'))) HY.out
                go_simp
                try first | with_reducible rfl | simp
              simp only [Act.put, List.setIfInBounds_toArray, List.set_cons_zero, List.set_cons_succ]
              refine RX.seqP_value (fun _ => Below.refl _ _) _ (by first | rfl | simp) (fun w' hw' hctx => ?_) ?_
              · obtain ⟨hbl, q0⟩ := RowI.cell (RowF.below HK.out.2.2.2.1 (below_tr HBq.out (below_tr hdr hw'))) HY.out
                go_simp
                try first | with_reducible rfl | simp
              simp only [Act.put, List.setIfInBounds_toArray, List.set_cons_zero, List.set_cons_succ]
              refine RX.seqP_call (20) #[.pointer (some ⟨h, 0, none⟩), .int .i64 y] (.int .u16 o2) (by first | rfl | simp) (fun w' hw' hctx => ?_) (fun w' hw' hctx => held_q y HY64.out (HK.out.1.below (below_tr HBq.out (below_tr hdr hw'))) o2 HO2.out) ?_
              · go_simp
              simp only [Act.put, List.setIfInBounds_toArray, List.set_cons_zero, List.set_cons_succ]
              refine RX.seqP_value (fun _ => Below.refl _ _) _ (by first | rfl | simp) (fun w' hw' hctx => by (go_simp); (try first | with_reducible rfl | simp)) ?_
              simp only [Act.put, List.setIfInBounds_toArray, List.set_cons_zero, List.set_cons_succ]
              refine RX.seqP_value (fun _ => Below.refl _ _) _ (by first | rfl | simp) (fun w' hw' hctx => by (go_simp); (try first | with_reducible rfl | simp)) ?_
              simp only [Act.put, List.setIfInBounds_toArray, List.set_cons_zero, List.set_cons_succ]
              refine RX.seqP_value (fun _ => Below.refl _ _) _ (by first | rfl | simp) (fun w' hw' hctx => by (go_simp); (try first | with_reducible rfl | simp)) ?_
              simp only [Act.put, List.setIfInBounds_toArray, List.set_cons_zero, List.set_cons_succ]
              refine RX.seqP_nil (fun w2 hR hctx _ => ?_)
              have hb2 := below_tr hdr hR
              clear hctx hR
              have HB2 := Lib.hid (below_tr HBq.out hb2)
              clear hb2 hdr
              go_wp2_with fail
              go_roundg (hn - (i + 1))
              case measure => have := HLT.out; omega
              case rel => exact ⟨i + 1, by have h0 := HCAP.out.1; have h1 := HCAP.out.2.1; have h2 := HLT.out; unfold maxLen at h1; rw [wrOk (by omega)]; rfl, by have := HLT.out; omega, Nat.le_refl _, HB2⟩
          · have hltz : ¬ (i : Int) < (hn : Int) := by omega
            clear hi hgg hlt
            go_wp2_with fail
            go_loopg [14] gn (fun gg s14 wr => ∃ (j : Nat), s14 = .int .i64 j ∧ j ≤ gn ∧ gn - j ≤ gg ∧ Hid (Below w9.heap.size w9 wr))
            case atStart => exact ⟨0, rfl, Nat.zero_le _, by omega, HBq⟩
            case round =>
              obtain ⟨j, rfl, hj, hgg, HBp⟩ := hrel
              clear HBq
              by_cases hlt : j < gn
              · have hltz : (j : Int) < (gn : Int) := by omega
                obtain ⟨y, hy⟩ := get_int (l := G) (i := j) (by rw [HGN.out]; exact hlt)
                obtain ⟨gb, rfl, hbl, q0⟩ := RowI.look (RowF.below (HK.out.2.2.1) HBp.out) hy
                have hcap := RowI.cap (HK.out.2.2.1)
                have hnc := hcap.1
                obtain ⟨m, hm1, hm2, hm3⟩ := HEL.out.got y (mem_int hy)
                have hyx : (y == x) = false := by
                  rw [beq_eq_false_iff_ne]
                  intro e
                  exact HEL.out.no.2.2 (by rw [← e]; exact mem_int hy)
                have hyw : y ∈ fsts A.wt := fst_mem hm1
                have hwv : waitsV A y = m := by
                  unfold waitsV
                  rw [if_pos hyw]
                  obtain ⟨k, hk⟩ := List.getElem?_of_mem hm1
                  exact (idx_get HOK.out.ok.wnd hk).2
                have HY64 : Hid (I64 y) := Lib.hid (HOK.out.ok.wts _ hm1).2.1
                have HM8 : Hid (U8 m) := Lib.hid (may_u8 (HOK.out.ok.wts _ hm1).2.2)
                have HM2 := Lib.hid hm2
                have HM3 := Lib.hid hm3
                have HLT := Lib.hid (And.intro hlt (And.intro hj hgg))
                have HCAP := Lib.hid hcap
                have HY := Lib.hid hy
                have hcon := waits_q y (by have := HN.out; omega) ((HK.out.2.1).below HBp.out) m hwv true (by unfold waitsB; exact decide_eq_true hyw)
                clear hm1 hm2 hm3 hy hj hgg hcap hyw hwv
                go_wp2_with fail
                refine (show Calls Try.prog _ _ _ _ from hcon).mono ?_
                rintro e wa ⟨rfl, hb⟩
                have HBa := Lib.hid (below_tr HBp.out hb)
                obtain ⟨hbl2, q1⟩ := RowI.cell (RowF.below (HK.out.2.2.1) HBa.out) HY.out
                have hcon := waits_q y (by have := HN.out; omega) ((HK.out.1).below HBa.out) 0 (by unfold waitsV; rw [if_neg HM3.out]) false (by unfold waitsB; exact decide_eq_false HM3.out)
                clear hb q0 hbl
                go_wp2_with fail
                refine (show Calls Try.prog _ _ _ _ from hcon).mono ?_
                rintro e wb ⟨rfl, hb⟩
                have HBb := Lib.hid (below_tr HBa.out hb)
                obtain ⟨hbl3, q2⟩ := RowI.cell (RowF.below (HK.out.2.2.1) HBb.out) HY.out
                obtain ⟨o1, ho1⟩ : ∃ o, heldL B.hd y = o := ⟨_, rfl⟩
                have hcon := held_q y HY64.out ((HK.out.1).below HBb.out) o1 ho1
                have HU : Hid (U16 o1) := Lib.hid (by rw [← ho1]; exact held_u16 HBO.out.ok y)
                have HCV : Hid (covB c o1 m = true) := Lib.hid (by rw [← ho1]; exact HM2.out)
                clear hb q1 hbl2 ho1
                go_wp2_with fail
                refine (show Calls Try.prog _ _ _ _ from hcon).mono ?_
                rintro e wc ⟨rfl, hb⟩
                have HBc := Lib.hid (below_tr HBb.out hb)
                have hcon := covers_is c o1 m HM8.out HU.out wc true HCV.out
                clear hb q2 hbl3
                go_wp2_with fail
                refine (show Calls Try.prog _ _ _ _ from hcon).mono ?_
                rintro e wd ⟨rfl, hb⟩
                have HBd := Lib.hid (below_tr HBc.out hb)
                clear hb hcon
                go_wp2_with fail
                go_roundg (gn - (j + 1))
                case measure => have := HLT.out; omega
                case rel => exact ⟨j + 1, by have h0 := HCAP.out.1; have h1 := HCAP.out.2.1; have h2 := HLT.out; unfold maxLen at h1; rw [wrOk (by omega)]; rfl, by have := HLT.out; omega, Nat.le_refl _, HBd⟩
              · have hltz : ¬ (j : Int) < (gn : Int) := by omega
                clear hj hgg hlt
                go_wp2_with fail
                go_loopg [19] rn (fun gg s19 wr => ∃ (k : Nat), s19 = .int .i64 k ∧ k ≤ rn ∧ rn - k ≤ gg ∧ Hid (Below w9.heap.size w9 wr))
                case atStart => exact ⟨0, rfl, Nat.zero_le _, by omega, HBp⟩
                case round =>
                  obtain ⟨k, rfl, hk, hgg, HBr⟩ := hrel
                  clear HBp
                  by_cases hlt : k < rn
                  · have hltz : (k : Int) < (rn : Int) := by omega
                    obtain ⟨y, hy⟩ := get_int (l := fsts A.wt) (i := k) (by rw [HRN.out]; exact hlt)
                    obtain ⟨rb, rfl, hbl, q0⟩ := RowI.look (RowF.below (HK.out.2.2.2.2.1) HBr.out) hy
                    have hcap := RowI.cap (HK.out.2.2.2.2.1)
                    have hnc := hcap.1
                    have HLT := Lib.hid (And.intro hlt (And.intro hk hgg))
                    have HCAP := Lib.hid hcap
                    have HY := Lib.hid hy
                    obtain ⟨st, hst⟩ : ∃ st, waitsB B y = st := ⟨_, rfl⟩
                    obtain ⟨sv, hsv⟩ : ∃ st, waitsV B y = st := ⟨_, rfl⟩
                    have hcon := waits_q y (by have := HN.out; omega) ((HK.out.1).below HBr.out) sv hsv st hst
                    have HSTL := Lib.hid hst
                    clear hy hk hgg hcap hst hsv
                    go_wp2_with fail
                    refine (show Calls Try.prog _ _ _ _ from hcon).mono ?_
                    rintro e wa ⟨rfl, hb⟩
                    have HBa := Lib.hid (below_tr HBr.out hb)
                    obtain ⟨hbl2, q1⟩ := RowI.cell (RowF.below (HK.out.2.2.2.2.1) HBa.out) HY.out
                    clear hb q0 hbl hcon
                    by_cases hyx : y = x
                    · have hne : (y != x) = false := by rw [hyx]; exact bne_self_eq_false x
                      clear hyx
                      go_wp2_with fail
                      go_roundg (rn - (k + 1))
                      case measure => have := HLT.out; omega
                      case rel => exact ⟨k + 1, by have h0 := HCAP.out.1; have h1 := HCAP.out.2.1; have h2 := HLT.out; unfold maxLen at h1; rw [wrOk (by omega)]; rfl, by have := HLT.out; omega, Nat.le_refl _, HBa⟩
                    · have hne : (y != x) = true := by simpa using hyx
                      obtain ⟨m, hm⟩ := fst_get HY.out
                      have hsn : st = !decide (y ∈ G) := by
                        rw [← HSTL.out]
                        unfold waitsB
                        by_cases hg : y ∈ G
                        · obtain ⟨-, -, -, h3⟩ := HEL.out.got y hg
                          rw [decide_eq_true hg, decide_eq_false h3]; rfl
                        · rcases HEL.out.all _ (List.mem_of_getElem? hm) hyx with h1 | h1
                          · rw [decide_eq_false hg, decide_eq_true h1]; rfl
                          · exact (hg h1).elim
                      obtain ⟨q, hq⟩ : ∃ q, decide (y ∈ G) = q := ⟨_, rfl⟩
                      rw [hq] at hsn
                      subst hsn
                      have hcon := in_row _ G y wa (RowF.below (HK.out.2.2.1) HBa.out) q hq
                      clear hm hq hyx
                      go_wp2_with fail
                      refine (show Calls Try.prog _ _ _ _ from hcon).mono ?_
                      rintro e wb ⟨rfl, hb⟩
                      have HBb := Lib.hid (below_tr HBa.out hb)
                      have hnq : ((!q) == q) = false := by cases q <;> rfl
                      clear hb hcon q1 hbl2
                      go_wp2_with fail
                      go_roundg (rn - (k + 1))
                      case measure => have := HLT.out; omega
                      case rel => exact ⟨k + 1, by have h0 := HCAP.out.1; have h1 := HCAP.out.2.1; have h2 := HLT.out; unfold maxLen at h1; rw [wrOk (by omega)]; rfl, by have := HLT.out; omega, Nat.le_refl _, HBb⟩
                  · have hltz : ¬ (k : Int) < (rn : Int) := by omega
                    go_wp2_with fail
                    go_ret
                    exact ⟨rfl, below_tr (HK.out.2.2.2.2.2) HBr.out⟩
    · have hcon := new_bad c w1 (by omega)
      go_wp2_with fail
      refine (show Calls Try.prog _ _ _ _ from hcon).mono ?_
      rintro e w3 ⟨rfl, hb⟩
      clear hcon
      have HB3 := Lib.hid (below_tr HB1.out hb)
      clear hb HB1
      go_wp2_with fail
      go_ret
      exact ⟨rfl, HB3.out⟩

end Go.Proofs.Ytjjhmfpdbjflmaa
