/-
  The law QueueEnd, walked.
-/
import Derived.Test.YtjjhmfpdbjflmaaPApp
namespace Go.Proofs.Ytjjhmfpdbjflmaa
open Go.RowKit
set_option linter.unusedVariables false

set_option maxRecDepth 100000 in
set_option maxHeartbeats 8000000 in
theorem end_law (c : Int) (hc : U8 c) (a : Option Addr) (cc n : Nat) (l : List Stp) (hln : l.length = n) (w : World) (hs : SlSt w a cc l) :
    Calls Try.prog 6 #[.int .u8 c, .slice a n cc] w fun e w' => e = .returned (.bool true) ∧ Below w.heap.size w w' := by
  have mixed : Try.prog.follows Departure.mixedOrders = true := by kernel_rfl
  have HS := Lib.hid hs
  have HLN := Lib.hid hln
  have HC8 := Lib.hid hc
  clear hs hln hc
  go_enter Try.func6, Try.ntmps6
  by_cases h100 : (100 : Int) < (n : Int)
  · go_wp2_with fail
    refine (awake_is _).mono ?_
    rintro e w1 ⟨rfl, hb⟩
    have HB := Lib.hid hb
    clear hb
    go_wp2_with fail
    go_ret
    exact ⟨rfl, HB.out⟩
  · have HN : Hid (n ≤ 100) := Lib.hid (by omega)
    go_wp2_with fail
    refine (awake_is _).mono ?_
    rintro e w1 ⟨rfl, hb1⟩
    have HB1 := Lib.hid hb1
    clear hb1
    by_cases hcl : c = 1 ∨ c = 2
    · have HCL := Lib.hid hcl
      have hcon := new_q c w1 hcl
      go_wp2_with fail
      refine (show Calls Try.prog _ _ _ _ from hcon).mono ?_
      rintro e w3 ⟨h, rfl, hq, hb⟩
      clear hcon
      have HQ3 := Lib.hid (hq.older HB1.out.size)
      have HB3 := Lib.hid (below_tr HB1.out hb)
      clear hq hb HB1 hcl
      have hplay := play_q a n cc l HLN.out (by have := HN.out; omega) (fun W' ht => HS.out.below (HB3.out.trans (ht.below (fun k hk => hk.1) HQ3.out.nw))) HQ3.out
      have HPL := Lib.hid hplay
      clear hplay
      go_wp2_with fail
      refine HPL.out.mono ?_
      rintro e w4 ⟨rfl, hq, ht⟩
      obtain ⟨A, hA⟩ : ∃ A, (Lk.new c).play l = A := ⟨_, rfl⟩
      have hac : A.c = c := by rw [← hA, play_c]; rfl
      have hlen : A.hd.length + A.wt.length ≤ n := by
        have := play_len (Lk.new c) l
        rw [hA, HLN.out] at this
        have e : (Lk.new c).hd.length + (Lk.new c).wt.length + n = n := by simp [Lk.new]
        omega
      rw [hA] at hq
      have HLEN := Lib.hid hlen
      have HAC := Lib.hid hac
      have HQ4 : Hid (Qu (fun _ => False) w.heap.size w4 h n A) := Lib.hid (hq.mono (by omega))
      have HB4 : Hid (Below w.heap.size w w4) := Lib.hid (HB3.out.trans (ht.below (fun k hk => hk.1) HQ3.out.nw))
      clear hlen hq ht hA hac HPL HQ3 HB3
      have hcon := row_q (by have := HN.out; omega) HQ4.out
      go_wp2_with fail
      refine (show Calls Try.prog _ _ _ _ from hcon).mono ?_
      rintro e w5 ⟨v, rfl, hr, ho, hb⟩
      clear hcon
      obtain ⟨ra, rc, rfl, -, -⟩ := hr.form
      obtain ⟨rn, rn0⟩ : ∃ k, (fsts A.wt).length = k := ⟨_, rfl⟩
      rw [rn0] at hr ⊢
      have HRN := Lib.hid rn0
      clear rn0
      have HK := Lib.hid (And.intro (HQ4.out.below hb) (And.intro hr (below_tr HB4.out hb)))
      have HOK := Lib.hid HQ4.out.ok
      have hcap := RowI.cap hr
      have HCAP := Lib.hid hcap
      have hrcm := hcap.2.1
      clear hb hr ho HQ4 HB4 hcap
      go_wp2_with fail
      go_loopg [8] rn (fun gg s8 wr => ∃ (k : Nat), s8 = .int .i64 k ∧ k ≤ rn ∧ rn - k ≤ gg ∧ Hid (Below w5.heap.size w5 wr))
      case atStart => exact ⟨0, rfl, Nat.zero_le _, by omega, Lib.hid (Below.refl _ _)⟩
      case round =>
        obtain ⟨k, rfl, hk, hgg, HBq⟩ := hrel
        by_cases hlt : k < rn
        · have hltz : (k : Int) < (rn : Int) := by omega
          obtain ⟨y, hy⟩ := get_int (l := fsts A.wt) (i := k) (by rw [HRN.out]; exact hlt)
          obtain ⟨m, hm⟩ := fst_get hy
          have hnc := HCAP.out.1
          have HY := Lib.hid hy
          have HM := Lib.hid hm
          have HLT := Lib.hid (And.intro hlt (And.intro hk hgg))
          have hkn : k ≤ rn := hk
          have hkc : k ≤ rc := Nat.le_trans hk HCAP.out.1
          have HW := HOK.out.ok.wts _ (List.mem_of_getElem? hm)
          have HY64 : Hid (I64 y) := Lib.hid HW.2.1
          have HM8 : Hid (U8 m) := Lib.hid (may_u8 HW.2.2)
          have hyw : y ∈ fsts A.wt := mem_int hy
          obtain ⟨-, hmv⟩ := idx_get HOK.out.ok.wnd hm
          have hwv : waitsV A y = m := by unfold waitsV; rw [if_pos hyw]; exact hmv
          have HWV := Lib.hid hwv
          have HWB : Hid (waitsB A y = true) := Lib.hid (by unfold waitsB; exact decide_eq_true hyw)
          clear hy hm hk hgg HW hyw hmv hwv
          have hcon := copy_q (by have := HN.out; omega) (HK.out.1.below HBq.out)
          go_wp2_with fail
          refine (show Calls Try.prog _ _ _ _ from hcon).mono ?_
          rintro e w6 ⟨h2, rfl, hq, hb⟩
          clear hcon
          obtain ⟨N6, hN6⟩ : ∃ N, wr.heap.size = N := ⟨_, rfl⟩
          rw [hN6] at hq
          have HN6 : Hid (w5.heap.size ≤ N6) := Lib.hid (by rw [← hN6]; exact HBq.out.size)
          have HC6 := Lib.hid hq
          have HB6 := Lib.hid (below_tr HBq.out hb)
          obtain ⟨rb, rfl, hbl, q0⟩ := RowI.look (RowF.below HK.out.2.1 HB6.out) HY.out
          clear hb hq HBq hN6
          have hcon := waits_q y (by have := HN.out; omega) HC6.out m HWV.out true HWB.out
          go_wp2_with fail
          refine (show Calls Try.prog _ _ _ _ from hcon).mono ?_
          rintro e w7 ⟨rfl, hb⟩
          clear hcon
          have HC7 := Lib.hid (HC6.out.below hb)
          have HB7 := Lib.hid (below_tr HB6.out hb)
          clear hb q0 hbl HC6 HB6
          go_upto_region 13 with (fail)
          refine wp_region_noPanic ?_
          refine wp_region_held_drew (S := fun _ => True) mixed (trivial) (fun hS0 => ?_)
          have HS0 := Lib.hid hS0
          clear hS0
          show wpAnyH _ _ _ _ _ 7 _ _ _
          refine wpAnyH_take (i := 0) (oi := _) (v := .pointer (some ⟨h2, 0, none⟩)) rfl (by kernel_rfl) (by kernel_rfl) (by kernel_rfl) (fun _ _ _ h => h) (Or.inl ⟨by rfl, fun w' hw' => ?_⟩) (HS0.out) ?_
          · go_simp
            try first | with_reducible rfl | simp
          simp only [List.getElem_toArray, List.getElem_cons_zero, Act.put, List.setIfInBounds_toArray, List.set_cons_zero, List.set_cons_succ]
          refine wpAnyH_take (i := 2) (oi := _) (v := .slice (some ⟨rb, 0, none⟩) rn rc) rfl (by kernel_rfl) (by kernel_rfl) (by kernel_rfl) (fun _ _ _ h => h) (Or.inl ⟨by rfl, fun w' hw' => ?_⟩) (HS0.out) ?_
          · go_simp
            try first | with_reducible rfl | simp
          simp only [List.getElem_toArray, List.getElem_cons_succ, List.getElem_cons_zero, Act.put, List.setIfInBounds_toArray, List.set_cons_zero, List.set_cons_succ]
          refine wpAnyH_take (i := 3) (oi := _) (v := .int .i64 k) rfl (by kernel_rfl) (by kernel_rfl) (by kernel_rfl) (fun _ _ _ h => h) (Or.inl ⟨by rfl, fun w' hw' => ?_⟩) (HS0.out) ?_
          · go_simp
            try first | with_reducible rfl | simp
          simp only [List.getElem_toArray, List.getElem_cons_succ, List.getElem_cons_zero, Act.put, List.setIfInBounds_toArray, List.set_cons_zero, List.set_cons_succ]
          refine wpAnyH_take (i := 4) (oi := _) (v := .slice (some ⟨rb, 0, none⟩) k rc) rfl (by kernel_rfl) (by kernel_rfl) (by kernel_rfl) (fun _ _ _ h => h) (Or.inl ⟨by rfl, fun w' hw' => ?_⟩) (HS0.out) ?_
          · go_simp
            try first | with_reducible rfl | simp
          simp only [List.getElem_toArray, List.getElem_cons_succ, List.getElem_cons_zero, Act.put, List.setIfInBounds_toArray, List.set_cons_zero, List.set_cons_succ]
          refine RX.anyH_call (i := 1) (f := 22) (args := #[.pointer (some ⟨h2, 0, none⟩)]) (by kernel_rfl) rfl (by rfl) (by go_simp) ?_
          refine (show Calls Try.prog _ _ _ _ from holders_q (by have := HN.out; omega) (HC7.out.below (below_drw w7))).mono ?_
          rintro e w8 ⟨v, rfl, hr, ho, hb⟩
          have hb8 : Below w7.heap.size w7 w8 := below_tr (below_drw w7) hb
          have hrk := RowI.cut (RowF.below HK.out.2.1 (below_tr HB7.out hb8)) hkn
          obtain ⟨oa, oc, w9, hrun, hro, hto, hoo⟩ := row_app hr hrk (by have := HLEN.out; have := HN.out; have := HRN.out; rw [fsts_len] at *; omega)
          obtain ⟨on, hon⟩ : ∃ on, (fsts A.hd).length + k = on := ⟨_, rfl⟩
          rw [hon] at hrun hro hoo
          have hb9 : Below w7.heap.size w7 w9 := hb8.trans (hto.below (fun j hj => ho j hj) hb8.size)
          have hvo : ∀ j, Value.ownBlock (.slice oa on oc) = some j → w7.heap.size ≤ j := fun j hj => by
            rcases hoo j hj with e | e
            · exact ho j e
            · exact Nat.le_trans hb8.size e
          have HRUN := Lib.hid hrun
          have HV := Lib.hid hr.form
          have HC9 := Lib.hid (HC7.out.apart hvo hb9.size (fun j hj => RowF.lt hro j hj) hb9)
          have HB9 := Lib.hid (below_tr HB7.out hb9)
          have HON : Hid (on = (fsts A.hd ++ (fsts A.wt).take k).length) := Lib.hid hro.cap.2.2
          have HRO := Lib.hid hro
          obtain ⟨va, vc, rfl, -, -⟩ := hr.form
          clear hr ho hb hb8 hrk hrun hro hto hoo hon hb9 hvo HC7 HB7
          refine ⟨.slice va (fsts A.hd).length vc, rfl, trivial, ?_⟩
          simp only [List.getElem_toArray, List.getElem_cons_succ, List.getElem_cons_zero, Act.put, List.setIfInBounds_toArray, List.set_cons_zero, List.set_cons_succ]
          refine RX.anyH_app (i := 5) (v := .slice va (fsts A.hd).length vc) (u := .slice (some ⟨rb, 0, none⟩) k rc) (.tmp 56) (.tmp 59) (35) (35) (by kernel_rfl) rfl (by rfl) rfl (by go_simp) (by go_simp) (HRUN.out _) (trivial) ?_
          refine wpAnyH_take (i := 6) (oi := _) (v := .slice oa on oc) rfl (by kernel_rfl) (by kernel_rfl) (by kernel_rfl) (fun _ _ _ h => h) (Or.inl ⟨by rfl, fun w' hw' => ?_⟩) (trivial) ?_
          · go_simp
            try first | with_reducible rfl | simp
          simp only [List.getElem_toArray, List.getElem_cons_succ, List.getElem_cons_zero, Act.put, List.setIfInBounds_toArray, List.set_cons_zero, List.set_cons_succ]
          refine wpAnyH_done (by kernel_rfl) ?_ _
          refine NoPanic.normal ?_
          go_wp2_with fail
          have HS9 : Hid (Qu (fun j => False ∨ Value.ownBlock (.slice oa on oc) = some j) N6 w9 h2 n A ∧ EndI A (((fsts A.hd ++ (fsts A.wt).take k)).drop 0) y m ∧ A.c = c) := Lib.hid ⟨HC9.out, by
            rw [List.drop_zero, ← fsts_take]
            refine EndI.start (post := A.wt.drop (k + 1)) ?_
            have hkl := (List.getElem?_eq_some_iff.1 HM.out).1
            have hge := (List.getElem?_eq_some_iff.1 HM.out).2
            rw [← hge, ← List.drop_eq_getElem_cons hkl, List.take_append_drop], HAC.out⟩
          clear HC9
          obtain ⟨O, hO⟩ : ∃ O, fsts A.hd ++ (fsts A.wt).take k = O := ⟨_, rfl⟩
          rw [hO] at HS9 HRO HON
          have HOM : Hid (∀ z ∈ O, 1 ≤ z ∧ I64 z) := Lib.hid (by
            rw [← hO]
            intro z hz
            rcases List.mem_append.1 hz with hz | hz
            · obtain ⟨q, hq⟩ := mem_fst hz
              exact ⟨(HOK.out.ok.held _ hq).1, (HOK.out.ok.held _ hq).2.1⟩
            · obtain ⟨q, hq⟩ := mem_fst (List.mem_of_mem_take hz)
              exact ⟨(HOK.out.ok.wts _ hq).1, (HOK.out.ok.wts _ hq).2.1⟩)
          have hocap := HRO.out.cap
          have hoc1 := hocap.1
          have hoc2 := hocap.2.1
          clear hO hocap
          go_loopg [13] on (fun gk s13 wr => ∃ (j : Nat) (B : Lk), s13 = .int .i64 j ∧ j ≤ on ∧ on - j ≤ gk ∧ Hid (Qu (fun j => False ∨ Value.ownBlock (.slice oa on oc) = some j) N6 wr h2 n B ∧ EndI B (O.drop j) y m ∧ B.c = c) ∧ Hid (Touch (QF (fun j => False ∨ Value.ownBlock (.slice oa on oc) = some j) N6) w9 wr))
          case atStart => exact ⟨0, A, rfl, Nat.zero_le _, by omega, HS9, Lib.hid (Touch.refl _ _)⟩
          case round =>
            obtain ⟨j, B, rfl, hj, hgk, HS, HT⟩ := hrel
            clear HS9
            have hb5 : Below w5.heap.size w5 wr := HB9.out.trans (HT.out.below (fun q hq => Nat.le_trans HN6.out hq.1) HB9.out.size)
            have HB5 := Lib.hid hb5
            clear hb5
            by_cases hlt2 : j < on
            · have hltz2 : (j : Int) < (on : Int) := by omega
              obtain ⟨z, hz⟩ := get_int (l := O) (i := j) (by rw [← HON.out]; exact hlt2)
              have hro : RowI wr (.slice oa on oc) O := RowF.stay HRO.out (HT.out.stay (G := fun q => Value.ownBlock (.slice oa on oc) = some q) (fun q hq hf => hf.2 (.inr hq))) (fun q hq => hq)
              obtain ⟨ob, e0, hobl, p0⟩ := RowI.look hro hz
              subst e0
              have HRQ := Lib.hid hro
              have HZ := Lib.hid hz
              have HL2 := Lib.hid (And.intro hlt2 (And.intro hj hgk))
              have hdj : O.drop j = z :: O.drop (j + 1) := by
                obtain ⟨e1, e2⟩ := List.getElem?_eq_some_iff.1 hz
                rw [List.drop_eq_getElem_cons e1, e2]
              have HDJ := Lib.hid hdj
              clear hz hj hgk hro hobl p0 hdj
              go_upto_region 17 with (fail)
              by_cases hzy : z = y
              · have hne : (z != y) = false := by rw [hzy]; exact bne_self_eq_false y
                have hdr := below_drw wr
                try simp only [List.append_eq, List.cons_append, List.nil_append]
                refine RX.wp_region_plan (fun w w' => Below w.heap.size w w') [.it (.slice (some ⟨ob, 0, none⟩) on oc), .it (.int .i64 j), .it (.pointer (some ⟨ob, j, none⟩)), .it (.int .i64 z), .it (.slice (some ⟨rb, 0, none⟩) rn rc), .it (.int .i64 k), .it (.pointer (some ⟨rb, k, none⟩)), .it (.int .i64 y), .it (.bool false)] (by kernel_rfl) (by kernel_rfl) (fun _ => Below.refl _ _) (fun _ _ _ => below_tr) ?_
                refine RX.seqP_value (fun _ => Below.refl _ _) _ (by first | rfl | simp) (fun w' hw' hctx => by (go_simp); (try first | with_reducible rfl | simp)) ?_
                simp only [Act.put, List.setIfInBounds_toArray, List.set_cons_zero, List.set_cons_succ]
                refine RX.seqP_value (fun _ => Below.refl _ _) _ (by first | rfl | simp) (fun w' hw' hctx => by (go_simp); (try first | with_reducible rfl | simp)) ?_
                simp only [Act.put, List.setIfInBounds_toArray, List.set_cons_zero, List.set_cons_succ]
                refine RX.seqP_value (fun _ => Below.refl _ _) _ (by first | rfl | simp) (fun w' hw' hctx => ?_) ?_
                · obtain ⟨hobl, p0⟩ := RowI.cell (RowF.below HRQ.out (below_tr hdr hw')) HZ.out
                  go_simp
                  try first | with_reducible rfl | simp
                simp only [Act.put, List.setIfInBounds_toArray, List.set_cons_zero, List.set_cons_succ]
                refine RX.seqP_value (fun _ => Below.refl _ _) _ (by first | rfl | simp) (fun w' hw' hctx => ?_) ?_
                · obtain ⟨hobl, p0⟩ := RowI.cell (RowF.below HRQ.out (below_tr hdr hw')) HZ.out
                  go_simp
                  try first | with_reducible rfl | simp
                simp only [Act.put, List.setIfInBounds_toArray, List.set_cons_zero, List.set_cons_succ]
                refine RX.seqP_value (fun _ => Below.refl _ _) _ (by first | rfl | simp) (fun w' hw' hctx => by (go_simp); (try first | with_reducible rfl | simp)) ?_
                simp only [Act.put, List.setIfInBounds_toArray, List.set_cons_zero, List.set_cons_succ]
                refine RX.seqP_value (fun _ => Below.refl _ _) _ (by first | rfl | simp) (fun w' hw' hctx => by (go_simp); (try first | with_reducible rfl | simp)) ?_
                simp only [Act.put, List.setIfInBounds_toArray, List.set_cons_zero, List.set_cons_succ]
                refine RX.seqP_value (fun _ => Below.refl _ _) _ (by first | rfl | simp) (fun w' hw' hctx => ?_) ?_
                · obtain ⟨hbl, q0⟩ := RowI.cell (RowF.below HK.out.2.1 (below_tr HB5.out (below_tr hdr hw'))) HY.out
                  go_simp
                  try first | with_reducible rfl | simp
                simp only [Act.put, List.setIfInBounds_toArray, List.set_cons_zero, List.set_cons_succ]
                refine RX.seqP_value (fun _ => Below.refl _ _) _ (by first | rfl | simp) (fun w' hw' hctx => ?_) ?_
                · obtain ⟨hbl, q0⟩ := RowI.cell (RowF.below HK.out.2.1 (below_tr HB5.out (below_tr hdr hw'))) HY.out
                  go_simp
                  try first | with_reducible rfl | simp
                simp only [Act.put, List.setIfInBounds_toArray, List.set_cons_zero, List.set_cons_succ]
                refine RX.seqP_value (fun _ => Below.refl _ _) _ (by first | rfl | simp) (fun w' hw' hctx => by (go_simp); (try first | with_reducible rfl | simp)) ?_
                simp only [Act.put, List.setIfInBounds_toArray, List.set_cons_zero, List.set_cons_succ]
                refine RX.seqP_nil (fun w2 hR hctx _ => ?_)
                have hb2 := below_tr hdr hR
                clear hctx hR
                have HBx : Hid (Below wr.heap.size wr w2) := Lib.hid hb2
                clear hb2 hdr
                go_wp2_with fail
                go_roundg (on - (j + 1))
                case measure => have := HL2.out; omega
                case rel => exact ⟨j + 1, B, by have h2 := HL2.out; unfold maxLen at hoc2; rw [wrOk (by omega)]; rfl, by have := HL2.out; omega, Nat.le_refl _, Lib.hid ⟨HS.out.1.below HBx.out, by have := HS.out.2.1; rw [HDJ.out, hzy] at this; exact EndI.skip HS.out.1.ok this, HS.out.2.2⟩, Lib.hid (HT.out.trans (Touch.of_below HBx.out) (fun _ _ h => h))⟩
              · have hne : (z != y) = true := by simpa using hzy
                have hdr := below_drw wr
                try simp only [List.append_eq, List.cons_append, List.nil_append]
                refine RX.wp_region_plan (fun w w' => Below w.heap.size w w') [.it (.slice (some ⟨ob, 0, none⟩) on oc), .it (.int .i64 j), .it (.pointer (some ⟨ob, j, none⟩)), .it (.int .i64 z), .it (.slice (some ⟨rb, 0, none⟩) rn rc), .it (.int .i64 k), .it (.pointer (some ⟨rb, k, none⟩)), .it (.int .i64 y), .it (.bool true)] (by kernel_rfl) (by kernel_rfl) (fun _ => Below.refl _ _) (fun _ _ _ => below_tr) ?_
                refine RX.seqP_value (fun _ => Below.refl _ _) _ (by first | rfl | simp) (fun w' hw' hctx => by (go_simp); (try first | with_reducible rfl | simp)) ?_
                simp only [Act.put, List.setIfInBounds_toArray, List.set_cons_zero, List.set_cons_succ]
                refine RX.seqP_value (fun _ => Below.refl _ _) _ (by first | rfl | simp) (fun w' hw' hctx => by (go_simp); (try first | with_reducible rfl | simp)) ?_
                simp only [Act.put, List.setIfInBounds_toArray, List.set_cons_zero, List.set_cons_succ]
                refine RX.seqP_value (fun _ => Below.refl _ _) _ (by first | rfl | simp) (fun w' hw' hctx => ?_) ?_
                · obtain ⟨hobl, p0⟩ := RowI.cell (RowF.below HRQ.out (below_tr hdr hw')) HZ.out
                  go_simp
                  try first | with_reducible rfl | simp
                simp only [Act.put, List.setIfInBounds_toArray, List.set_cons_zero, List.set_cons_succ]
                refine RX.seqP_value (fun _ => Below.refl _ _) _ (by first | rfl | simp) (fun w' hw' hctx => ?_) ?_
                · obtain ⟨hobl, p0⟩ := RowI.cell (RowF.below HRQ.out (below_tr hdr hw')) HZ.out
                  go_simp
                  try first | with_reducible rfl | simp
                simp only [Act.put, List.setIfInBounds_toArray, List.set_cons_zero, List.set_cons_succ]
                refine RX.seqP_value (fun _ => Below.refl _ _) _ (by first | rfl | simp) (fun w' hw' hctx => by (go_simp); (try first | with_reducible rfl | simp)) ?_
                simp only [Act.put, List.setIfInBounds_toArray, List.set_cons_zero, List.set_cons_succ]
                refine RX.seqP_value (fun _ => Below.refl _ _) _ (by first | rfl | simp) (fun w' hw' hctx => by (go_simp); (try first | with_reducible rfl | simp)) ?_
                simp only [Act.put, List.setIfInBounds_toArray, List.set_cons_zero, List.set_cons_succ]
                refine RX.seqP_value (fun _ => Below.refl _ _) _ (by first | rfl | simp) (fun w' hw' hctx => ?_) ?_
                · obtain ⟨hbl, q0⟩ := RowI.cell (RowF.below HK.out.2.1 (below_tr HB5.out (below_tr hdr hw'))) HY.out
                  go_simp
                  try first | with_reducible rfl | simp
                simp only [Act.put, List.setIfInBounds_toArray, List.set_cons_zero, List.set_cons_succ]
                refine RX.seqP_value (fun _ => Below.refl _ _) _ (by first | rfl | simp) (fun w' hw' hctx => ?_) ?_
                · obtain ⟨hbl, q0⟩ := RowI.cell (RowF.below HK.out.2.1 (below_tr HB5.out (below_tr hdr hw'))) HY.out
                  go_simp
                  try first | with_reducible rfl | simp
                simp only [Act.put, List.setIfInBounds_toArray, List.set_cons_zero, List.set_cons_succ]
                refine RX.seqP_value (fun _ => Below.refl _ _) _ (by first | rfl | simp) (fun w' hw' hctx => by (go_simp); (try first | with_reducible rfl | simp)) ?_
                simp only [Act.put, List.setIfInBounds_toArray, List.set_cons_zero, List.set_cons_succ]
                refine RX.seqP_nil (fun w2 hR hctx _ => ?_)
                have hb2 := below_tr hdr hR
                clear hctx hR
                have HBx : Hid (Below wr.heap.size wr w2) := Lib.hid hb2
                obtain ⟨hobl, p0⟩ := RowI.cell (RowF.below HRQ.out hb2) HZ.out
                have hcon := drop_q z (HOM.out z (mem_int HZ.out)).2 (by have := HN.out; omega) (HS.out.1.below hb2)
                clear hb2 hdr
                go_wp2_with fail
                refine (show Calls Try.prog _ _ _ _ from hcon).mono ?_
                rintro e wz ⟨v, rfl, -, -, hq, ht⟩
                have HSz : Hid (Qu (fun j => False ∨ Value.ownBlock (.slice (some ⟨ob, 0, none⟩) on oc) = some j) N6 wz h2 n (B.drop z) ∧ EndI (B.drop z) (O.drop (j + 1)) y m ∧ (B.drop z).c = c) := Lib.hid ⟨hq, by have := HS.out.2.1; rw [HDJ.out] at this; exact EndI.drop HS.out.1.ok (HOM.out z (mem_int HZ.out)).1 hzy this, by rw [drop_c]; exact HS.out.2.2⟩
                have HTz : Hid (Touch (QF (fun j => False ∨ Value.ownBlock (.slice (some ⟨ob, 0, none⟩) on oc) = some j) N6) w9 wz) := Lib.hid ((HT.out.trans (Touch.of_below HBx.out) (fun _ _ h => h)).trans ht (fun _ _ h => h))
                clear hcon hq ht hobl p0 HS HT HBx HRQ HB5
                go_wp2_with fail
                go_roundg (on - (j + 1))
                case measure => have := HL2.out; omega
                case rel => exact ⟨j + 1, _, by have h2 := HL2.out; unfold maxLen at hoc2; rw [wrOk (by omega)]; rfl, by have := HL2.out; omega, Nat.le_refl _, HSz, HTz⟩
            · have hltz2 : ¬ (j : Int) < (on : Int) := by omega
              have hjo : O.drop j = [] := by rw [List.drop_eq_nil_iff, ← HON.out]; omega
              have hfin := EndI.fin HS.out.1.ok (by have := HS.out.2.1; rw [hjo] at this; exact this)
              obtain ⟨hf1, hf2⟩ := hfin
              rw [HS.out.2.2] at hf2
              have HCV := Lib.hid hf2
              have hw0 : waitsV B y = 0 := by unfold waitsV; rw [if_neg hf1]
              have hw1 : waitsB B y = false := by unfold waitsB; exact decide_eq_false hf1
              obtain ⟨hbl, q0⟩ := RowI.cell (RowF.below HK.out.2.1 HB5.out) HY.out
              have hcon := waits_q y (by have := HN.out; omega) HS.out.1 0 hw0 false hw1
              clear hjo hf1 hf2 hw0 hw1 hj hgk hlt2
              go_wp2_with fail
              refine (show Calls Try.prog _ _ _ _ from hcon).mono ?_
              rintro e wa ⟨rfl, hb⟩
              have HBa := Lib.hid (below_tr HB5.out hb)
              obtain ⟨hbl2, q1⟩ := RowI.cell (RowF.below HK.out.2.1 HBa.out) HY.out
              obtain ⟨o1, ho1⟩ : ∃ o, heldL B.hd y = o := ⟨_, rfl⟩
              have hcon := held_q y HY64.out (HS.out.1.below hb) o1 ho1
              have HU : Hid (U16 o1) := Lib.hid (by rw [← ho1]; exact held_u16 HS.out.1.ok.ok y)
              have HCV2 : Hid (covB c o1 m = true) := Lib.hid (by rw [← ho1]; exact HCV.out)
              clear hb q0 hbl ho1
              go_wp2_with fail
              refine (show Calls Try.prog _ _ _ _ from hcon).mono ?_
              rintro e wb ⟨rfl, hb⟩
              have HBb := Lib.hid (below_tr HBa.out hb)
              have hcon := covers_is c o1 m HM8.out HU.out wb true HCV2.out
              clear hb q1 hbl2
              go_wp2_with fail
              refine (show Calls Try.prog _ _ _ _ from hcon).mono ?_
              rintro e wc ⟨rfl, hb⟩
              have HBc := Lib.hid (below_tr HBb.out hb)
              clear hb hcon
              go_wp2_with fail
              go_roundg (rn - (k + 1))
              case measure => have := HLT.out; omega
              case rel => exact ⟨k + 1, by have h0 := HCAP.out.1; have h1 := HCAP.out.2.1; have h2 := HLT.out; unfold maxLen at h1; rw [wrOk (by omega)]; rfl, by have := HLT.out; omega, Nat.le_refl _, HBc⟩
        · have hltz : ¬ (k : Int) < (rn : Int) := by omega
          clear hk hgg hlt
          have hcon := holders_q (by have := HN.out; omega) (HK.out.1.below HBq.out)
          go_wp2_with fail
          refine (show Calls Try.prog _ _ _ _ from hcon).mono ?_
          rintro e w6 ⟨v, rfl, hr, ho, hb⟩
          have hb56 := below_tr HBq.out hb
          obtain ⟨oa, oc, w9, hrun, hro, hto, hoo⟩ := row_app hr (RowF.below HK.out.2.1 hb56) (by have h1 := HLEN.out; have h2 := HN.out; have h3 := HRN.out; rw [fsts_len] at *; omega)
          obtain ⟨on, hon⟩ : ∃ on, (fsts A.hd).length + rn = on := ⟨_, rfl⟩
          rw [hon] at hrun hro hoo
          have hb9 : Below wr.heap.size wr w9 := hb.trans (hto.below (fun j hj => ho j hj) hb.size)
          have hvo : ∀ j, Value.ownBlock (.slice oa on oc) = some j → wr.heap.size ≤ j := fun j hj => by
            rcases hoo j hj with e | e
            · exact ho j e
            · exact Nat.le_trans hb.size e
          have HRUN := Lib.hid hrun
          have HC9 := Lib.hid ((HK.out.1.below HBq.out).apart hvo hb9.size (fun j hj => RowF.lt hro j hj) hb9)
          have HB9 := Lib.hid (below_tr HK.out.2.2 (below_tr HBq.out hb9))
          have HON : Hid (on = (fsts A.hd ++ fsts A.wt).length) := Lib.hid hro.cap.2.2
          have HRO := Lib.hid hro
          obtain ⟨va, vc, rfl, -, -⟩ := hr.form
          clear hr ho hb hb56 hrun hro hto hoo hon hb9 hvo HBq hcon
          go_wp2_with (first | (at_builtin; refine append_stepW rfl _ _ 35 rfl _ _ _ _ rfl rfl (HRUN.out _) ?_) | fail)
          have HS9 : Hid (Qu (fun j => False ∨ Value.ownBlock (.slice oa on oc) = some j) w.heap.size w9 h n A ∧ AllI A ((fsts A.hd ++ fsts A.wt).drop 0)) := Lib.hid ⟨HC9.out, by rw [List.drop_zero]; exact AllI.start A⟩
          clear HC9
          obtain ⟨O, hO⟩ : ∃ O, fsts A.hd ++ fsts A.wt = O := ⟨_, rfl⟩
          rw [hO] at HS9 HRO HON
          have HOM : Hid (∀ z ∈ O, 1 ≤ z ∧ I64 z) := Lib.hid (by
            rw [← hO]
            intro z hz
            rcases List.mem_append.1 hz with hz | hz
            · obtain ⟨q, hq⟩ := mem_fst hz
              exact ⟨(HOK.out.ok.held _ hq).1, (HOK.out.ok.held _ hq).2.1⟩
            · obtain ⟨q, hq⟩ := mem_fst hz
              exact ⟨(HOK.out.ok.wts _ hq).1, (HOK.out.ok.wts _ hq).2.1⟩)
          have hocap := HRO.out.cap
          have hoc1 := hocap.1
          have hoc2 := hocap.2.1
          clear hO hocap
          go_loopg [17] on (fun gk s17 wr => ∃ (j : Nat) (B : Lk), s17 = .int .i64 j ∧ j ≤ on ∧ on - j ≤ gk ∧ Hid (Qu (fun j => False ∨ Value.ownBlock (.slice oa on oc) = some j) w.heap.size wr h n B ∧ AllI B (O.drop j)) ∧ Hid (Touch (QF (fun j => False ∨ Value.ownBlock (.slice oa on oc) = some j) w.heap.size) w9 wr))
          case atStart => exact ⟨0, A, rfl, Nat.zero_le _, by omega, HS9, Lib.hid (Touch.refl _ _)⟩
          case round =>
            obtain ⟨j, B, rfl, hj, hgk, HS, HT⟩ := hrel
            clear HS9
            by_cases hlt2 : j < on
            · have hltz2 : (j : Int) < (on : Int) := by omega
              obtain ⟨z, hz⟩ := get_int (l := O) (i := j) (by rw [← HON.out]; exact hlt2)
              have hro : RowI wr (.slice oa on oc) O := RowF.stay HRO.out (HT.out.stay (G := fun q => Value.ownBlock (.slice oa on oc) = some q) (fun q hq hf => hf.2 (.inr hq))) (fun q hq => hq)
              obtain ⟨ob, e0, hobl, p0⟩ := RowI.look hro hz
              subst e0
              have HZ := Lib.hid hz
              have HL2 := Lib.hid (And.intro hlt2 (And.intro hj hgk))
              have hdj : O.drop j = z :: O.drop (j + 1) := by
                obtain ⟨e1, e2⟩ := List.getElem?_eq_some_iff.1 hz
                rw [List.drop_eq_getElem_cons e1, e2]
              have HDJ := Lib.hid hdj
              have hcon := drop_q z (HOM.out z (mem_int hz)).2 (by have := HN.out; omega) HS.out.1
              clear hz hj hgk hro hdj
              go_wp2_with fail
              refine (show Calls Try.prog _ _ _ _ from hcon).mono ?_
              rintro e wz ⟨v, rfl, -, -, hq, ht⟩
              have HSz : Hid (Qu (fun j => False ∨ Value.ownBlock (.slice (some ⟨ob, 0, none⟩) on oc) = some j) w.heap.size wz h n (B.drop z) ∧ AllI (B.drop z) (O.drop (j + 1))) := Lib.hid ⟨hq, by have := HS.out.2; rw [HDJ.out] at this; exact AllI.drop HS.out.1.ok (HOM.out z (mem_int HZ.out)).1 this⟩
              have HTz : Hid (Touch (QF (fun j => False ∨ Value.ownBlock (.slice (some ⟨ob, 0, none⟩) on oc) = some j) w.heap.size) w9 wz) := Lib.hid (HT.out.trans ht (fun _ _ h => h))
              clear hcon hq ht hobl p0 HS HT
              go_wp2_with fail
              go_roundg (on - (j + 1))
              case measure => have := HL2.out; omega
              case rel => exact ⟨j + 1, _, by have h2 := HL2.out; unfold maxLen at hoc2; rw [wrOk (by omega)]; rfl, by have := HL2.out; omega, Nat.le_refl _, HSz, HTz⟩
            · have hltz2 : ¬ (j : Int) < (on : Int) := by omega
              have hjo : O.drop j = [] := by rw [List.drop_eq_nil_iff, ← HON.out]; omega
              have hfin := AllI.fin (by have := HS.out.2; rw [hjo] at this; exact this)
              have hcon := idle_q HS.out.1 true (decide_eq_true hfin)
              have HBz : Hid (Below w.heap.size w wr) := Lib.hid (HB9.out.trans (HT.out.below (fun q hq => hq.1) HB9.out.size))
              clear hjo hfin hj hgk hlt2
              go_wp2_with fail
              refine (show Calls Try.prog _ _ _ _ from hcon).mono ?_
              rintro e wa ⟨rfl, hb⟩
              have HBa := Lib.hid (below_tr HBz.out hb)
              clear hb hcon
              go_wp2_with fail
              go_ret
              exact ⟨rfl, HBa.out⟩
    · have hcon := new_bad c w1 (by omega)
      go_wp2_with fail
      refine (show Calls Try.prog _ _ _ _ from hcon).mono ?_
      rintro e w3 ⟨rfl, hb⟩
      clear hcon
      have HB3 := Lib.hid (below_tr HB1.out hb)
      clear hb HB1
      go_wp2_with fail
      go_ret
      exact ⟨rfl, HB3.out⟩

end Go.Proofs.Ytjjhmfpdbjflmaa
