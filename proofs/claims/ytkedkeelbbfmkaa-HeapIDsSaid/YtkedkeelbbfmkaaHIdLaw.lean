/-
  The law HeapIDs, walked.
-/
import Derived.Test.YtkedkeelbbfmkaaRegL
import Derived.Test.YtkedkeelbbfmkaaHMore2
import Derived.Test.YtkedkeelbbfmkaaHLarge
namespace Go.Proofs.Ytkedkeelbbfmkaa
open Go.RowKit
set_option linter.unusedVariables false

set_option maxRecDepth 100000 in
set_option maxHeartbeats 8000000 in
theorem ids_law (a0 : Option Addr) (c0 n0 : Nat) (l0 : List Stp) (hn0 : l0.length = n0) (w : World) (hs0 : SlSt w a0 c0 l0) :
    Calls Try.prog 8 #[.slice a0 n0 c0] w fun e w' => e = .returned (.bool true) ∧ Below w.heap.size w w' := by
  have HS := Lib.hid hs0
  have HN := Lib.hid hn0
  clear hs0 hn0
  go_enter Try.func8, Try.ntmps8
  have hcon := works_is w
  go_wp2_with fail
  refine (show Calls Try.prog _ _ _ _ from hcon).mono ?_
  rintro e w1 ⟨rfl, hb⟩
  have HB1 := Lib.hid hb
  clear hcon hb
  have hcon := large_is w1 a0 c0 n0 l0 HN.out (HS.out.below HB1.out)
  go_wp2_with fail
  refine (show Calls Try.prog _ _ _ _ from hcon).mono ?_
  rintro e w1b ⟨v, rfl, hv, rfl⟩
  clear hcon 
  rcases hv with rfl | ⟨rfl, hf⟩
  · have hcon := works_is w1b
    go_wp2_with fail
    refine (show Calls Try.prog _ _ _ _ from hcon).mono ?_
    rintro e w2 ⟨rfl, hb⟩
    have HB2 := Lib.hid (below_tr HB1.out hb)
    clear hcon hb
    go_wp2_with fail
    go_ret
    exact ⟨rfl, HB2.out⟩
  · have HF := Lib.hid hf
    clear hf
    have hcon := one_new (X := fun _ => False) (w0 := w) HB1.out (fun _ h => h.elim)
    go_wp2_with fail
    refine (show Calls Try.prog _ _ _ _ from hcon).mono ?_
    rintro e w2 ⟨h, rfl, ho⟩
    have HO0 := Lib.hid ho
    clear hcon ho HB1
    have h120 : n0 ≤ 120 := by have e1 := HF.out.1; have e2 := HN.out; omega
    obtain ⟨mb, hmb⟩ : ∃ mb, w2.heap.size = mb := ⟨_, rfl⟩
    obtain ⟨w3, hw3⟩ : ∃ w3, w2.alloc (.map #[] 0) = w3 := ⟨_, rfl⟩
    have hm0 := MapF.new w2
    have hb3 := Below.allocs w2 (.map #[] 0)
    rw [hmb, hw3] at hm0
    rw [hw3] at hb3
    have HO1 : Hid (One (fun k => k = mb) w w3 h Ab.new 0) := Lib.hid (HO0.out.foreign hb3 _ (fun k hk => ⟨.inr (by rw [hk, hmb]; exact Nat.le_refl _), by rw [hk]; exact hm0.lt⟩))
    have HM0 := Lib.hid hm0
    have HMB : Hid (w.heap.size ≤ mb) := Lib.hid (by rw [← hmb]; exact HO0.out.bel.size)
    have HW3 := Lib.hid hw3
    have HG3 := Lib.hid hmb
    clear hmb hw3 hm0 hb3 HO0
    have hmm := @run_makeMap Try.prog
    go_upto_region 5 with (fail)
    rw [HW3.out, HG3.out]
    clear HW3 HG3 hmm
    go_wp2_with fail
    go_loopg [5] n0 (fun gg s5 wr => ∃ (A : Ab) (z i nn : Nat) (f : Int → Option Value), s5 = .int .i64 i ∧ i ≤ n0 ∧ n0 - i ≤ gg ∧ Hid (z ≤ 3 * i ∧ nn ≤ i ∧ LstM A f) ∧ Hid (One (fun k => k = mb) w wr h A z) ∧ Hid (MapF wr mb nn f))
    case atStart => exact ⟨Ab.new, 0, 0, 0, _, rfl, Nat.zero_le _, by omega, Lib.hid ⟨Nat.le_refl _, Nat.le_refl _, fun x => rfl⟩, HO1, HM0⟩
    case round =>
      obtain ⟨A, z, i, nn, f, rfl, hin, hgg, HI, HO, HM⟩ := hrel
      clear HO1 HM0
      by_cases hlt : i < n0
      · have hltz : (i : Int) < (n0 : Int) := by omega
        have HL := Lib.hid (And.intro hlt (And.intro hin hgg))
        have HZ : Hid (z ≤ 400) := Lib.hid (by have e1 := HI.out.1; omega)
        clear hgg hin
        obtain ⟨st, sb, so, ra, rc, rn, hst, hmem, hrn, rfl, hrw, hwf, hbl, q0, q1, q2, q3, q4, q5, q6, q7, q8, q9, q10⟩ := step_at HS.out HO.out.bel HN.out hlt
        have HST := Lib.hid (And.intro hst (And.intro hrn (And.intro hwf (HF.out.2 st hmem))))
        have hcon := one_do HO.out st ra rc rn hrn (by have := HF.out.2 st hmem; omega) hwf hrw (by have := HZ.out; omega)
        unfold stpV at hcon
        clear hst hmem hrn hwf hrw
        obtain ⟨dv, hdv⟩ : ∃ dv, A.doV st = dv := ⟨_, rfl⟩
        obtain ⟨de, hde⟩ : ∃ de, A.doE st = de := ⟨_, rfl⟩
        obtain ⟨A', hA'⟩ : ∃ A', A.doA st = A' := ⟨_, rfl⟩
        rw [hdv, hde, hA'] at hcon
        have HDV := Lib.hid hdv
        have HDE := Lib.hid hde
        have HA' := Lib.hid hA'
        have hlst := HO.out.ok.lst
        have HLA := Lib.hid hlst
        clear hdv hde hA' hlst
        go_wp2_with fail
        refine (show Calls Try.prog _ _ _ _ from hcon).mono ?_
        rintro e w4 ⟨rfl, ho, hst4⟩
        have HM2 := Lib.hid (HM.out.stay hst4 rfl)
        have HO2 := Lib.hid ho
        clear hcon ho hst4 hbl q0 q1 q2 q3 q4 q5 q6 q7 q8 q9 q10 hlt HO HM
        obtain ⟨ra2, rc2, -, hbl, q0, q1, q2, -, -, -, -, -, -, q9, -⟩ := step_re HS.out HO2.out.bel HST.out.1
        have HNN : Hid (nn < maxLen) := Lib.hid (by have := HI.out.2.1; have := HL.out.1; unfold maxLen; omega)
        by_cases he : de = 0
        · subst he
          by_cases h1 : st.kind = 1
          · rw [h1] at q0
            have hl : LstM A' f := HI.out.2.2.same (by rw [← HA'.out]; exact lst_skip (.inr (.inl h1)))
            go_wp2_with fail
            go_roundg (n0 - (i + 1))
            case measure => have := HL.out; omega
            case rel => exact ⟨A', z + 3, i + 1, nn, f, by go_num, by have := HL.out; omega, Nat.le_refl _, Lib.hid ⟨by have := HI.out.1; omega, by have := HI.out.2.1; omega, hl⟩, HO2, HM2⟩
          · by_cases h2 : st.kind = 2
            · rw [h2] at q0
              have hl : LstM A' f := HI.out.2.2.same (by rw [← HA'.out]; exact lst_skip (.inr (.inr h2)))
              go_wp2_with fail
              go_roundg (n0 - (i + 1))
              case measure => have := HL.out; omega
              case rel => exact ⟨A', z + 3, i + 1, nn, f, by go_num, by have := HL.out; omega, Nat.le_refl _, Lib.hid ⟨by have := HI.out.1; omega, by have := HI.out.2.1; omega, hl⟩, HO2, HM2⟩
            · by_cases h0 : st.kind = 0
              · have HK : Hid (I64 st.t.no) := Lib.hid HST.out.2.2.1.no
                have HLST : Hid (LstM A' (updM f st.t.no (some (.int .i64 (max (A.lst st.t.no) st.t.id))))) := Lib.hid (HI.out.2.2.set (x := st.t.no) (v := max (A.lst st.t.no) st.t.id) (fun y => by
                  rw [← HA'.out, lst_put h0 HDE.out]
                  by_cases e : y = st.t.no
                  · rw [if_pos e, if_pos e, e]
                  · rw [if_neg e, if_neg e]))
                rw [h0] at q0
                clear h1 h2 h0
                obtain ⟨la, hla⟩ : ∃ la, A.lst st.t.no = la := ⟨_, rfl⟩
                have hlk := HM2.out.look (t := 62) (z := .int .i64 0) Try.underlying62 (by kernel_rfl) HK.out
                rw [HI.out.2.2 st.t.no, hla] at hlk
                rw [hla] at HLST
                have hd := below_drw w4
                have HOD := Lib.hid (HO2.out.below hd)
                have HMD := Lib.hid (HM2.out.below hd)
                have hlkd := HMD.out.look (t := 62) (z := .int .i64 0) Try.underlying62 (by kernel_rfl) HK.out
                rw [HI.out.2.2 st.t.no, hla] at hlkd
                have HS0 : Hid (w4.drew.cell? ⟨sb, so + i * 11 + 1, none⟩ = some (.int .i64 st.t.no) ∧ w4.drew.cell? ⟨sb, so + i * 11 + 2, none⟩ = some (.int .i64 st.t.id) ∧ sb < w4.drew.heap.size ∧ (Instr.lookup 62 (.map (some mb)) (.int .i64 st.t.no) false).run Try.prog w4.drew = .ok (.int .i64 la) w4.drew) := Lib.hid ⟨by rw [hd.cell (p := ⟨sb, so + i * 11 + 1, none⟩) hbl]; exact q1, by rw [hd.cell (p := ⟨sb, so + i * 11 + 2, none⟩) hbl]; exact q2, Nat.lt_of_lt_of_le hbl hd.size, hlkd⟩
                clear hd hlk hlkd hla
                have mixed : Try.prog.follows Departure.mixedOrders = true := by kernel_rfl
                go_upto_region 14 with (fail)
                refine RX.wp_region_lastH 22 (fun W => W.cell? ⟨sb, so + i * 11 + 1, none⟩ = some (.int .i64 st.t.no) ∧ W.cell? ⟨sb, so + i * 11 + 2, none⟩ = some (.int .i64 st.t.id) ∧ sb < W.heap.size ∧ (Instr.lookup 62 (.map (some mb)) (.int .i64 st.t.no) false).run Try.prog W = .ok (.int .i64 la) W) mixed (by kernel_rfl) ?_
                simp only [List.take_succ_cons, List.take_zero, List.drop_succ_cons, List.drop_zero]
                refine wpAnyH_take (i := 0) (oi := _) (v := .map (some mb)) rfl (by kernel_rfl) (by kernel_rfl) (by kernel_rfl) (fun _ _ _ h => h) (Or.inl ⟨by rfl, fun w' hw' => ?_⟩) (HS0.out) ?_
                · obtain ⟨j0, j1, j3, j2⟩ := hw'
                  go_simp
                  try first | with_reducible rfl | simp
                refine wpAnyH_take (i := 1) (oi := _) (v := .slice (some ⟨sb, so, none⟩) n0 c0) rfl (by kernel_rfl) (by kernel_rfl) (by kernel_rfl) (fun _ _ _ h => h) (Or.inl ⟨by rfl, fun w' hw' => ?_⟩) (HS0.out) ?_
                · obtain ⟨j0, j1, j3, j2⟩ := hw'
                  go_simp
                  try first | with_reducible rfl | simp
                refine wpAnyH_take (i := 2) (oi := _) (v := .int .i64 i) rfl (by kernel_rfl) (by kernel_rfl) (by kernel_rfl) (fun _ _ _ h => h) (Or.inl ⟨by rfl, fun w' hw' => ?_⟩) (HS0.out) ?_
                · obtain ⟨j0, j1, j3, j2⟩ := hw'
                  go_simp
                  try first | with_reducible rfl | simp
                refine wpAnyH_take (i := 3) (oi := _) (v := .pointer (some ⟨sb, so + i * 11, none⟩)) rfl (by kernel_rfl) (by kernel_rfl) (by kernel_rfl) (fun _ _ _ h => h) (Or.inl ⟨by rfl, fun w' hw' => ?_⟩) (HS0.out) ?_
                · obtain ⟨j0, j1, j3, j2⟩ := hw'
                  go_simp
                  try first | with_reducible rfl | simp
                refine wpAnyH_take (i := 4) (oi := _) (v := .pointer (some ⟨sb, so + i * 11 + 1, none⟩)) rfl (by kernel_rfl) (by kernel_rfl) (by kernel_rfl) (fun _ _ _ h => h) (Or.inl ⟨by rfl, fun w' hw' => ?_⟩) (HS0.out) ?_
                · obtain ⟨j0, j1, j3, j2⟩ := hw'
                  go_simp
                  try first | with_reducible rfl | simp
                refine wpAnyH_take (i := 5) (oi := _) (v := .pointer (some ⟨sb, so + i * 11 + 1, none⟩)) rfl (by kernel_rfl) (by kernel_rfl) (by kernel_rfl) (fun _ _ _ h => h) (Or.inl ⟨by rfl, fun w' hw' => ?_⟩) (HS0.out) ?_
                · obtain ⟨j0, j1, j3, j2⟩ := hw'
                  go_simp
                  try first | with_reducible rfl | simp
                refine wpAnyH_take (i := 6) (oi := _) (v := .int .i64 st.t.no) rfl (by kernel_rfl) (by kernel_rfl) (by kernel_rfl) (fun _ _ _ h => h) (Or.inl ⟨by rfl, fun w' hw' => ?_⟩) (HS0.out) ?_
                · obtain ⟨j0, j1, j3, j2⟩ := hw'
                  go_simp
                  try first | with_reducible rfl | simp
                refine wpAnyH_take (i := 7) (oi := _) (v := .map (some mb)) rfl (by kernel_rfl) (by kernel_rfl) (by kernel_rfl) (fun _ _ _ h => h) (Or.inl ⟨by rfl, fun w' hw' => ?_⟩) (HS0.out) ?_
                · obtain ⟨j0, j1, j3, j2⟩ := hw'
                  go_simp
                  try first | with_reducible rfl | simp
                refine wpAnyH_take (i := 8) (oi := _) (v := .slice (some ⟨sb, so, none⟩) n0 c0) rfl (by kernel_rfl) (by kernel_rfl) (by kernel_rfl) (fun _ _ _ h => h) (Or.inl ⟨by rfl, fun w' hw' => ?_⟩) (HS0.out) ?_
                · obtain ⟨j0, j1, j3, j2⟩ := hw'
                  go_simp
                  try first | with_reducible rfl | simp
                refine wpAnyH_take (i := 9) (oi := _) (v := .int .i64 i) rfl (by kernel_rfl) (by kernel_rfl) (by kernel_rfl) (fun _ _ _ h => h) (Or.inl ⟨by rfl, fun w' hw' => ?_⟩) (HS0.out) ?_
                · obtain ⟨j0, j1, j3, j2⟩ := hw'
                  go_simp
                  try first | with_reducible rfl | simp
                refine wpAnyH_take (i := 10) (oi := _) (v := .pointer (some ⟨sb, so + i * 11, none⟩)) rfl (by kernel_rfl) (by kernel_rfl) (by kernel_rfl) (fun _ _ _ h => h) (Or.inl ⟨by rfl, fun w' hw' => ?_⟩) (HS0.out) ?_
                · obtain ⟨j0, j1, j3, j2⟩ := hw'
                  go_simp
                  try first | with_reducible rfl | simp
                refine wpAnyH_take (i := 11) (oi := _) (v := .pointer (some ⟨sb, so + i * 11 + 1, none⟩)) rfl (by kernel_rfl) (by kernel_rfl) (by kernel_rfl) (fun _ _ _ h => h) (Or.inl ⟨by rfl, fun w' hw' => ?_⟩) (HS0.out) ?_
                · obtain ⟨j0, j1, j3, j2⟩ := hw'
                  go_simp
                  try first | with_reducible rfl | simp
                refine wpAnyH_take (i := 12) (oi := _) (v := .pointer (some ⟨sb, so + i * 11 + 1, none⟩)) rfl (by kernel_rfl) (by kernel_rfl) (by kernel_rfl) (fun _ _ _ h => h) (Or.inl ⟨by rfl, fun w' hw' => ?_⟩) (HS0.out) ?_
                · obtain ⟨j0, j1, j3, j2⟩ := hw'
                  go_simp
                  try first | with_reducible rfl | simp
                refine wpAnyH_take (i := 13) (oi := _) (v := .int .i64 st.t.no) rfl (by kernel_rfl) (by kernel_rfl) (by kernel_rfl) (fun _ _ _ h => h) (Or.inl ⟨by rfl, fun w' hw' => ?_⟩) (HS0.out) ?_
                · obtain ⟨j0, j1, j3, j2⟩ := hw'
                  go_simp
                  try first | with_reducible rfl | simp
                refine wpAnyH_take (i := 14) (oi := _) (v := .int .i64 la) rfl (by kernel_rfl) (by kernel_rfl) (by kernel_rfl) (fun _ _ _ h => h) (Or.inl ⟨by rfl, fun w' hw' => ?_⟩) (HS0.out) ?_
                · obtain ⟨j0, j1, j3, j2⟩ := hw'
                  go_simp
                  try first | with_reducible rfl | simp
                refine wpAnyH_take (i := 15) (oi := _) (v := .slice (some ⟨sb, so, none⟩) n0 c0) rfl (by kernel_rfl) (by kernel_rfl) (by kernel_rfl) (fun _ _ _ h => h) (Or.inl ⟨by rfl, fun w' hw' => ?_⟩) (HS0.out) ?_
                · obtain ⟨j0, j1, j3, j2⟩ := hw'
                  go_simp
                  try first | with_reducible rfl | simp
                refine wpAnyH_take (i := 16) (oi := _) (v := .int .i64 i) rfl (by kernel_rfl) (by kernel_rfl) (by kernel_rfl) (fun _ _ _ h => h) (Or.inl ⟨by rfl, fun w' hw' => ?_⟩) (HS0.out) ?_
                · obtain ⟨j0, j1, j3, j2⟩ := hw'
                  go_simp
                  try first | with_reducible rfl | simp
                refine wpAnyH_take (i := 17) (oi := _) (v := .pointer (some ⟨sb, so + i * 11, none⟩)) rfl (by kernel_rfl) (by kernel_rfl) (by kernel_rfl) (fun _ _ _ h => h) (Or.inl ⟨by rfl, fun w' hw' => ?_⟩) (HS0.out) ?_
                · obtain ⟨j0, j1, j3, j2⟩ := hw'
                  go_simp
                  try first | with_reducible rfl | simp
                refine wpAnyH_take (i := 18) (oi := _) (v := .pointer (some ⟨sb, so + i * 11 + 1, none⟩)) rfl (by kernel_rfl) (by kernel_rfl) (by kernel_rfl) (fun _ _ _ h => h) (Or.inl ⟨by rfl, fun w' hw' => ?_⟩) (HS0.out) ?_
                · obtain ⟨j0, j1, j3, j2⟩ := hw'
                  go_simp
                  try first | with_reducible rfl | simp
                refine wpAnyH_take (i := 19) (oi := _) (v := .pointer (some ⟨sb, so + i * 11 + 2, none⟩)) rfl (by kernel_rfl) (by kernel_rfl) (by kernel_rfl) (fun _ _ _ h => h) (Or.inl ⟨by rfl, fun w' hw' => ?_⟩) (HS0.out) ?_
                · obtain ⟨j0, j1, j3, j2⟩ := hw'
                  go_simp
                  try first | with_reducible rfl | simp
                refine wpAnyH_take (i := 20) (oi := _) (v := .int .i64 st.t.id) rfl (by kernel_rfl) (by kernel_rfl) (by kernel_rfl) (fun _ _ _ h => h) (Or.inl ⟨by rfl, fun w' hw' => ?_⟩) (HS0.out) ?_
                · obtain ⟨j0, j1, j3, j2⟩ := hw'
                  go_simp
                  try first | with_reducible rfl | simp
                refine wpAnyH_take (i := 21) (oi := _) (v := .int .i64 (max la st.t.id)) rfl (by kernel_rfl) (by kernel_rfl) (by kernel_rfl) (fun _ _ _ h => h) (Or.inl ⟨by rfl, fun w' hw' => ?_⟩) (HS0.out) ?_
                · obtain ⟨j0, j1, j3, j2⟩ := hw'
                  go_simp
                  try first | with_reducible rfl | simp
                refine wpAnyH_done (by kernel_rfl) ?_ _
                unfold RX.lastQ
                go_wp2_with (first | (at_mapUpdate; refine put_f rfl _ _ _ 62 rfl 3 Try.underlying62 mb nn f rfl HMD.out HNN.out (st.t.no) HK.out rfl (.int .i64 (max la st.t.id)) rfl ?_; intro w7 hm7 hg7) | go_in)
                have HM7 := Lib.hid hm7
                have HO7 : Hid (One (fun k => k = mb) w w7 h A' (z + 3)) := Lib.hid (HOD.out.wrote (Touch.grown hg7 (fun k hk => (Option.some.inj hk).symm)) (fun k hk => ⟨hk, by rw [hk]; exact HMB.out⟩))
                clear hm7 hg7
                go_wp2_with fail
                go_roundg (n0 - (i + 1))
                case measure => have := HL.out; omega
                case rel => exact ⟨A', z + 3, i + 1, nn + 1, _, by go_num, by have := HL.out; omega, Nat.le_refl _, Lib.hid ⟨by have := HI.out.1; omega, by have := HI.out.2.1; omega, HLST.out⟩, HO7, HM7⟩
              · have HK3 := Lib.hid (And.intro h0 (And.intro h1 h2))
                have n0' : (st.kind == 0) = false := by simpa using h0
                have n1' : (st.kind == 1) = false := by simpa using h1
                have n2' : (st.kind == 2) = false := by simpa using h2
                have HK : Hid (I64 st.a) := Lib.hid HST.out.2.2.1.a
                clear h0 h1 h2
                by_cases ha1 : st.a < 1
                · have hw : ¬ Most st.a := fun h => by have := h.1; omega
                  have hl : LstM A' f := HI.out.2.2.same (by rw [← HA'.out]; exact (lst_full HK3.out.1 HK3.out.2.1 HK3.out.2.2 (.inl hw)).1)
                  obtain rfl : dv = 0 := by rw [← HDV.out]; exact (lst_full HK3.out.1 HK3.out.2.1 HK3.out.2.2 (.inl hw)).2
                  clear hw
                  go_wp2_with fail
                  go_roundg (n0 - (i + 1))
                  case measure => have := HL.out; omega
                  case rel => exact ⟨A', z + 3, i + 1, nn, f, by go_num, by have := HL.out; omega, Nat.le_refl _, Lib.hid ⟨by have := HI.out.1; omega, by have := HI.out.2.1; omega, hl⟩, HO2, HM2⟩
                · by_cases ha2 : 2147483647 < st.a
                  · have hw : ¬ Most st.a := fun h => by have := h.2; omega
                    have hl : LstM A' f := HI.out.2.2.same (by rw [← HA'.out]; exact (lst_full HK3.out.1 HK3.out.2.1 HK3.out.2.2 (.inl hw)).1)
                    obtain rfl : dv = 0 := by rw [← HDV.out]; exact (lst_full HK3.out.1 HK3.out.2.1 HK3.out.2.2 (.inl hw)).2
                    clear hw
                    go_wp2_with fail
                    go_roundg (n0 - (i + 1))
                    case measure => have := HL.out; omega
                    case rel => exact ⟨A', z + 3, i + 1, nn, f, by go_num, by have := HL.out; omega, Nat.le_refl _, Lib.hid ⟨by have := HI.out.1; omega, by have := HI.out.2.1; omega, hl⟩, HO2, HM2⟩
                  · have hlk := HM2.out.look (t := 62) (z := .int .i64 0) Try.underlying62 (by kernel_rfl) HK.out
                    rw [HI.out.2.2 st.a] at hlk
                    obtain ⟨la, hla⟩ : ∃ la, A.lst st.a = la := ⟨_, rfl⟩
                    rw [hla] at hlk
                    have hbd := HLA.out st.a
                    rw [hla] at hbd
                    by_cases hf : la = 2147483647
                    · subst hf
                      have hw : A.lst st.a = 2147483647 := hla
                      clear hla hbd
                      have hl : LstM A' f := HI.out.2.2.same (by rw [← HA'.out]; exact (lst_full HK3.out.1 HK3.out.2.1 HK3.out.2.2 (.inr hw)).1)
                      obtain rfl : dv = 0 := by rw [← HDV.out]; exact (lst_full HK3.out.1 HK3.out.2.1 HK3.out.2.2 (.inr hw)).2
                      clear hw
                      go_wp2_with fail
                      go_roundg (n0 - (i + 1))
                      case measure => have := HL.out; omega
                      case rel => exact ⟨A', z + 3, i + 1, nn, f, by go_num, by have := HL.out; omega, Nat.le_refl _, Lib.hid ⟨by have := HI.out.1; omega, by have := HI.out.2.1; omega, hl⟩, HO2, HM2⟩
                    · have hnf : (la == 2147483647) = false := by simpa using hf
                      have hmost : Most st.a := ⟨by omega, by omega⟩
                      obtain ⟨e1, e2⟩ := lst_next HK3.out.1 HK3.out.2.1 HK3.out.2.2 hmost (by rw [hla]; exact hf)
                      obtain rfl : dv = la + 1 := by rw [← HDV.out, e2, hla]
                      have HLST : Hid (LstM A' (updM f st.a (some (.int .i64 (la + 1))))) := Lib.hid (HI.out.2.2.set (x := st.a) (v := la + 1) (fun y => by rw [← HA'.out, e1, hla]))
                      have HOD := HO2
                      have hwl : la ≤ 2147483646 := by omega
                      have hw0 := hbd.1
                      clear e1 e2 hla hf hmost hbd
                      go_wp2_with (first | (at_mapUpdate; refine put_f rfl _ _ _ 62 rfl 3 Try.underlying62 mb nn f rfl HM2.out HNN.out (st.a) HK.out rfl (.int .i64 (la + 1)) rfl ?_; intro w7 hm7 hg7) | go_in)
                      have HM7 := Lib.hid hm7
                      have HO7 : Hid (One (fun k => k = mb) w w7 h A' (z + 3)) := Lib.hid (HOD.out.wrote (Touch.grown hg7 (fun k hk => (Option.some.inj hk).symm)) (fun k hk => ⟨hk, by rw [hk]; exact HMB.out⟩))
                      clear hm7 hg7
                      go_wp2_with fail
                      go_roundg (n0 - (i + 1))
                      case measure => have := HL.out; omega
                      case rel => exact ⟨A', z + 3, i + 1, nn + 1, _, by go_num, by have := HL.out; omega, Nat.le_refl _, Lib.hid ⟨by have := HI.out.1; omega, by have := HI.out.2.1; omega, HLST.out⟩, HO7, HM7⟩
        · have hne : (de == 0) = false := by simpa using he
          have he' : A.doE st ≠ 0 := by rw [HDE.out]; exact he
          have hl : LstM A' f := HI.out.2.2.same (by rw [← HA'.out]; exact lst_skip (.inl he'))
          go_wp2_with fail
          go_roundg (n0 - (i + 1))
          case measure => have := HL.out; omega
          case rel => exact ⟨A', z + 3, i + 1, nn, f, by go_num, by have := HL.out; omega, Nat.le_refl _, Lib.hid ⟨by have := HI.out.1; omega, by have := HI.out.2.1; omega, hl⟩, HO2, HM2⟩
      · have hltz : ¬ (i : Int) < (n0 : Int) := by omega
        go_wp2_with fail
        go_ret
        exact ⟨rfl, HO.out.bel⟩

end Go.Proofs.Ytkedkeelbbfmkaa
