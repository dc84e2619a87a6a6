/-
  The law HeapThere, walked.
-/
import Derived.Test.YtkedkeelbbfmkaaHTh
import Derived.Test.YtkedkeelbbfmkaaHLarge
import Derived.Test.YtkedkeelbbfmkaaRegX
import Derived.Test.YtkedkeelbbfmkaaRegL
namespace Go.Proofs.Ytkedkeelbbfmkaa
open Go.RowKit
set_option linter.unusedVariables false

theorem drewN_belT (w : World) (n : Nat) : Below w.heap.size w (w.drewN n) := ⟨rfl, rfl, rfl, Nat.le_refl _, fun _ _ => rfl⟩

set_option maxRecDepth 100000 in
set_option maxHeartbeats 8000000 in
theorem there_law (a0 : Option Addr) (c0 n0 : Nat) (l0 : List Stp) (hn0 : l0.length = n0) (w : World) (hs0 : SlSt w a0 c0 l0) :
    Calls Try.prog 5 #[.slice a0 n0 c0] w fun e w' => e = .returned (.bool true) ∧ Below w.heap.size w w' := by
  have HS := Lib.hid hs0
  have HN := Lib.hid hn0
  clear hs0 hn0
  go_enter Try.func5, Try.ntmps5
  have hcon := works_is w
  go_wp2_with fail
  refine (show Calls Try.prog _ _ _ _ from hcon).mono ?_
  rintro e w1 ⟨rfl, hb⟩
  have HB1 := Lib.hid hb
  clear hcon hb
  have hcon := large_is w1 a0 c0 n0 l0 HN.out (HS.out.below HB1.out)
  go_wp2_with fail
  refine (show Calls Try.prog _ _ _ _ from hcon).mono ?_
  rintro e w1b ⟨v, rfl, hv, rfl⟩
  clear hcon 
  rcases hv with rfl | ⟨rfl, hf⟩
  · have hcon := works_is w1b
    go_wp2_with fail
    refine (show Calls Try.prog _ _ _ _ from hcon).mono ?_
    rintro e w2 ⟨rfl, hb⟩
    have HB2 := Lib.hid (below_tr HB1.out hb)
    clear hcon hb
    go_wp2_with fail
    go_ret
    exact ⟨rfl, HB2.out⟩
  · have HF := Lib.hid hf
    clear hf
    have hcon := one_new (X := fun _ => False) (w0 := w) HB1.out (fun _ h => h.elim)
    go_wp2_with fail
    refine (show Calls Try.prog _ _ _ _ from hcon).mono ?_
    rintro e w2 ⟨h, rfl, ho⟩
    have HO0 := Lib.hid ho
    clear hcon ho HB1
    have h120 : n0 ≤ 120 := by have e1 := HF.out.1; have e2 := HN.out; omega
    have HT0 := Lib.hid (Th.start HO0.out)
    clear HO0
    go_wp2_with fail
    go_loopg [4, 5] n0 (fun gg s4 s5 wr => ∃ (A : Ab) (z i : Nat) (ta : Option Addr) (tn tc : Nat), s4 = .slice ta tn tc ∧ s5 = .int .i64 i ∧ i ≤ n0 ∧ n0 - i ≤ gg ∧ Hid (z ≤ 3 * i ∧ (pls A).length = tn) ∧ Hid (Th w wr h A z (.slice ta tn tc) (pls A) (.slice none 0 0) []))
    case atStart => exact ⟨Ab.new, 0, 0, none, 0, 0, rfl, rfl, Nat.zero_le _, by omega, Lib.hid ⟨Nat.le_refl _, rfl⟩, HT0⟩
    case round =>
      obtain ⟨A, z, i, ta, tn, tc, rfl, rfl, hin, hgg, HI, HT⟩ := hrel
      clear HT0
      by_cases hlt : i < n0
      · have hltz : (i : Int) < (n0 : Int) := by omega
        have HL := Lib.hid (And.intro hlt (And.intro hin hgg))
        have HZ : Hid (z ≤ 400) := Lib.hid (by have e1 := HI.out.1; omega)
        have HTN : Hid ((pls A).length = tn) := Lib.hid HI.out.2
        have htn9 : tn ≤ 400 := by have e1 := HT.out.one.len; rw [← pls_len, HTN.out] at e1; have := HZ.out; omega
        have HO := Lib.hid HT.out.one
        clear hgg hin
        obtain ⟨st, sb, so, ra, rc, rn, hst, hmem, hrn, rfl, hrw, hwf, hbl, q0, q1, q2, q3, q4, q5, q6, q7, q8, q9, q10⟩ := step_at HS.out HO.out.bel HN.out hlt
        have HST := Lib.hid (And.intro hst (And.intro hrn (And.intro hwf (HF.out.2 st hmem))))
        have hcon := one_do HO.out st ra rc rn hrn (by have := HF.out.2 st hmem; omega) hwf hrw (by have := HZ.out; omega)
        unfold stpV at hcon
        clear hst hmem hrn hwf hrw
        obtain ⟨dv, hdv⟩ : ∃ dv, A.doV st = dv := ⟨_, rfl⟩
        obtain ⟨de, hde⟩ : ∃ de, A.doE st = de := ⟨_, rfl⟩
        obtain ⟨A', hA'⟩ : ∃ A', A.doA st = A' := ⟨_, rfl⟩
        rw [hdv, hde, hA'] at hcon
        have HDV := Lib.hid hdv
        have HDE := Lib.hid hde
        have HA' := Lib.hid hA'
        clear hdv hde hA'
        go_wp2_with fail
        refine (show Calls Try.prog _ _ _ _ from hcon).mono ?_
        rintro e w4 ⟨rfl, ho, hst4⟩
        have HT4 := Lib.hid (HT.out.did ho hst4)
        clear hcon ho hst4 hbl q0 q1 q2 q3 q4 q5 q6 q7 q8 q9 q10 hlt HO HT
        obtain ⟨ra2, rc2, hrw2, hrn2, ⟨hbl, hbl0⟩, q0, q1, q2, q3, q4, q5, q6, q7, q8, q9, q10⟩ := step_re2 HS.out HT4.out.one.bel HST.out.1 HST.out.2.1
        clear hrw2 hrn2 hbl0
        obtain ⟨pb, hpb⟩ : ∃ pb, decide (st.kind = 0 ∧ de = 0) = pb := ⟨_, rfl⟩
        have HPB := Lib.hid hpb
        clear hpb
        go_upto_region 9 with (fail)
        go_cut [49] (fun sx wx => sx = .bool pb ∧ wx = w4)
        case first =>
          by_cases he : de = 0
          · by_cases h0 : st.kind = 0
            · obtain rfl : pb = true := by rw [← HPB.out]; exact decide_eq_true ⟨h0, he⟩
              subst he
              rw [h0] at q0
              clear h0
              go_wp2_with fail
              go_meet
              exact ⟨rfl, rfl⟩
            · have n0' : (st.kind == 0) = false := by simpa using h0
              obtain rfl : pb = false := by rw [← HPB.out]; exact decide_eq_false (fun h => h0 h.1)
              subst he
              clear h0
              go_wp2_with fail
              go_meet
              exact ⟨rfl, rfl⟩
          · have hne : (de == 0) = false := by simpa using he
            obtain rfl : pb = false := by rw [← HPB.out]; exact decide_eq_false (fun h => he h.2)
            go_wp2_with fail
            go_meet
            exact ⟨rfl, rfl⟩
        case rest =>
         obtain ⟨rfl, rfl⟩ := hcut
         clear q0 q1 q2 q3 q4 q5 q6 q7 q8 q9 q10 hbl
         go_upto_if 49 with (fail)
         go_cut [4] (fun s4 wx => ∃ (ua : Option Addr) (un uc : Nat), s4 = .slice ua un uc ∧ un ≤ 401 ∧ Hid (Th w wx h A' (z + 3) (.slice ua un uc) (fstP A st) (.slice none 0 0) [] ∧ (fstP A st).length = un))
         case first =>
          cases pb
          · have HX : Hid (fstP A st = pls A) := Lib.hid (by unfold fstP; rw [if_neg (fun e => by have := of_decide_eq_false HPB.out; rw [HDE.out] at e; exact this e)])
            go_wp2_with fail
            go_meet
            exact ⟨ta, tn, tc, rfl, by omega, Lib.hid (by rw [HX.out]; exact ⟨HT4.out, HTN.out⟩)⟩
          · have HK0 : Hid (st.kind = 0 ∧ A.doE st = 0) := Lib.hid (by have := of_decide_eq_true HPB.out; exact ⟨this.1, HDE.out.trans this.2⟩)
            obtain rfl : dv = (A.slot : Int) := by rw [← HDV.out]; exact (doE_put HK0.out.1 HK0.out.2).2.2
            go_wp2_with fail
            go_loopg [8] tn (fun gg s8 wv => ∃ j : Nat, s8 = .int .i64 j ∧ j ≤ tn ∧ tn - j ≤ gg ∧ Hid (Th w wv h A' (z + 3) (.slice ta tn tc) (pls A) (.slice none 0 0) []))
            case atStart => exact ⟨0, rfl, Nat.zero_le _, by omega, HT4⟩
            case round =>
              obtain ⟨j, rfl, hj, hgj, HTj⟩ := hrel
              clear HT4
              by_cases hlt2 : j < tn
              · have hltz2 : (j : Int) < (tn : Int) := by omega
                obtain ⟨p, hp⟩ : ∃ p, (pls A)[j]? = some p := ⟨(pls A)[j]'(by rw [HTN.out]; exact hlt2), by simp [HTN.out, hlt2]⟩
                obtain ⟨b, ra3, rc3, rfl, hbb, -, -, k0, -⟩ := HTj.out.tr.at hp
                have hne : (p.1 == (A.slot : Int)) = false := by
                  obtain ⟨k, e1, e2⟩ := pls_mem (List.mem_of_getElem? hp)
                  rw [beq_eq_false_iff_ne, e1]
                  intro e
                  have : k = A.slot := by omega
                  rw [this] at e2
                  exact (leastN_is A.used).1 (List.mem_map.2 ⟨_, e2, rfl⟩)
                have hne2 : ¬ p.1 = (A.slot : Int) := by simpa using hne
                clear hp
                go_wp2_with fail
                go_roundg (tn - (j + 1))
                case measure => omega
                case rel => exact ⟨j + 1, by go_num, by omega, Nat.le_refl _, HTj⟩
              · have hltz2 : ¬ (j : Int) < (tn : Int) := by omega
                clear hj hgj hlt2
                obtain ⟨ra2, rc2, hrw2, hrn2, ⟨hbl, hbl0⟩, q0, q1, q2, q3, q4, q5, q6, q7, q8, q9, q10⟩ := step_re2 HS.out HTj.out.one.bel HST.out.1 HST.out.2.1
                obtain ⟨a1, c1, W6, hrun, ht6⟩ := HTj.out.swap.push (((A.slot : Int), st.t) : Plc) ra2 rc2 hrw2 hrn2 (by rw [HTN.out]; omega)
                simp only [plC, HST.out.2.1, HTN.out] at hrun
                rw [HTN.out] at ht6
                have HRUN := Lib.hid hrun
                have HT6 := Lib.hid ht6.next
                clear hrun ht6 hrw2 hrn2 q0 q8 q9 q10
                go_wp2_with (first | (at_builtin; refine append_stepW rfl _ _ 59 rfl _ _ _ _ rfl rfl (HRUN.out _) ?_) | fail)
                go_meet
                refine ⟨a1, tn + 1, c1, rfl, by omega, ?_⟩
                refine Lib.hid ?_
                have e : fstP A st = pls A ++ [((A.slot : Int), st.t)] := by unfold fstP; rw [if_pos HK0.out]
                rw [e]
                exact ⟨HT6.out, by rw [List.length_append, HTN.out]; rfl⟩
         case rest =>
          obtain ⟨ua, un, uc, rfl, hun, HT5'⟩ := hcut
          have HT5 := Lib.hid HT5'.out.1
          have HUN := Lib.hid HT5'.out.2
          clear HT5' HT4
          go_wp2_with fail
          go_loopg [9, 10, 11] un (fun gg s9 s10 s11 wv => ∃ (k : Nat) (la : Option Addr) (ln lc : Nat) (fd : Bool), s9 = .slice la ln lc ∧ s10 = .bool fd ∧ s11 = .int .i64 k ∧ k ≤ un ∧ un - k ≤ gg ∧ Hid (Th w wv h A' (z + 3) (.slice ua un uc) (fstP A st) (.slice la ln lc) (((fstP A st).take k).filterMap (leftP st))) ∧ Hid ((((fstP A st).take k).filterMap (leftP st)).length = ln) ∧ Hid (((fstP A st).take k).any (hitP st) = fd))
          case atStart => exact ⟨0, none, 0, 0, false, rfl, rfl, rfl, Nat.zero_le _, by omega, HT5, Lib.hid rfl, Lib.hid rfl⟩
          case round =>
            obtain ⟨k, la, ln, lc, fd, rfl, rfl, rfl, hk, hgk, HTk, HLM, HFD⟩ := hrel
            clear HT5
            by_cases hlt3 : k < un
            · have hltz3 : (k : Int) < (un : Int) := by omega
              obtain ⟨p, hp⟩ : ∃ p, (fstP A st)[k]? = some p := ⟨(fstP A st)[k]'(by rw [HUN.out]; exact hlt3), by simp [HUN.out, hlt3]⟩
              have HPK := Lib.hid hp
              obtain ⟨b, pa, pc, rfl, hbb, hpr, hpn, k0, k1, k2, k3, k4, k5, k6, k7⟩ := HTk.out.tr.at hp
              obtain ⟨pn, hpl⟩ : ∃ pn, p.2.row.length = pn := ⟨_, rfl⟩
              rw [hpl] at k7
              have HPL := Lib.hid hpl
              have HLN9 : Hid (ln ≤ 1000) := Lib.hid (by
                rw [← HLM.out]
                refine Nat.le_trans (List.length_filterMap_le _ _) ?_
                rw [List.length_take, HUN.out]
                omega)
              obtain ⟨ra2, rc2, hrw2, hrn2, ⟨hbl, hbl0⟩, q0, q1, q2, q3, q4, q5, q6, q7, q8, q9, q10⟩ := step_re2 HS.out HTk.out.one.bel HST.out.1 HST.out.2.1
              obtain ⟨g, hg⟩ : ∃ g, wr.heap.size = g := ⟨_, rfl⟩
              obtain ⟨W1, hW1⟩ : ∃ W1, wr.alloc (.cells (plC p (.slice pa pn pc)).toArray 61) = W1 := ⟨_, rfl⟩
              have l1 := Lit.new wr 61 (plC p (.slice pa pn pc))
              have b1 := Below.allocs wr (.cells (plC p (.slice pa pn pc)).toArray 61)
              rw [hW1] at l1 b1
              rw [hg] at l1
              obtain ⟨d0, d1, d2, d3, d4, d5, d6, d7, dl⟩ : W1.cell? ⟨g, 0, none⟩ = some (.int .i64 p.1) ∧ W1.cell? ⟨g, 1, none⟩ = some (.int .i64 p.2.no) ∧ W1.cell? ⟨g, 2, none⟩ = some (.int .i64 p.2.id) ∧ W1.cell? ⟨g, 3, none⟩ = some (.int .i64 p.2.mn) ∧ W1.cell? ⟨g, 4, none⟩ = some (.int .i64 p.2.cm) ∧ W1.cell? ⟨g, 5, none⟩ = some (.int .i64 p.2.mx) ∧ W1.cell? ⟨g, 6, none⟩ = some (.int .i64 p.2.cx) ∧ W1.cell? ⟨g, 7, none⟩ = some (.slice pa pn pc) ∧ g < W1.heap.size :=
                ⟨l1.cell rfl, l1.cell rfl, l1.cell rfl, l1.cell rfl, l1.cell rfl, l1.cell rfl, l1.cell rfl, l1.cell rfl, l1.lt⟩
              have p0 : W1.cell? ⟨sb, so + i * 11, none⟩ = some (.int .u8 st.kind) := by rw [b1.cell (p := ⟨sb, so + i * 11, none⟩) hbl]; exact q0
              have p8 : W1.cell? ⟨sb, so + i * 11 + 8, none⟩ = some (.int .i64 st.slot) := by rw [b1.cell (p := ⟨sb, so + i * 11 + 8, none⟩) hbl]; exact q8
              have p9 : W1.cell? ⟨sb, so + i * 11 + 9, none⟩ = some (.int .i64 st.a) := by rw [b1.cell (p := ⟨sb, so + i * 11 + 9, none⟩) hbl]; exact q9
              have p10 : W1.cell? ⟨sb, so + i * 11 + 10, none⟩ = some (.int .i64 st.b) := by rw [b1.cell (p := ⟨sb, so + i * 11 + 10, none⟩) hbl]; exact q10
              have HTk1 := Lib.hid (HTk.out.below b1)
              have HB1 := Lib.hid b1
              have HL1 := Lib.hid l1
              have HW1 := Lib.hid hW1
              have HG := Lib.hid hg
              unfold plC at HW1
              have hsg : ¬ sb = g := by omega
              have hsg2 : ¬ g = sb := by omega
              have HSG := Lib.hid hsg
              have HPRB := Lib.hid hpr
              have HGE := Lib.hid hg
              clear hp hpl hrw2 hrn2 hbl hbl0 q0 q1 q2 q3 q4 q5 q6 q7 q8 q9 q10 hg hW1 b1 l1 hpr hsg hsg2
              go_upto_region 22 with (fail)
              rw [show wr.alloc _ = W1 from HW1.out, HG.out]
              clear HW1 HG k0 k1 k2 k3 k4 k5 k6 k7 hbb
              go_cut [13] (fun s13 wx => s13 = .bool (hitP st p) ∧ Hid (Below W1.heap.size W1 wx))
              case first =>
                as_aux_lemma =>
                  by_cases hps : p.1 = st.slot
                  · have HPS := Lib.hid hps
                    rw [← hps] at p8
                    clear hps
                    by_cases h1 : st.kind = 1
                    · rw [h1] at p0
                      have HX : Hid (true = hitP st p) := Lib.hid (by unfold hitP; symm; exact decide_eq_true ⟨HPS.out, .inl h1⟩)
                      clear h1
                      go_quiet (fail)
                      go_wp2_with fail
                      go_meet
                      exact ⟨congrArg Value.bool HX.out, Lib.hid (drewN_belT _ _)⟩
                    · by_cases h2 : st.kind = 2
                      · rw [h2] at p0
                        have HX : Hid (true = hitP st p) := Lib.hid (by unfold hitP; symm; exact decide_eq_true ⟨HPS.out, .inr h2⟩)
                        clear h1 h2
                        go_quiet (fail)
                        go_wp2_with fail
                        go_meet
                        exact ⟨congrArg Value.bool HX.out, Lib.hid (drewN_belT _ _)⟩
                      · have n1 : (st.kind == 1) = false := by simpa using h1
                        have n2 : (st.kind == 2) = false := by simpa using h2
                        have HX : Hid (false = hitP st p) := Lib.hid (by unfold hitP; symm; exact decide_eq_false (fun h => h.2.elim h1 h2))
                        clear h1 h2
                        go_quiet (fail)
                        go_wp2_with fail
                        go_meet
                        exact ⟨congrArg Value.bool HX.out, Lib.hid (drewN_belT _ _)⟩
                  · have np : (p.1 == st.slot) = false := by simpa using hps
                    have HX : Hid (false = hitP st p) := Lib.hid (by unfold hitP; symm; exact decide_eq_false (fun h => hps h.1))
                    go_quiet (fail)
                    go_wp2_with fail
                    go_meet
                    exact ⟨congrArg Value.bool HX.out, Lib.hid (drewN_belT _ _)⟩
              case rest =>
                obtain ⟨rfl, HBX⟩ := hcut
                have HTc := Lib.hid (HTk1.out.below HBX.out)
                have HLc := Lib.hid (HL1.out.below HBX.out)
                have HBc : Hid (Below wr.heap.size wr wc) := Lib.hid (below_tr HB1.out HBX.out)
                clear HTk1 HBX HL1 HB1 p0 p8 p9 p10 d0 d1 d2 d3 d4 d5 d6 d7 dl
                obtain ⟨d0, d1, d2, d3, d4, d5, d6, d7, dl⟩ : wc.cell? ⟨g, 0, none⟩ = some (.int .i64 p.1) ∧ wc.cell? ⟨g, 1, none⟩ = some (.int .i64 p.2.no) ∧ wc.cell? ⟨g, 2, none⟩ = some (.int .i64 p.2.id) ∧ wc.cell? ⟨g, 3, none⟩ = some (.int .i64 p.2.mn) ∧ wc.cell? ⟨g, 4, none⟩ = some (.int .i64 p.2.cm) ∧ wc.cell? ⟨g, 5, none⟩ = some (.int .i64 p.2.mx) ∧ wc.cell? ⟨g, 6, none⟩ = some (.int .i64 p.2.cx) ∧ wc.cell? ⟨g, 7, none⟩ = some (.slice pa pn pc) ∧ g < wc.heap.size :=
                  ⟨HLc.out.cell rfl, HLc.out.cell rfl, HLc.out.cell rfl, HLc.out.cell rfl, HLc.out.cell rfl, HLc.out.cell rfl, HLc.out.cell rfl, HLc.out.cell rfl, HLc.out.lt⟩
                obtain ⟨ra2, rc2, hrw2, hrn2, ⟨hbl, hbl0⟩, q0, q1, q2, q3, q4, q5, q6, q7, q8, q9, q10⟩ := step_re2 HS.out HTc.out.one.bel HST.out.1 HST.out.2.1
                clear hrw2 hrn2 q1 q2 q3 q4 q5 q6 q7 q8
                go_upto_region 23 with (fail)
                go_cut [10] (fun s10 wx => s10 = .bool (fd || hitP st p) ∧ wx = wc)
                case first =>
                  cases fd
                  · go_wp2_with fail
                    go_meet
                    exact ⟨by simp, rfl⟩
                  · go_wp2_with fail
                    go_meet
                    exact ⟨by simp, rfl⟩
                case rest =>
                  obtain ⟨rfl, rfl⟩ := hcut
                  obtain ⟨fd2, hfd2⟩ : ∃ fd2, (fd || hitP st p) = fd2 := ⟨_, rfl⟩
                  rw [hfd2]
                  have HFD2 := Lib.hid hfd2
                  have HL3 := Lib.hid (And.intro hlt3 (And.intro hk hgk))
                  clear hfd2 hlt3 hk hgk
                  by_cases hps : p.1 = st.slot ∧ (st.kind = 1 ∨ st.kind = 2)
                  · have hh : hitP st p = true := by unfold hitP; exact decide_eq_true hps
                    rw [hh]
                    clear hh
                    by_cases h1 : st.kind = 1
                    · have HLP : Hid (leftP st p = some (p.1, p.2.kill st.a st.b)) := Lib.hid (by unfold leftP; rw [if_neg (fun e => by omega), if_pos ⟨hps.1, h1⟩])
                      rw [h1] at q0
                      clear hps h1
                      have la' := HLc.out.set 5 (.int .i64 st.a)
                      have ta := Touch.setCell wc (F := fun k => k = g) rfl 5 (.int .i64 st.a)
                      have z5 := HLc.out.fz 5
                      obtain ⟨Wa, hWa⟩ : ∃ Wa, wc.setCell ⟨g, 5, none⟩ (.int .i64 st.a) = Wa := ⟨_, rfl⟩
                      rw [hWa] at la' ta
                      have lb := la'.set 6 (.int .i64 st.b)
                      have tb := Touch.setCell Wa (F := fun k => k = g) rfl 6 (.int .i64 st.b)
                      have z6 := la'.fz 6
                      obtain ⟨Wb, hWb⟩ : ∃ Wb, Wa.setCell ⟨g, 6, none⟩ (.int .i64 st.b) = Wb := ⟨_, rfl⟩
                      rw [hWb] at lb tb
                      have hga : wr.heap.size ≤ g := by rw [← HGE.out]; exact Nat.le_refl _
                      have ba : Below wr.heap.size wr Wa := HBc.out.trans (ta.below (fun k hk => by omega) HBc.out.size)
                      have bb : Below wr.heap.size wr Wb := ba.trans (tb.below (fun k hk => by omega) ba.size)
                      have hprb := HPRB.out
                      obtain ⟨a3, c3, W6, hrun, ht6⟩ := (HTk.out.below bb).push ((p.1, p.2.kill st.a st.b)) pa pc (SlL.below hprb bb) hpn (by have e1 := HLN9.out; rw [HLM.out]; omega)
                      simp only [plC, Tup.kill, HPL.out, HLM.out] at hrun
                      rw [HLM.out] at ht6
                      have HRUN := Lib.hid hrun
                      have HT6 := Lib.hid ht6
                      clear hrun ht6
                      obtain ⟨ra9, rc9, -, -, ⟨hbl9, -⟩, -, -, -, -, -, -, -, -, -, -, r10⟩ := step_re2 HS.out (HTk.out.below ba).one.bel HST.out.1 HST.out.2.1
                      have a6l := la'.cell (o := 6) rfl
                      obtain ⟨f0, f1, f2, f3, f4, f5, f6, f7, fl⟩ : Wb.cell? ⟨g, 0, none⟩ = some (.int .i64 p.1) ∧ Wb.cell? ⟨g, 1, none⟩ = some (.int .i64 p.2.no) ∧ Wb.cell? ⟨g, 2, none⟩ = some (.int .i64 p.2.id) ∧ Wb.cell? ⟨g, 3, none⟩ = some (.int .i64 p.2.mn) ∧ Wb.cell? ⟨g, 4, none⟩ = some (.int .i64 p.2.cm) ∧ Wb.cell? ⟨g, 5, none⟩ = some (.int .i64 st.a) ∧ Wb.cell? ⟨g, 6, none⟩ = some (.int .i64 st.b) ∧ Wb.cell? ⟨g, 7, none⟩ = some (.slice pa pn pc) ∧ g < Wb.heap.size :=
                        ⟨lb.cell rfl, lb.cell rfl, lb.cell rfl, lb.cell rfl, lb.cell rfl, lb.cell rfl, lb.cell rfl, lb.cell rfl, lb.lt⟩
                      have al6 : Wa.cell? ⟨g, 6, none⟩ = some (.int .i64 p.2.cx) := a6l
                      have hgl := la'.lt
                      have HWa := Lib.hid hWa
                      have HWb := Lib.hid hWb
                      clear la' ta lb tb hWa hWb ba bb hprb a6l hga
                      go_upto_region 27 with (fail)
                      rw [HWa.out]
                      clear HWa q0 q9 q10 d0 d1 d2 d3 d4 d5 d6 d7 dl z5 hbl hbl0
                      go_upto_region 28 with (fail)
                      rw [HWb.out]
                      clear HWb r10 hbl9 al6 z6 hgl
                      go_wp2_with (first | (at_builtin; refine append_stepW rfl _ _ 59 rfl _ _ _ _ rfl rfl (HRUN.out _) ?_) | fail)
                      go_roundg (un - (k + 1))
                      case measure => have := HL3.out; omega
                      case rel => exact ⟨k + 1, a3, ln + 1, c3, fd2, rfl, rfl, by go_num, by have := HL3.out; omega, Nat.le_refl _, Lib.hid (by rw [take_left HPK.out, HLP.out]; exact HT6.out), Lib.hid (by rw [take_left HPK.out, HLP.out]; simp [HLM.out]), Lib.hid (by rw [take_hit HPK.out, HFD.out]; exact HFD2.out)⟩
                    · have h2 : st.kind = 2 := hps.2.resolve_left h1
                      have HLP : Hid (leftP st p = none) := Lib.hid (by unfold leftP; rw [if_pos ⟨hps.1, h2⟩])
                      rw [h2] at q0
                      clear hps h1 h2
                      have HT6 := Lib.hid (HTk.out.below HBc.out)
                      go_wp2_with fail
                      go_roundg (un - (k + 1))
                      case measure => have := HL3.out; omega
                      case rel => exact ⟨k + 1, la, ln, lc, fd2, rfl, rfl, by go_num, by have := HL3.out; omega, Nat.le_refl _, Lib.hid (by rw [take_left HPK.out, HLP.out]; simpa using HT6.out), Lib.hid (by rw [take_left HPK.out, HLP.out]; simp [HLM.out]), Lib.hid (by rw [take_hit HPK.out, HFD.out]; exact HFD2.out)⟩
                  · have hh : hitP st p = false := by unfold hitP; exact decide_eq_false hps
                    rw [hh]
                    have HLP : Hid (leftP st p = some p) := Lib.hid (by unfold leftP; rw [if_neg (fun e => hps ⟨e.1, .inr e.2⟩), if_neg (fun e => hps ⟨e.1, .inl e.2⟩)])
                    clear hh hps q0 q9 q10
                    have hprb := HPRB.out
                    obtain ⟨a3, c3, W6, hrun, ht6⟩ := (HTk.out.below HBc.out).push (p) pa pc (SlL.below hprb HBc.out) hpn (by have e1 := HLN9.out; rw [HLM.out]; omega)
                    simp only [plC,  HPL.out, HLM.out] at hrun
                    rw [HLM.out] at ht6
                    have HRUN := Lib.hid hrun
                    have HT6 := Lib.hid ht6
                    clear hrun ht6
                    clear hprb
                    go_wp2_with (first | (at_builtin; refine append_stepW rfl _ _ 59 rfl _ _ _ _ rfl rfl (HRUN.out _) ?_) | fail)
                    go_roundg (un - (k + 1))
                    case measure => have := HL3.out; omega
                    case rel => exact ⟨k + 1, a3, ln + 1, c3, fd2, rfl, rfl, by go_num, by have := HL3.out; omega, Nat.le_refl _, Lib.hid (by rw [take_left HPK.out, HLP.out]; exact HT6.out), Lib.hid (by rw [take_left HPK.out, HLP.out]; simp [HLM.out]), Lib.hid (by rw [take_hit HPK.out, HFD.out]; exact HFD2.out)⟩
            · have hltz3 : ¬ (k : Int) < (un : Int) := by omega
              obtain rfl : un = k := by omega
              have hfull : (fstP A st).take un = fstP A st := List.take_of_length_le (by rw [HUN.out]; exact Nat.le_refl _)
              rw [hfull, left_all, HA'.out] at HTk HLM
              rw [hfull] at HFD
              clear hfull hk hgk hlt3
              have HT7 := Lib.hid HTk.out.next
              have hln9 : ln ≤ 800 := by have e1 := HTk.out.one.len; rw [← pls_len, HLM.out] at e1; have := HZ.out; omega
              obtain ⟨ra2, rc2, hrw2, hrn2, ⟨hbl, hbl0⟩, q0, q1, q2, q3, q4, q5, q6, q7, q8, q9, q10⟩ := step_re2 HS.out HTk.out.one.bel HST.out.1 HST.out.2.1
              clear hrw2 hrn2 hbl0 q1 q2 q3 q4 q5 q6 q7 q8 q9 q10
              go_upto_region 29 with (fail)
              go_cut [158] (fun sx wx => sx = .bool false ∧ wx = wr)
              case first =>
                as_aux_lemma =>
                  by_cases hk12 : st.kind = 1 ∨ st.kind = 2
                  · have hfd := hit_all A st hk12
                    rw [HFD.out, HDE.out] at hfd
                    by_cases he : de = 0
                    · subst he
                      obtain rfl : fd = true := by rw [hfd]; rfl
                      clear hfd
                      rcases hk12 with h1 | h1
                      · rw [h1] at q0
                        clear h1
                        go_wp2_with fail
                        go_meet
                        exact ⟨rfl, rfl⟩
                      · rw [h1] at q0
                        clear h1
                        go_wp2_with fail
                        go_meet
                        exact ⟨rfl, rfl⟩
                    · obtain rfl : fd = false := by rw [hfd]; exact decide_eq_false he
                      have hne : (de == 0) = false := by simpa using he
                      clear hfd
                      rcases hk12 with h1 | h1
                      · rw [h1] at q0
                        clear h1
                        go_wp2_with fail
                        go_meet
                        exact ⟨rfl, rfl⟩
                      · rw [h1] at q0
                        clear h1
                        go_wp2_with fail
                        go_meet
                        exact ⟨rfl, rfl⟩
                  · have n1 : (st.kind == 1) = false := by rw [beq_eq_false_iff_ne]; exact fun e => hk12 (.inl e)
                    have n2 : (st.kind == 2) = false := by rw [beq_eq_false_iff_ne]; exact fun e => hk12 (.inr e)
                    clear hk12
                    go_wp2_with fail
                    go_meet
                    exact ⟨rfl, rfl⟩
              case rest =>
                obtain ⟨rfl, rfl⟩ := hcut
                clear q0 hbl HTk
                go_wp2_with fail
                go_loopg [14] ln (fun gg s14 wv => ∃ j : Nat, s14 = .int .i64 j ∧ j ≤ ln ∧ ln - j ≤ gg ∧ Hid (Th w wv h A' (z + 3) (.slice la ln lc) (pls A') (.slice none 0 0) []))
                case atStart => exact ⟨0, rfl, Nat.zero_le _, by omega, HT7⟩
                case round =>
                  as_aux_lemma =>
                    obtain ⟨j, rfl, hj, hgj, HTj⟩ := hrel
                    clear HT7
                    by_cases hlt4 : j < ln
                    · have hltz4 : (j : Int) < (ln : Int) := by omega
                      obtain ⟨p, hp⟩ : ∃ p, (pls A')[j]? = some p := ⟨(pls A')[j]'(by rw [HLM.out]; exact hlt4), by simp [HLM.out, hlt4]⟩
                      obtain ⟨b, pa, pc, rfl, hbb, hpr, -, k0, k1, k2, k3, k4, k5, k6, k7⟩ := HTj.out.tr.at hp
                      obtain ⟨sk, hsk, hmm⟩ := pls_mem (List.mem_of_getElem? hp)
                      obtain ⟨hat1, hat2⟩ := atT_is HTj.out.one.ok hmm
                      rw [← hsk] at hat1 hat2
                      have hwf := (HTj.out.one.ok.wf _ hmm).1
                      obtain ⟨pn, hpl⟩ : ∃ pn, p.2.row.length = pn := ⟨_, rfl⟩
                      rw [hpl] at k7
                      have HPL := Lib.hid hpl
                      have HWF := Lib.hid hwf
                      have HPR := Lib.hid hpr
                      have HL4 := Lib.hid (And.intro hlt4 (And.intro hj hgj))
                      clear hp hpl hsk hmm hwf hpr hlt4 hj hgj
                      have hcon := one_at (t := p.2) (b := true) HTj.out.one p.1 (by have := HZ.out; omega) hat1 hat2
                      go_wp2_with fail
                      refine (show Calls Try.prog _ _ _ _ from hcon).mono ?_
                      rintro e w5 ⟨ss, rfl, hr, -, -, hb5⟩
                      obtain ⟨va, vc, rfl, q2⟩ := RowV.sl hr HWF.out.row
                      rw [HPL.out]
                      unfold tupV
                      clear hcon hr hat1 hat2
                      obtain ⟨g, hg⟩ : ∃ g, w5.heap.size = g := ⟨_, rfl⟩
                      obtain ⟨W1, hW1⟩ : ∃ W1, w5.alloc (.cells (tupC p.2 (.slice va pn vc)).toArray 28) = W1 := ⟨_, rfl⟩
                      have l1 := Lit.new w5 28 (tupC p.2 (.slice va pn vc))
                      have b1 := Below.allocs w5 (.cells (tupC p.2 (.slice va pn vc)).toArray 28)
                      rw [hW1] at l1 b1
                      rw [hg] at l1
                      have b15 := below_tr hb5 b1
                      have HT1 := Lib.hid (HTj.out.below b15)
                      have HL1 := Lib.hid l1
                      have HQ1 := Lib.hid (And.intro (q2.below b1) (HPR.out.below b15))
                      have HKS : Hid (b < W1.heap.size ∧ W1.cell? ⟨b, j * 8 + 1, none⟩ = some (.int .i64 p.2.no) ∧ W1.cell? ⟨b, j * 8 + 2, none⟩ = some (.int .i64 p.2.id) ∧ W1.cell? ⟨b, j * 8 + 3, none⟩ = some (.int .i64 p.2.mn) ∧ W1.cell? ⟨b, j * 8 + 4, none⟩ = some (.int .i64 p.2.cm) ∧ W1.cell? ⟨b, j * 8 + 5, none⟩ = some (.int .i64 p.2.mx) ∧ W1.cell? ⟨b, j * 8 + 6, none⟩ = some (.int .i64 p.2.cx) ∧ W1.cell? ⟨b, j * 8 + 7, none⟩ = some (.slice pa pn pc)) :=
                        Lib.hid ⟨Nat.lt_of_lt_of_le hbb b15.size, by rw [b15.cell (p := ⟨b, _, none⟩) hbb]; exact k1, by rw [b15.cell (p := ⟨b, _, none⟩) hbb]; exact k2, by rw [b15.cell (p := ⟨b, _, none⟩) hbb]; exact k3, by rw [b15.cell (p := ⟨b, _, none⟩) hbb]; exact k4, by rw [b15.cell (p := ⟨b, _, none⟩) hbb]; exact k5, by rw [b15.cell (p := ⟨b, _, none⟩) hbb]; exact k6, by rw [b15.cell (p := ⟨b, _, none⟩) hbb]; exact k7⟩
                      have HW1 := Lib.hid hW1
                      have HG1 := Lib.hid hg
                      unfold tupC at HW1
                      clear hW1 hg l1 b1 b15 hb5 q2 k0 k1 k2 k3 k4 k5 k6 k7 hbb HTj
                      go_upto_region 36 with (fail)
                      rw [show w5.alloc _ = W1 from HW1.out, HG1.out]
                      clear HW1 HG1
                      have hdr := below_drw W1
                      try simp only [List.append_eq, List.cons_append, List.nil_append]
                      refine RX.wp_region_plan (fun w w' => Below w.heap.size w w') [.it (.bool true), .it (.bool false), .it (.bool false), .it (.agg #[.int .i64 p.2.no, .int .i64 p.2.id, .int .i64 p.2.mn, .int .i64 p.2.cm, .int .i64 p.2.mx, .int .i64 p.2.cx, .slice va pn vc]), .it (.slice (some ⟨b, 0, none⟩) ln lc), .it (.int .i64 j), .it (.pointer (some ⟨b, j * 8, none⟩)), .it (.pointer (some ⟨b, j * 8 + 1, none⟩)), .it (.agg #[.int .i64 p.2.no, .int .i64 p.2.id, .int .i64 p.2.mn, .int .i64 p.2.cm, .int .i64 p.2.mx, .int .i64 p.2.cx, .slice pa pn pc]), .it (.bool true), .it (.bool false), .it (.bool false)] (by kernel_rfl) (by kernel_rfl) (fun _ => Below.refl _ _) (fun _ _ _ => below_tr) ?_
                      refine RX.seqP_value (fun _ => Below.refl _ _) _ (by first | rfl | simp) (fun w' hw' hctx => by (go_simp); (try first | with_reducible rfl | simp)) ?_
                      simp only [Act.put, List.setIfInBounds_toArray, List.set_cons_zero, List.set_cons_succ]
                      refine RX.seqP_value (fun _ => Below.refl _ _) _ (by first | rfl | simp) (fun w' hw' hctx => by (go_simp); (try first | with_reducible rfl | simp)) ?_
                      simp only [Act.put, List.setIfInBounds_toArray, List.set_cons_zero, List.set_cons_succ]
                      refine RX.seqP_value (fun _ => Below.refl _ _) _ (by first | rfl | simp) (fun w' hw' hctx => by (go_simp); (try first | with_reducible rfl | simp)) ?_
                      simp only [Act.put, List.setIfInBounds_toArray, List.set_cons_zero, List.set_cons_succ]
                      refine RX.seqP_value (fun _ => Below.refl _ _) _ (by first | rfl | simp) (fun w' hw' hctx => ?_) ?_
                      · have hl := HL1.out.below (below_tr hdr hw')
                        obtain ⟨c0, c1, c2, c3, c4, c5, c6, cl⟩ := cells7 hl
                        go_simp
                        try first | with_reducible rfl | simp
                      simp only [Act.put, List.setIfInBounds_toArray, List.set_cons_zero, List.set_cons_succ]
                      refine RX.seqP_value (fun _ => Below.refl _ _) _ (by first | rfl | simp) (fun w' hw' hctx => by (go_simp); (try first | with_reducible rfl | simp)) ?_
                      simp only [Act.put, List.setIfInBounds_toArray, List.set_cons_zero, List.set_cons_succ]
                      refine RX.seqP_value (fun _ => Below.refl _ _) _ (by first | rfl | simp) (fun w' hw' hctx => by (go_simp); (try first | with_reducible rfl | simp)) ?_
                      simp only [Act.put, List.setIfInBounds_toArray, List.set_cons_zero, List.set_cons_succ]
                      refine RX.seqP_value (fun _ => Below.refl _ _) _ (by first | rfl | simp) (fun w' hw' hctx => by (go_simp); (try first | with_reducible rfl | simp)) ?_
                      simp only [Act.put, List.setIfInBounds_toArray, List.set_cons_zero, List.set_cons_succ]
                      refine RX.seqP_value (fun _ => Below.refl _ _) _ (by first | rfl | simp) (fun w' hw' hctx => by (go_simp); (try first | with_reducible rfl | simp)) ?_
                      simp only [Act.put, List.setIfInBounds_toArray, List.set_cons_zero, List.set_cons_succ]
                      refine RX.seqP_value (fun _ => Below.refl _ _) _ (by first | rfl | simp) (fun w' hw' hctx => ?_) ?_
                      · obtain ⟨hb0, c1, c2, c3, c4, c5, c6, c7⟩ := HKS.out
                        have hbe := (below_tr hdr hw')
                        rw [← hbe.cell (p := ⟨b, _, none⟩) hb0] at c1 c2 c3 c4 c5 c6 c7
                        have hb9 := Nat.lt_of_lt_of_le hb0 hbe.size
                        go_simp
                        try first | with_reducible rfl | simp
                      simp only [Act.put, List.setIfInBounds_toArray, List.set_cons_zero, List.set_cons_succ]
                      refine RX.seqP_call (24) #[.agg #[.int .i64 p.2.no, .int .i64 p.2.id, .int .i64 p.2.mn, .int .i64 p.2.cm, .int .i64 p.2.mx, .int .i64 p.2.cx, .slice va pn vc], .agg #[.int .i64 p.2.no, .int .i64 p.2.id, .int .i64 p.2.mn, .int .i64 p.2.cm, .int .i64 p.2.mx, .int .i64 p.2.cx, .slice pa pn pc]] (.bool true) (by first | rfl | simp) (fun w' hw' hctx => ?_) (fun w' hw' hctx => hsame_sl w' p.2 va pa vc pc pn HPL.out (HQ1.out.1.below (below_tr hdr hw')) (HQ1.out.2.below (below_tr hdr hw'))) ?_
                      · go_simp
                      simp only [Act.put, List.setIfInBounds_toArray, List.set_cons_zero, List.set_cons_succ]
                      refine RX.seqP_value (fun _ => Below.refl _ _) _ (by first | rfl | simp) (fun w' hw' hctx => by (go_simp); (try first | with_reducible rfl | simp)) ?_
                      simp only [Act.put, List.setIfInBounds_toArray, List.set_cons_zero, List.set_cons_succ]
                      refine RX.seqP_value (fun _ => Below.refl _ _) _ (by first | rfl | simp) (fun w' hw' hctx => by (go_simp); (try first | with_reducible rfl | simp)) ?_
                      simp only [Act.put, List.setIfInBounds_toArray, List.set_cons_zero, List.set_cons_succ]
                      refine RX.seqP_nil (fun v2 hR hctx _ => ?_)
                      have hv2 := below_tr hdr hR
                      clear hctx hR
                      have HT2 := Lib.hid (HT1.out.below hv2)
                      clear hv2 hdr
                      go_wp2_with fail
                      go_roundg (ln - (j + 1))
                      case measure => have := HL4.out; omega
                      case rel => exact ⟨j + 1, by go_num, by have := HL4.out; omega, Nat.le_refl _, HT2⟩
                    · have hltz4 : ¬ (j : Int) < (ln : Int) := by omega
                      clear hj hgj hlt4
                      have hcon := one_len (n := (ln : Int)) HTj.out.one (by have := HZ.out; omega) (by rw [← pls_len, HLM.out])
                      go_wp2_with fail
                      refine (show Calls Try.prog _ _ _ _ from hcon).mono ?_
                      rintro e w7 ⟨rfl, -, hb7⟩
                      have HT8 := Lib.hid (HTj.out.below hb7)
                      clear hcon hb7 HTj
                      go_wp2_with fail
                      go_roundg (n0 - (i + 1))
                      case measure => have := HL.out; omega
                      case rel => exact ⟨A', z + 3, i + 1, la, ln, lc, rfl, by go_num, by have := HL.out; omega, Nat.le_refl _, Lib.hid ⟨by have := HI.out.1; omega, HLM.out⟩, HT8⟩
      · have hltz : ¬ (i : Int) < (n0 : Int) := by omega
        go_wp2_with fail
        go_ret
        exact ⟨rfl, HT.out.one.bel⟩

end Go.Proofs.Ytkedkeelbbfmkaa
