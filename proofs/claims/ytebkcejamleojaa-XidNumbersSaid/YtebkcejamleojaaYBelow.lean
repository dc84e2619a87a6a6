/-
  The law XidBelow, walked.
-/
import Derived.Test.YtebkcejamleojaaYPar
import Derived.Deep.DeepCutAuto
namespace Go.Proofs.Ytebkcejamleojaa
open Go.RowKit
set_option linter.unusedVariables false

theorem get_stp {l : List Stp} {i : Nat} (h : i < l.length) : ∃ s, l[i]? = some s := ⟨l[i], by simp [h]⟩
theorem run_take {T : Tb} {l : List Stp} {i : Nat} {s : Stp} (h : l[i]? = some s) : T.run (l.take (i + 1)) = (T.run (l.take i)).stp s.kind s.id := by
  rw [List.take_add_one, h]
  exact Tb.run_snoc _ _ _
theorem run_small {l : List Stp} {n i : Nat} (hn : l.length = n) (h : n ≤ 80) : (Tb.new.run (l.take i)).n ≤ 80 ∧ (Tb.new.run (l.take i)).last ≤ 80 := by
  have := Tb.Small.run Tb.new_small (l.take i)
  have hl : (l.take i).length ≤ 80 := by rw [List.length_take]; omega
  exact ⟨by have := this.1; omega, by have := this.2; omega⟩

set_option maxRecDepth 100000 in
set_option maxHeartbeats 8000000 in
theorem xbelow_large (a0 : Option Addr) (c0 n0 : Nat) (l0 : List Stp) (hn0 : l0.length = n0) (w : World) (hs0 : SlSt w a0 c0 l0) (hz : 80 < n0) :
    Calls Try.prog 7 #[.slice a0 n0 c0] w fun e w' => e = .returned (.bool true) ∧ Below w.heap.size w w' := by
  have hz2 : (80 : Int) < n0 := by omega
  go_enter Try.func7, Try.ntmps7
  have hcon := works_is w
  go_wp2_with fail
  refine (show Calls Try.prog _ _ _ _ from hcon).mono ?_
  rintro e w1 ⟨rfl, hb⟩
  have HB1 := Lib.hid hb
  clear hcon hb
  have hcon := works_is w1
  go_wp2_with fail
  refine (show Calls Try.prog _ _ _ _ from hcon).mono ?_
  rintro e w2 ⟨rfl, hb⟩
  have HB2 := Lib.hid (below_tr HB1.out hb)
  clear hcon hb HB1
  go_wp2_with fail
  go_ret
  exact ⟨rfl, HB2.out⟩

set_option maxRecDepth 100000 in
set_option maxHeartbeats 8000000 in
theorem xbelow_main (a0 : Option Addr) (c0 n0 : Nat) (l0 : List Stp) (hn0 : l0.length = n0) (w : World) (hs0 : SlSt w a0 c0 l0) (hz : n0 ≤ 80) :
    Calls Try.prog 7 #[.slice a0 n0 c0] w fun e w' => e = .returned (.bool true) ∧ Below w.heap.size w w' := by
  have hz2 : ¬ (80 : Int) < n0 := by omega
  have HS := Lib.hid hs0
  have HN := Lib.hid hn0
  clear hs0 hn0
  go_enter Try.func7, Try.ntmps7
  have hcon := works_is w
  go_wp2_with fail
  refine (show Calls Try.prog _ _ _ _ from hcon).mono ?_
  rintro e w1 ⟨rfl, hb⟩
  have HB1 := Lib.hid hb
  clear hcon hb
  have hcon := one_new (w0 := w) HB1.out
  go_wp2_with fail
  refine (show Calls Try.prog _ _ _ _ from hcon).mono ?_
  rintro e w2 ⟨t, F0, rfl, h2, -, -⟩
  have HT := Lib.hid (Two.start h2)
  obtain ⟨b0, hb0⟩ : ∃ b, w2.heap.size = b := ⟨_, rfl⟩
  rw [hb0] at HT
  have HB0 := Lib.hid hb0
  clear hcon h2 HB1 hb0
  go_wp2_with fail
  simp only [HB0.out]
  go_loopg [4, 5] n0 (fun gg s4 s5 wr => ∃ (i b c : Nat) (F : Nat → Prop) (m : Nat), s4 = .slice (some ⟨b, 0, none⟩) m c ∧ s5 = .int .i64 i ∧ i ≤ n0 ∧ n0 - i ≤ gg ∧ Hid ((Tb.new.run (l0.take i)).n + 1 = m) ∧ Hid (Two w wr t (Tb.new.run (l0.take i)) F (Tb.new.run (l0.take i)) b c))
  case atStart => exact ⟨0, b0, 1, F0, 1, rfl, rfl, Nat.zero_le _, by omega, Lib.hid rfl, HT⟩
  case round =>
    obtain ⟨i, b, c, F, m, rfl, rfl, hin, hgg, HM, HTW⟩ := hrel
    clear HT HB0
    obtain ⟨T, hT⟩ : ∃ T, Tb.new.run (l0.take i) = T := ⟨_, rfl⟩
    have hsm := run_small (i := i) HN.out hz
    have hok := Tb.new_ok.run (l0.take i)
    rw [hT] at HM HTW hsm hok
    by_cases hlt : i < n0
    · have hltz : (i : Int) < (n0 : Int) := by omega
      obtain ⟨st, hst⟩ := get_stp (l := l0) (i := i) (by rw [HN.out]; exact hlt)
      obtain ⟨sb, so, rfl, d0, d1, d2⟩ := at_st (HS.out.below HTW.out.one.bel) hst
      have hwf := HS.out.wf st (List.mem_of_getElem? hst)
      have hlc : n0 ≤ c0 := by have := HS.out.lc; rw [HN.out] at this; exact this
      have hrun := run_take (T := Tb.new) hst
      rw [hT] at hrun
      obtain ⟨va, hva⟩ : ∃ va, T.stpI st.kind st.id = va := ⟨_, rfl⟩
      obtain ⟨ve, hve⟩ : ∃ ve, T.stpE st.kind st.id = ve := ⟨_, rfl⟩
      have hdo := fun (W : World) (hb : Below wr.heap.size wr W) => one_do (HTW.out.below hb).one (by omega) (by omega) st.kind st.id va ve hwf.1 hwf.2 hva hve rfl
      have hpar := stp_par T st.kind st.id
      rw [hve] at hpar
      have HPAR := Lib.hid hpar
      have HRUN := Lib.hid hrun
      have HGS := Lib.hid hst
      have HST := Lib.hid (And.intro d0 (And.intro d1 d2))
      have HOK := Lib.hid (hok.stp st.kind st.id)
      have HSM := Lib.hid (show (T.stp st.kind st.id).n ≤ 81 by have := (show T.Small 80 from hsm).stp st.kind st.id; exact this.1)
      have HT0 := Lib.hid hT
      have HSM0 := Lib.hid hsm.1
      have hcon := hdo wr (Below.refl _ _)
      clear hwf hrun hva hve hdo hpar hst hok hsm hT
      go_wp2_with fail
      refine (show Calls Try.prog _ _ _ _ from hcon).mono ?_
      intro e w3 hnx
      obtain ⟨F', rfl, htw3⟩ := HTW.out.step hnx
      have HTW3 := Lib.hid htw3
      have hst3 : sb < w3.heap.size ∧ w3.cell? ⟨sb, so + i * 2, none⟩ = some (.int .u8 st.kind) ∧ w3.cell? ⟨sb, so + i * 2 + 1, none⟩ = some (.int .i64 st.id) := by
        obtain ⟨b', o', e', d0, d1, d2⟩ := at_st (HS.out.below htw3.one.bel) (l := l0) (i := i) (s := st) HGS.out
        cases e'
        exact ⟨d0, d1, d2⟩
      obtain ⟨e0, e1, e2⟩ := hst3
      clear d0 d1 d2 hnx htw3 hcon HST HTW
      obtain ⟨U, hU⟩ : ∃ U, T.stp st.kind st.id = U := ⟨_, rfl⟩
      rw [hU] at HPAR HRUN HOK HSM HTW3
      have HUU := Lib.hid hU
      clear hU
      by_cases hk0 : st.kind = 0
      · by_cases hv0 : ve = 0
        · obtain ⟨_, _, hn1, hid9, hp1, hp2⟩ := HPAR.out.resolve_right (fun h => h.1 ⟨hk0, hv0⟩)
          obtain ⟨b9, c9, w4, hrun4, htw4, _⟩ := HTW3.out.push (by have := HSM0.out; omega) hn1 hp1 (id := st.id) (by rw [hp2]; exact hid9)
          obtain ⟨m9, hm9⟩ : ∃ m9, U.n + 1 = m9 := ⟨_, rfl⟩
          rw [HM.out, hm9] at hrun4
          have HRUN4 := Lib.hid (hrun4 33)
          have HU := Lib.hid htw4
          have HM9 := Lib.hid hm9
          clear hn1 hid9 hp1 hp2 hrun4 htw4 hm9 HPAR HTW3 HM
          go_wp2_with (at_builtin; refine append_stepW rfl _ _ 33 rfl _ _ _ _ rfl rfl HRUN4.out ?_)
          clear HRUN4 e0 e1 e2
          go_wp2_with fail
          go_loopg [8] m9 (fun gg s8 wr => ∃ (id : Nat), s8 = .int .i64 id ∧ 1 ≤ id ∧ id ≤ m9 ∧ m9 - id ≤ gg ∧ Hid (Two w wr t U F' U b9 c9))
          case atStart => exact ⟨1, rfl, Nat.le_refl _, by have := HM9.out; omega, by omega, HU⟩
          case round =>
            obtain ⟨id, rfl, hid0, hidm, hgg2, HT0⟩ := hrel
            clear HU
            by_cases hlt2 : id < m9
            · have hltz2 : (id : Int) < (m9 : Int) := by omega
              have hrow := HT0.out.row
              have hmU := HM9.out
              rw [hmU] at hrow
              obtain ⟨pp, hpp⟩ : ∃ pp, U.par id = pp := ⟨_, rfl⟩
              obtain ⟨b', c', e, hnc, hcm, hbl, hat, _⟩ := hrow.at (j := id) (by omega)
              simp only [Value.slice.injEq, Option.some.injEq, Addr.mk.injEq, and_true, true_and] at e
              obtain ⟨rfl, rfl⟩ := e
              have cp := hat id (by omega) 0 (.int .i64 pp) (by unfold parR; rw [if_neg (by omega), hpp]; rfl)
              rw [Nat.mul_one, Nat.add_zero] at cp
              have hsm81 := HSM.out
              have hid1 : id ≤ 1000 := by omega
              have hidn : 1 ≤ (id : Int) ∧ (id : Int) ≤ U.n := by omega
              have hin1 : id ≤ U.n := by omega
              have hi6 : ∀ k : Nat, k ≤ 1000 → I64 (k : Int) := fun k hk => by unfold I64; omega
              have hpl := HOK.out.par_lt id hid0 hin1
              rw [hpp] at hpl
              have hid00 : (0 : Int) ≤ id := by omega
              by_cases hp0 : pp = 0
              · subst hp0
                have htop := HOK.out.top0 id hid0 hin1 hpp
                have HTP : Hid (U.g U.top (id : Int) = (id : Int)) := Lib.hid (by rw [Tb.g_in hidn, Int.toNat_natCast, htop])
                clear hat hrow hcm htop hpl hmU
                have hcon := one_top HT0.out.one (id : Int) (id : Int) (hi6 id hid1) HTP.out
                go_wp2_with fail
                refine (show Calls Try.prog _ _ _ _ from hcon).mono ?_
                rintro e v1 ⟨rfl, hb⟩
                have HT1 := Lib.hid (HT0.out.below hb)
                clear hcon hb HT0 cp hbl hnc
                go_wp2_with fail
                go_roundg (m9 - (id + 1))
                case measure => omega
                case rel => exact ⟨id + 1, by go_num, by omega, by omega, by omega, HT1⟩
              · have hpz : ¬ (pp : Int) = 0 := by omega
                have hplz : ¬ (id : Int) ≤ (pp : Int) := by omega
                have hpp1 : pp ≤ 1000 := by omega
                have hppn : 1 ≤ (pp : Int) ∧ (pp : Int) ≤ U.n := by omega
                have h8 := HOK.out.st1 id hid0 hin1
                have h9 := HOK.out.st1 pp (by omega) (by omega)
                have h10 := HOK.out.mono id hid0 hin1 (by rw [hpp]; exact hp0)
                have h11 := HOK.out.top1 id hid0 hin1 (by rw [hpp]; exact hp0)
                rw [hpp] at h10 h11
                obtain ⟨x, hx⟩ : ∃ x, U.st (id : Int).toNat = x := ⟨_, rfl⟩
                obtain ⟨y, hy⟩ : ∃ y, U.st (pp : Int).toNat = y := ⟨_, rfl⟩
                obtain ⟨tp, htq⟩ : ∃ tp : Int, (U.top (pp : Int).toNat : Int) = tp := ⟨_, rfl⟩
                have htp : (U.top (id : Int).toNat : Int) = tp := by rw [← htq, Int.toNat_natCast, Int.toNat_natCast, h11]
                have hxy : (x = 1 ∧ y = 1) ∨ (x = 2 ∧ y = 1) ∨ (x = 2 ∧ y = 2) ∨ (x = 3 ∧ y = 1) ∨ (x = 3 ∧ y = 2) ∨ (x = 3 ∧ y = 3) := by
                  rw [Int.toNat_natCast] at hx hy
                  omega
                clear hat hrow hcm hpl hmU h8 h9 h10 h11 hpp hp0
                rcases hxy with ⟨rfl, rfl⟩ | ⟨rfl, rfl⟩ | ⟨rfl, rfl⟩ | ⟨rfl, rfl⟩ | ⟨rfl, rfl⟩ | ⟨rfl, rfl⟩
                · have hcon := one_top HT0.out.one (id : Int) tp (hi6 id hid1) (by rw [Tb.g_in hidn]; exact htp)
                  go_wp2_with fail
                  refine (show Calls Try.prog _ _ _ _ from hcon).mono ?_
                  rintro e v1 ⟨rfl, hb⟩
                  have HT1 := Lib.hid (HT0.out.below hb)
                  clear hcon hb HT0
                  have hcon := one_top HT1.out.one (pp : Int) tp (hi6 pp hpp1) (by rw [Tb.g_in hppn]; exact htq)
                  go_wp2_with fail
                  refine (show Calls Try.prog _ _ _ _ from hcon).mono ?_
                  rintro e v2 ⟨rfl, hb⟩
                  have HT2 := Lib.hid (HT1.out.below hb)
                  clear hcon hb HT1
                  have hcon := one_counts HT2.out.one (id : Int) true (hi6 id hid1) (by unfold Tb.cnt; rw [Tb.g_in hidn, hx]; rfl)
                  go_wp2_with fail
                  refine (show Calls Try.prog _ _ _ _ from hcon).mono ?_
                  rintro e v3 ⟨rfl, hb⟩
                  have HT3 := Lib.hid (HT2.out.below hb)
                  clear hcon hb HT2
                  have hcon := one_counts HT3.out.one (pp : Int) true (hi6 pp hpp1) (by unfold Tb.cnt; rw [Tb.g_in hppn, hy]; rfl)
                  go_wp2_with fail
                  refine (show Calls Try.prog _ _ _ _ from hcon).mono ?_
                  rintro e v4 ⟨rfl, hb⟩
                  have HT4 := Lib.hid (HT3.out.below hb)
                  clear hcon hb HT3
                  have hcon := one_state HT4.out.one (id : Int) 1 (hi6 id hid1) (by rw [Tb.g_in hidn, hx]; rfl)
                  go_wp2_with fail
                  refine (show Calls Try.prog _ _ _ _ from hcon).mono ?_
                  rintro e v5 ⟨rfl, hb⟩
                  have HT5 := Lib.hid (HT4.out.below hb)
                  clear hcon hb HT4
                  have hcon := one_state HT5.out.one (pp : Int) 1 (hi6 pp hpp1) (by rw [Tb.g_in hppn, hy]; rfl)
                  go_wp2_with fail
                  refine (show Calls Try.prog _ _ _ _ from hcon).mono ?_
                  rintro e v6 ⟨rfl, hb⟩
                  have HT6 := Lib.hid (HT5.out.below hb)
                  clear hcon hb HT5
                  have hcon := one_counts HT6.out.one (id : Int) true (hi6 id hid1) (by unfold Tb.cnt; rw [Tb.g_in hidn, hx]; rfl)
                  go_wp2_with fail
                  refine (show Calls Try.prog _ _ _ _ from hcon).mono ?_
                  rintro e v7 ⟨rfl, hb⟩
                  have HT7 := Lib.hid (HT6.out.below hb)
                  clear hcon hb HT6
                  have hcon := one_counts HT7.out.one (pp : Int) true (hi6 pp hpp1) (by unfold Tb.cnt; rw [Tb.g_in hppn, hy]; rfl)
                  go_wp2_with fail
                  refine (show Calls Try.prog _ _ _ _ from hcon).mono ?_
                  rintro e v8 ⟨rfl, hb⟩
                  have HT8 := Lib.hid (HT7.out.below hb)
                  clear hcon hb HT7
                  have hcon := one_state HT8.out.one (id : Int) 1 (hi6 id hid1) (by rw [Tb.g_in hidn, hx]; rfl)
                  go_wp2_with fail
                  refine (show Calls Try.prog _ _ _ _ from hcon).mono ?_
                  rintro e v9 ⟨rfl, hb⟩
                  have HT9 := Lib.hid (HT8.out.below hb)
                  clear hcon hb HT8
                  go_wp2_with fail
                  go_roundg (m9 - (id + 1))
                  case measure => omega
                  case rel => exact ⟨id + 1, by go_num, by omega, by omega, by omega, HT9⟩
                · have hcon := one_top HT0.out.one (id : Int) tp (hi6 id hid1) (by rw [Tb.g_in hidn]; exact htp)
                  go_wp2_with fail
                  refine (show Calls Try.prog _ _ _ _ from hcon).mono ?_
                  rintro e v1 ⟨rfl, hb⟩
                  have HT1 := Lib.hid (HT0.out.below hb)
                  clear hcon hb HT0
                  have hcon := one_top HT1.out.one (pp : Int) tp (hi6 pp hpp1) (by rw [Tb.g_in hppn]; exact htq)
                  go_wp2_with fail
                  refine (show Calls Try.prog _ _ _ _ from hcon).mono ?_
                  rintro e v2 ⟨rfl, hb⟩
                  have HT2 := Lib.hid (HT1.out.below hb)
                  clear hcon hb HT1
                  have hcon := one_counts HT2.out.one (id : Int) true (hi6 id hid1) (by unfold Tb.cnt; rw [Tb.g_in hidn, hx]; rfl)
                  go_wp2_with fail
                  refine (show Calls Try.prog _ _ _ _ from hcon).mono ?_
                  rintro e v3 ⟨rfl, hb⟩
                  have HT3 := Lib.hid (HT2.out.below hb)
                  clear hcon hb HT2
                  have hcon := one_counts HT3.out.one (pp : Int) true (hi6 pp hpp1) (by unfold Tb.cnt; rw [Tb.g_in hppn, hy]; rfl)
                  go_wp2_with fail
                  refine (show Calls Try.prog _ _ _ _ from hcon).mono ?_
                  rintro e v4 ⟨rfl, hb⟩
                  have HT4 := Lib.hid (HT3.out.below hb)
                  clear hcon hb HT3
                  have hcon := one_state HT4.out.one (id : Int) 2 (hi6 id hid1) (by rw [Tb.g_in hidn, hx]; rfl)
                  go_wp2_with fail
                  refine (show Calls Try.prog _ _ _ _ from hcon).mono ?_
                  rintro e v5 ⟨rfl, hb⟩
                  have HT5 := Lib.hid (HT4.out.below hb)
                  clear hcon hb HT4
                  have hcon := one_counts HT5.out.one (id : Int) true (hi6 id hid1) (by unfold Tb.cnt; rw [Tb.g_in hidn, hx]; rfl)
                  go_wp2_with fail
                  refine (show Calls Try.prog _ _ _ _ from hcon).mono ?_
                  rintro e v6 ⟨rfl, hb⟩
                  have HT6 := Lib.hid (HT5.out.below hb)
                  clear hcon hb HT5
                  have hcon := one_counts HT6.out.one (pp : Int) true (hi6 pp hpp1) (by unfold Tb.cnt; rw [Tb.g_in hppn, hy]; rfl)
                  go_wp2_with fail
                  refine (show Calls Try.prog _ _ _ _ from hcon).mono ?_
                  rintro e v7 ⟨rfl, hb⟩
                  have HT7 := Lib.hid (HT6.out.below hb)
                  clear hcon hb HT6
                  have hcon := one_state HT7.out.one (id : Int) 2 (hi6 id hid1) (by rw [Tb.g_in hidn, hx]; rfl)
                  go_wp2_with fail
                  refine (show Calls Try.prog _ _ _ _ from hcon).mono ?_
                  rintro e v8 ⟨rfl, hb⟩
                  have HT8 := Lib.hid (HT7.out.below hb)
                  clear hcon hb HT7
                  go_wp2_with fail
                  go_roundg (m9 - (id + 1))
                  case measure => omega
                  case rel => exact ⟨id + 1, by go_num, by omega, by omega, by omega, HT8⟩
                · have hcon := one_top HT0.out.one (id : Int) tp (hi6 id hid1) (by rw [Tb.g_in hidn]; exact htp)
                  go_wp2_with fail
                  refine (show Calls Try.prog _ _ _ _ from hcon).mono ?_
                  rintro e v1 ⟨rfl, hb⟩
                  have HT1 := Lib.hid (HT0.out.below hb)
                  clear hcon hb HT0
                  have hcon := one_top HT1.out.one (pp : Int) tp (hi6 pp hpp1) (by rw [Tb.g_in hppn]; exact htq)
                  go_wp2_with fail
                  refine (show Calls Try.prog _ _ _ _ from hcon).mono ?_
                  rintro e v2 ⟨rfl, hb⟩
                  have HT2 := Lib.hid (HT1.out.below hb)
                  clear hcon hb HT1
                  have hcon := one_counts HT2.out.one (id : Int) true (hi6 id hid1) (by unfold Tb.cnt; rw [Tb.g_in hidn, hx]; rfl)
                  go_wp2_with fail
                  refine (show Calls Try.prog _ _ _ _ from hcon).mono ?_
                  rintro e v3 ⟨rfl, hb⟩
                  have HT3 := Lib.hid (HT2.out.below hb)
                  clear hcon hb HT2
                  have hcon := one_counts HT3.out.one (pp : Int) true (hi6 pp hpp1) (by unfold Tb.cnt; rw [Tb.g_in hppn, hy]; rfl)
                  go_wp2_with fail
                  refine (show Calls Try.prog _ _ _ _ from hcon).mono ?_
                  rintro e v4 ⟨rfl, hb⟩
                  have HT4 := Lib.hid (HT3.out.below hb)
                  clear hcon hb HT3
                  have hcon := one_state HT4.out.one (id : Int) 2 (hi6 id hid1) (by rw [Tb.g_in hidn, hx]; rfl)
                  go_wp2_with fail
                  refine (show Calls Try.prog _ _ _ _ from hcon).mono ?_
                  rintro e v5 ⟨rfl, hb⟩
                  have HT5 := Lib.hid (HT4.out.below hb)
                  clear hcon hb HT4
                  have hcon := one_counts HT5.out.one (id : Int) true (hi6 id hid1) (by unfold Tb.cnt; rw [Tb.g_in hidn, hx]; rfl)
                  go_wp2_with fail
                  refine (show Calls Try.prog _ _ _ _ from hcon).mono ?_
                  rintro e v6 ⟨rfl, hb⟩
                  have HT6 := Lib.hid (HT5.out.below hb)
                  clear hcon hb HT5
                  have hcon := one_counts HT6.out.one (pp : Int) true (hi6 pp hpp1) (by unfold Tb.cnt; rw [Tb.g_in hppn, hy]; rfl)
                  go_wp2_with fail
                  refine (show Calls Try.prog _ _ _ _ from hcon).mono ?_
                  rintro e v7 ⟨rfl, hb⟩
                  have HT7 := Lib.hid (HT6.out.below hb)
                  clear hcon hb HT6
                  have hcon := one_state HT7.out.one (id : Int) 2 (hi6 id hid1) (by rw [Tb.g_in hidn, hx]; rfl)
                  go_wp2_with fail
                  refine (show Calls Try.prog _ _ _ _ from hcon).mono ?_
                  rintro e v8 ⟨rfl, hb⟩
                  have HT8 := Lib.hid (HT7.out.below hb)
                  clear hcon hb HT7
                  go_wp2_with fail
                  go_roundg (m9 - (id + 1))
                  case measure => omega
                  case rel => exact ⟨id + 1, by go_num, by omega, by omega, by omega, HT8⟩
                · have hcon := one_top HT0.out.one (id : Int) tp (hi6 id hid1) (by rw [Tb.g_in hidn]; exact htp)
                  go_wp2_with fail
                  refine (show Calls Try.prog _ _ _ _ from hcon).mono ?_
                  rintro e v1 ⟨rfl, hb⟩
                  have HT1 := Lib.hid (HT0.out.below hb)
                  clear hcon hb HT0
                  have hcon := one_top HT1.out.one (pp : Int) tp (hi6 pp hpp1) (by rw [Tb.g_in hppn]; exact htq)
                  go_wp2_with fail
                  refine (show Calls Try.prog _ _ _ _ from hcon).mono ?_
                  rintro e v2 ⟨rfl, hb⟩
                  have HT2 := Lib.hid (HT1.out.below hb)
                  clear hcon hb HT1
                  have hcon := one_counts HT2.out.one (id : Int) false (hi6 id hid1) (by unfold Tb.cnt; rw [Tb.g_in hidn, hx]; rfl)
                  go_wp2_with fail
                  refine (show Calls Try.prog _ _ _ _ from hcon).mono ?_
                  rintro e v3 ⟨rfl, hb⟩
                  have HT3 := Lib.hid (HT2.out.below hb)
                  clear hcon hb HT2
                  have hcon := one_state HT3.out.one (id : Int) 3 (hi6 id hid1) (by rw [Tb.g_in hidn, hx]; rfl)
                  go_wp2_with fail
                  refine (show Calls Try.prog _ _ _ _ from hcon).mono ?_
                  rintro e v4 ⟨rfl, hb⟩
                  have HT4 := Lib.hid (HT3.out.below hb)
                  clear hcon hb HT3
                  have hcon := one_counts HT4.out.one (id : Int) false (hi6 id hid1) (by unfold Tb.cnt; rw [Tb.g_in hidn, hx]; rfl)
                  go_wp2_with fail
                  refine (show Calls Try.prog _ _ _ _ from hcon).mono ?_
                  rintro e v5 ⟨rfl, hb⟩
                  have HT5 := Lib.hid (HT4.out.below hb)
                  clear hcon hb HT4
                  have hcon := one_counts HT5.out.one (pp : Int) true (hi6 pp hpp1) (by unfold Tb.cnt; rw [Tb.g_in hppn, hy]; rfl)
                  go_wp2_with fail
                  refine (show Calls Try.prog _ _ _ _ from hcon).mono ?_
                  rintro e v6 ⟨rfl, hb⟩
                  have HT6 := Lib.hid (HT5.out.below hb)
                  clear hcon hb HT5
                  have hcon := one_state HT6.out.one (id : Int) 3 (hi6 id hid1) (by rw [Tb.g_in hidn, hx]; rfl)
                  go_wp2_with fail
                  refine (show Calls Try.prog _ _ _ _ from hcon).mono ?_
                  rintro e v7 ⟨rfl, hb⟩
                  have HT7 := Lib.hid (HT6.out.below hb)
                  clear hcon hb HT6
                  go_wp2_with fail
                  go_roundg (m9 - (id + 1))
                  case measure => omega
                  case rel => exact ⟨id + 1, by go_num, by omega, by omega, by omega, HT7⟩
                · have hcon := one_top HT0.out.one (id : Int) tp (hi6 id hid1) (by rw [Tb.g_in hidn]; exact htp)
                  go_wp2_with fail
                  refine (show Calls Try.prog _ _ _ _ from hcon).mono ?_
                  rintro e v1 ⟨rfl, hb⟩
                  have HT1 := Lib.hid (HT0.out.below hb)
                  clear hcon hb HT0
                  have hcon := one_top HT1.out.one (pp : Int) tp (hi6 pp hpp1) (by rw [Tb.g_in hppn]; exact htq)
                  go_wp2_with fail
                  refine (show Calls Try.prog _ _ _ _ from hcon).mono ?_
                  rintro e v2 ⟨rfl, hb⟩
                  have HT2 := Lib.hid (HT1.out.below hb)
                  clear hcon hb HT1
                  have hcon := one_counts HT2.out.one (id : Int) false (hi6 id hid1) (by unfold Tb.cnt; rw [Tb.g_in hidn, hx]; rfl)
                  go_wp2_with fail
                  refine (show Calls Try.prog _ _ _ _ from hcon).mono ?_
                  rintro e v3 ⟨rfl, hb⟩
                  have HT3 := Lib.hid (HT2.out.below hb)
                  clear hcon hb HT2
                  have hcon := one_state HT3.out.one (id : Int) 3 (hi6 id hid1) (by rw [Tb.g_in hidn, hx]; rfl)
                  go_wp2_with fail
                  refine (show Calls Try.prog _ _ _ _ from hcon).mono ?_
                  rintro e v4 ⟨rfl, hb⟩
                  have HT4 := Lib.hid (HT3.out.below hb)
                  clear hcon hb HT3
                  have hcon := one_counts HT4.out.one (id : Int) false (hi6 id hid1) (by unfold Tb.cnt; rw [Tb.g_in hidn, hx]; rfl)
                  go_wp2_with fail
                  refine (show Calls Try.prog _ _ _ _ from hcon).mono ?_
                  rintro e v5 ⟨rfl, hb⟩
                  have HT5 := Lib.hid (HT4.out.below hb)
                  clear hcon hb HT4
                  have hcon := one_counts HT5.out.one (pp : Int) true (hi6 pp hpp1) (by unfold Tb.cnt; rw [Tb.g_in hppn, hy]; rfl)
                  go_wp2_with fail
                  refine (show Calls Try.prog _ _ _ _ from hcon).mono ?_
                  rintro e v6 ⟨rfl, hb⟩
                  have HT6 := Lib.hid (HT5.out.below hb)
                  clear hcon hb HT5
                  have hcon := one_state HT6.out.one (id : Int) 3 (hi6 id hid1) (by rw [Tb.g_in hidn, hx]; rfl)
                  go_wp2_with fail
                  refine (show Calls Try.prog _ _ _ _ from hcon).mono ?_
                  rintro e v7 ⟨rfl, hb⟩
                  have HT7 := Lib.hid (HT6.out.below hb)
                  clear hcon hb HT6
                  go_wp2_with fail
                  go_roundg (m9 - (id + 1))
                  case measure => omega
                  case rel => exact ⟨id + 1, by go_num, by omega, by omega, by omega, HT7⟩
                · have hcon := one_top HT0.out.one (id : Int) tp (hi6 id hid1) (by rw [Tb.g_in hidn]; exact htp)
                  go_wp2_with fail
                  refine (show Calls Try.prog _ _ _ _ from hcon).mono ?_
                  rintro e v1 ⟨rfl, hb⟩
                  have HT1 := Lib.hid (HT0.out.below hb)
                  clear hcon hb HT0
                  have hcon := one_top HT1.out.one (pp : Int) tp (hi6 pp hpp1) (by rw [Tb.g_in hppn]; exact htq)
                  go_wp2_with fail
                  refine (show Calls Try.prog _ _ _ _ from hcon).mono ?_
                  rintro e v2 ⟨rfl, hb⟩
                  have HT2 := Lib.hid (HT1.out.below hb)
                  clear hcon hb HT1
                  have hcon := one_counts HT2.out.one (id : Int) false (hi6 id hid1) (by unfold Tb.cnt; rw [Tb.g_in hidn, hx]; rfl)
                  go_wp2_with fail
                  refine (show Calls Try.prog _ _ _ _ from hcon).mono ?_
                  rintro e v3 ⟨rfl, hb⟩
                  have HT3 := Lib.hid (HT2.out.below hb)
                  clear hcon hb HT2
                  have hcon := one_state HT3.out.one (id : Int) 3 (hi6 id hid1) (by rw [Tb.g_in hidn, hx]; rfl)
                  go_wp2_with fail
                  refine (show Calls Try.prog _ _ _ _ from hcon).mono ?_
                  rintro e v4 ⟨rfl, hb⟩
                  have HT4 := Lib.hid (HT3.out.below hb)
                  clear hcon hb HT3
                  have hcon := one_counts HT4.out.one (id : Int) false (hi6 id hid1) (by unfold Tb.cnt; rw [Tb.g_in hidn, hx]; rfl)
                  go_wp2_with fail
                  refine (show Calls Try.prog _ _ _ _ from hcon).mono ?_
                  rintro e v5 ⟨rfl, hb⟩
                  have HT5 := Lib.hid (HT4.out.below hb)
                  clear hcon hb HT4
                  have hcon := one_counts HT5.out.one (pp : Int) false (hi6 pp hpp1) (by unfold Tb.cnt; rw [Tb.g_in hppn, hy]; rfl)
                  go_wp2_with fail
                  refine (show Calls Try.prog _ _ _ _ from hcon).mono ?_
                  rintro e v6 ⟨rfl, hb⟩
                  have HT6 := Lib.hid (HT5.out.below hb)
                  clear hcon hb HT5
                  go_wp2_with fail
                  go_roundg (m9 - (id + 1))
                  case measure => omega
                  case rel => exact ⟨id + 1, by go_num, by omega, by omega, by omega, HT6⟩
            · obtain rfl : id = m9 := by omega
              have hltz2 : ¬ (id : Int) < (id : Int) := by omega
              go_wp2_with fail
              go_roundg (n0 - (i + 1))
              case measure => omega
              case rel =>
                have hr := HRUN.out
                exact ⟨i + 1, b9, c9, F', id, rfl, by go_num, by omega, by omega, Lib.hid (by rw [hr]; exact HM9.out), Lib.hid (by rw [hr]; exact HT0.out)⟩
        · have hno : ¬ (st.kind = 0 ∧ ve = 0) := fun h => hv0 h.2
          have hv1 : (ve == 0) = false := by simpa using hv0
          clear hv0
          obtain ⟨hnn, hnp⟩ : U.n = T.n ∧ U.par = T.par := by
            rcases HPAR.out with h | h
            · exact absurd ⟨h.1, h.2.1⟩ hno
            · exact h.2
          have HU := Lib.hid (HTW3.out.same hnn hnp)
          have HM9 : Hid (U.n + 1 = m) := Lib.hid (by rw [hnn]; exact HM.out)
          clear hnn hnp hno HPAR HTW3 HM
          go_wp2_with fail
          go_loopg [8] m (fun gg s8 wr => ∃ (id : Nat), s8 = .int .i64 id ∧ 1 ≤ id ∧ id ≤ m ∧ m - id ≤ gg ∧ Hid (Two w wr t U F' U b c))
          case atStart => exact ⟨1, rfl, Nat.le_refl _, by have := HM9.out; omega, by omega, HU⟩
          case round =>
            obtain ⟨id, rfl, hid0, hidm, hgg2, HT0⟩ := hrel
            clear HU
            by_cases hlt2 : id < m
            · have hltz2 : (id : Int) < (m : Int) := by omega
              have hrow := HT0.out.row
              have hmU := HM9.out
              rw [hmU] at hrow
              obtain ⟨pp, hpp⟩ : ∃ pp, U.par id = pp := ⟨_, rfl⟩
              obtain ⟨b', c', e, hnc, hcm, hbl, hat, _⟩ := hrow.at (j := id) (by omega)
              simp only [Value.slice.injEq, Option.some.injEq, Addr.mk.injEq, and_true, true_and] at e
              obtain ⟨rfl, rfl⟩ := e
              have cp := hat id (by omega) 0 (.int .i64 pp) (by unfold parR; rw [if_neg (by omega), hpp]; rfl)
              rw [Nat.mul_one, Nat.add_zero] at cp
              have hsm81 := HSM.out
              have hid1 : id ≤ 1000 := by omega
              have hidn : 1 ≤ (id : Int) ∧ (id : Int) ≤ U.n := by omega
              have hin1 : id ≤ U.n := by omega
              have hi6 : ∀ k : Nat, k ≤ 1000 → I64 (k : Int) := fun k hk => by unfold I64; omega
              have hpl := HOK.out.par_lt id hid0 hin1
              rw [hpp] at hpl
              have hid00 : (0 : Int) ≤ id := by omega
              by_cases hp0 : pp = 0
              · subst hp0
                have htop := HOK.out.top0 id hid0 hin1 hpp
                have HTP : Hid (U.g U.top (id : Int) = (id : Int)) := Lib.hid (by rw [Tb.g_in hidn, Int.toNat_natCast, htop])
                clear hat hrow hcm htop hpl hmU
                have hcon := one_top HT0.out.one (id : Int) (id : Int) (hi6 id hid1) HTP.out
                go_wp2_with fail
                refine (show Calls Try.prog _ _ _ _ from hcon).mono ?_
                rintro e v1 ⟨rfl, hb⟩
                have HT1 := Lib.hid (HT0.out.below hb)
                clear hcon hb HT0 cp hbl hnc
                go_wp2_with fail
                go_roundg (m - (id + 1))
                case measure => omega
                case rel => exact ⟨id + 1, by go_num, by omega, by omega, by omega, HT1⟩
              · have hpz : ¬ (pp : Int) = 0 := by omega
                have hplz : ¬ (id : Int) ≤ (pp : Int) := by omega
                have hpp1 : pp ≤ 1000 := by omega
                have hppn : 1 ≤ (pp : Int) ∧ (pp : Int) ≤ U.n := by omega
                have h8 := HOK.out.st1 id hid0 hin1
                have h9 := HOK.out.st1 pp (by omega) (by omega)
                have h10 := HOK.out.mono id hid0 hin1 (by rw [hpp]; exact hp0)
                have h11 := HOK.out.top1 id hid0 hin1 (by rw [hpp]; exact hp0)
                rw [hpp] at h10 h11
                obtain ⟨x, hx⟩ : ∃ x, U.st (id : Int).toNat = x := ⟨_, rfl⟩
                obtain ⟨y, hy⟩ : ∃ y, U.st (pp : Int).toNat = y := ⟨_, rfl⟩
                obtain ⟨tp, htq⟩ : ∃ tp : Int, (U.top (pp : Int).toNat : Int) = tp := ⟨_, rfl⟩
                have htp : (U.top (id : Int).toNat : Int) = tp := by rw [← htq, Int.toNat_natCast, Int.toNat_natCast, h11]
                have hxy : (x = 1 ∧ y = 1) ∨ (x = 2 ∧ y = 1) ∨ (x = 2 ∧ y = 2) ∨ (x = 3 ∧ y = 1) ∨ (x = 3 ∧ y = 2) ∨ (x = 3 ∧ y = 3) := by
                  rw [Int.toNat_natCast] at hx hy
                  omega
                clear hat hrow hcm hpl hmU h8 h9 h10 h11 hpp hp0
                rcases hxy with ⟨rfl, rfl⟩ | ⟨rfl, rfl⟩ | ⟨rfl, rfl⟩ | ⟨rfl, rfl⟩ | ⟨rfl, rfl⟩ | ⟨rfl, rfl⟩
                · have hcon := one_top HT0.out.one (id : Int) tp (hi6 id hid1) (by rw [Tb.g_in hidn]; exact htp)
                  go_wp2_with fail
                  refine (show Calls Try.prog _ _ _ _ from hcon).mono ?_
                  rintro e v1 ⟨rfl, hb⟩
                  have HT1 := Lib.hid (HT0.out.below hb)
                  clear hcon hb HT0
                  have hcon := one_top HT1.out.one (pp : Int) tp (hi6 pp hpp1) (by rw [Tb.g_in hppn]; exact htq)
                  go_wp2_with fail
                  refine (show Calls Try.prog _ _ _ _ from hcon).mono ?_
                  rintro e v2 ⟨rfl, hb⟩
                  have HT2 := Lib.hid (HT1.out.below hb)
                  clear hcon hb HT1
                  have hcon := one_counts HT2.out.one (id : Int) true (hi6 id hid1) (by unfold Tb.cnt; rw [Tb.g_in hidn, hx]; rfl)
                  go_wp2_with fail
                  refine (show Calls Try.prog _ _ _ _ from hcon).mono ?_
                  rintro e v3 ⟨rfl, hb⟩
                  have HT3 := Lib.hid (HT2.out.below hb)
                  clear hcon hb HT2
                  have hcon := one_counts HT3.out.one (pp : Int) true (hi6 pp hpp1) (by unfold Tb.cnt; rw [Tb.g_in hppn, hy]; rfl)
                  go_wp2_with fail
                  refine (show Calls Try.prog _ _ _ _ from hcon).mono ?_
                  rintro e v4 ⟨rfl, hb⟩
                  have HT4 := Lib.hid (HT3.out.below hb)
                  clear hcon hb HT3
                  have hcon := one_state HT4.out.one (id : Int) 1 (hi6 id hid1) (by rw [Tb.g_in hidn, hx]; rfl)
                  go_wp2_with fail
                  refine (show Calls Try.prog _ _ _ _ from hcon).mono ?_
                  rintro e v5 ⟨rfl, hb⟩
                  have HT5 := Lib.hid (HT4.out.below hb)
                  clear hcon hb HT4
                  have hcon := one_state HT5.out.one (pp : Int) 1 (hi6 pp hpp1) (by rw [Tb.g_in hppn, hy]; rfl)
                  go_wp2_with fail
                  refine (show Calls Try.prog _ _ _ _ from hcon).mono ?_
                  rintro e v6 ⟨rfl, hb⟩
                  have HT6 := Lib.hid (HT5.out.below hb)
                  clear hcon hb HT5
                  have hcon := one_counts HT6.out.one (id : Int) true (hi6 id hid1) (by unfold Tb.cnt; rw [Tb.g_in hidn, hx]; rfl)
                  go_wp2_with fail
                  refine (show Calls Try.prog _ _ _ _ from hcon).mono ?_
                  rintro e v7 ⟨rfl, hb⟩
                  have HT7 := Lib.hid (HT6.out.below hb)
                  clear hcon hb HT6
                  have hcon := one_counts HT7.out.one (pp : Int) true (hi6 pp hpp1) (by unfold Tb.cnt; rw [Tb.g_in hppn, hy]; rfl)
                  go_wp2_with fail
                  refine (show Calls Try.prog _ _ _ _ from hcon).mono ?_
                  rintro e v8 ⟨rfl, hb⟩
                  have HT8 := Lib.hid (HT7.out.below hb)
                  clear hcon hb HT7
                  have hcon := one_state HT8.out.one (id : Int) 1 (hi6 id hid1) (by rw [Tb.g_in hidn, hx]; rfl)
                  go_wp2_with fail
                  refine (show Calls Try.prog _ _ _ _ from hcon).mono ?_
                  rintro e v9 ⟨rfl, hb⟩
                  have HT9 := Lib.hid (HT8.out.below hb)
                  clear hcon hb HT8
                  go_wp2_with fail
                  go_roundg (m - (id + 1))
                  case measure => omega
                  case rel => exact ⟨id + 1, by go_num, by omega, by omega, by omega, HT9⟩
                · have hcon := one_top HT0.out.one (id : Int) tp (hi6 id hid1) (by rw [Tb.g_in hidn]; exact htp)
                  go_wp2_with fail
                  refine (show Calls Try.prog _ _ _ _ from hcon).mono ?_
                  rintro e v1 ⟨rfl, hb⟩
                  have HT1 := Lib.hid (HT0.out.below hb)
                  clear hcon hb HT0
                  have hcon := one_top HT1.out.one (pp : Int) tp (hi6 pp hpp1) (by rw [Tb.g_in hppn]; exact htq)
                  go_wp2_with fail
                  refine (show Calls Try.prog _ _ _ _ from hcon).mono ?_
                  rintro e v2 ⟨rfl, hb⟩
                  have HT2 := Lib.hid (HT1.out.below hb)
                  clear hcon hb HT1
                  have hcon := one_counts HT2.out.one (id : Int) true (hi6 id hid1) (by unfold Tb.cnt; rw [Tb.g_in hidn, hx]; rfl)
                  go_wp2_with fail
                  refine (show Calls Try.prog _ _ _ _ from hcon).mono ?_
                  rintro e v3 ⟨rfl, hb⟩
                  have HT3 := Lib.hid (HT2.out.below hb)
                  clear hcon hb HT2
                  have hcon := one_counts HT3.out.one (pp : Int) true (hi6 pp hpp1) (by unfold Tb.cnt; rw [Tb.g_in hppn, hy]; rfl)
                  go_wp2_with fail
                  refine (show Calls Try.prog _ _ _ _ from hcon).mono ?_
                  rintro e v4 ⟨rfl, hb⟩
                  have HT4 := Lib.hid (HT3.out.below hb)
                  clear hcon hb HT3
                  have hcon := one_state HT4.out.one (id : Int) 2 (hi6 id hid1) (by rw [Tb.g_in hidn, hx]; rfl)
                  go_wp2_with fail
                  refine (show Calls Try.prog _ _ _ _ from hcon).mono ?_
                  rintro e v5 ⟨rfl, hb⟩
                  have HT5 := Lib.hid (HT4.out.below hb)
                  clear hcon hb HT4
                  have hcon := one_counts HT5.out.one (id : Int) true (hi6 id hid1) (by unfold Tb.cnt; rw [Tb.g_in hidn, hx]; rfl)
                  go_wp2_with fail
                  refine (show Calls Try.prog _ _ _ _ from hcon).mono ?_
                  rintro e v6 ⟨rfl, hb⟩
                  have HT6 := Lib.hid (HT5.out.below hb)
                  clear hcon hb HT5
                  have hcon := one_counts HT6.out.one (pp : Int) true (hi6 pp hpp1) (by unfold Tb.cnt; rw [Tb.g_in hppn, hy]; rfl)
                  go_wp2_with fail
                  refine (show Calls Try.prog _ _ _ _ from hcon).mono ?_
                  rintro e v7 ⟨rfl, hb⟩
                  have HT7 := Lib.hid (HT6.out.below hb)
                  clear hcon hb HT6
                  have hcon := one_state HT7.out.one (id : Int) 2 (hi6 id hid1) (by rw [Tb.g_in hidn, hx]; rfl)
                  go_wp2_with fail
                  refine (show Calls Try.prog _ _ _ _ from hcon).mono ?_
                  rintro e v8 ⟨rfl, hb⟩
                  have HT8 := Lib.hid (HT7.out.below hb)
                  clear hcon hb HT7
                  go_wp2_with fail
                  go_roundg (m - (id + 1))
                  case measure => omega
                  case rel => exact ⟨id + 1, by go_num, by omega, by omega, by omega, HT8⟩
                · have hcon := one_top HT0.out.one (id : Int) tp (hi6 id hid1) (by rw [Tb.g_in hidn]; exact htp)
                  go_wp2_with fail
                  refine (show Calls Try.prog _ _ _ _ from hcon).mono ?_
                  rintro e v1 ⟨rfl, hb⟩
                  have HT1 := Lib.hid (HT0.out.below hb)
                  clear hcon hb HT0
                  have hcon := one_top HT1.out.one (pp : Int) tp (hi6 pp hpp1) (by rw [Tb.g_in hppn]; exact htq)
                  go_wp2_with fail
                  refine (show Calls Try.prog _ _ _ _ from hcon).mono ?_
                  rintro e v2 ⟨rfl, hb⟩
                  have HT2 := Lib.hid (HT1.out.below hb)
                  clear hcon hb HT1
                  have hcon := one_counts HT2.out.one (id : Int) true (hi6 id hid1) (by unfold Tb.cnt; rw [Tb.g_in hidn, hx]; rfl)
                  go_wp2_with fail
                  refine (show Calls Try.prog _ _ _ _ from hcon).mono ?_
                  rintro e v3 ⟨rfl, hb⟩
                  have HT3 := Lib.hid (HT2.out.below hb)
                  clear hcon hb HT2
                  have hcon := one_counts HT3.out.one (pp : Int) true (hi6 pp hpp1) (by unfold Tb.cnt; rw [Tb.g_in hppn, hy]; rfl)
                  go_wp2_with fail
                  refine (show Calls Try.prog _ _ _ _ from hcon).mono ?_
                  rintro e v4 ⟨rfl, hb⟩
                  have HT4 := Lib.hid (HT3.out.below hb)
                  clear hcon hb HT3
                  have hcon := one_state HT4.out.one (id : Int) 2 (hi6 id hid1) (by rw [Tb.g_in hidn, hx]; rfl)
                  go_wp2_with fail
                  refine (show Calls Try.prog _ _ _ _ from hcon).mono ?_
                  rintro e v5 ⟨rfl, hb⟩
                  have HT5 := Lib.hid (HT4.out.below hb)
                  clear hcon hb HT4
                  have hcon := one_counts HT5.out.one (id : Int) true (hi6 id hid1) (by unfold Tb.cnt; rw [Tb.g_in hidn, hx]; rfl)
                  go_wp2_with fail
                  refine (show Calls Try.prog _ _ _ _ from hcon).mono ?_
                  rintro e v6 ⟨rfl, hb⟩
                  have HT6 := Lib.hid (HT5.out.below hb)
                  clear hcon hb HT5
                  have hcon := one_counts HT6.out.one (pp : Int) true (hi6 pp hpp1) (by unfold Tb.cnt; rw [Tb.g_in hppn, hy]; rfl)
                  go_wp2_with fail
                  refine (show Calls Try.prog _ _ _ _ from hcon).mono ?_
                  rintro e v7 ⟨rfl, hb⟩
                  have HT7 := Lib.hid (HT6.out.below hb)
                  clear hcon hb HT6
                  have hcon := one_state HT7.out.one (id : Int) 2 (hi6 id hid1) (by rw [Tb.g_in hidn, hx]; rfl)
                  go_wp2_with fail
                  refine (show Calls Try.prog _ _ _ _ from hcon).mono ?_
                  rintro e v8 ⟨rfl, hb⟩
                  have HT8 := Lib.hid (HT7.out.below hb)
                  clear hcon hb HT7
                  go_wp2_with fail
                  go_roundg (m - (id + 1))
                  case measure => omega
                  case rel => exact ⟨id + 1, by go_num, by omega, by omega, by omega, HT8⟩
                · have hcon := one_top HT0.out.one (id : Int) tp (hi6 id hid1) (by rw [Tb.g_in hidn]; exact htp)
                  go_wp2_with fail
                  refine (show Calls Try.prog _ _ _ _ from hcon).mono ?_
                  rintro e v1 ⟨rfl, hb⟩
                  have HT1 := Lib.hid (HT0.out.below hb)
                  clear hcon hb HT0
                  have hcon := one_top HT1.out.one (pp : Int) tp (hi6 pp hpp1) (by rw [Tb.g_in hppn]; exact htq)
                  go_wp2_with fail
                  refine (show Calls Try.prog _ _ _ _ from hcon).mono ?_
                  rintro e v2 ⟨rfl, hb⟩
                  have HT2 := Lib.hid (HT1.out.below hb)
                  clear hcon hb HT1
                  have hcon := one_counts HT2.out.one (id : Int) false (hi6 id hid1) (by unfold Tb.cnt; rw [Tb.g_in hidn, hx]; rfl)
                  go_wp2_with fail
                  refine (show Calls Try.prog _ _ _ _ from hcon).mono ?_
                  rintro e v3 ⟨rfl, hb⟩
                  have HT3 := Lib.hid (HT2.out.below hb)
                  clear hcon hb HT2
                  have hcon := one_state HT3.out.one (id : Int) 3 (hi6 id hid1) (by rw [Tb.g_in hidn, hx]; rfl)
                  go_wp2_with fail
                  refine (show Calls Try.prog _ _ _ _ from hcon).mono ?_
                  rintro e v4 ⟨rfl, hb⟩
                  have HT4 := Lib.hid (HT3.out.below hb)
                  clear hcon hb HT3
                  have hcon := one_counts HT4.out.one (id : Int) false (hi6 id hid1) (by unfold Tb.cnt; rw [Tb.g_in hidn, hx]; rfl)
                  go_wp2_with fail
                  refine (show Calls Try.prog _ _ _ _ from hcon).mono ?_
                  rintro e v5 ⟨rfl, hb⟩
                  have HT5 := Lib.hid (HT4.out.below hb)
                  clear hcon hb HT4
                  have hcon := one_counts HT5.out.one (pp : Int) true (hi6 pp hpp1) (by unfold Tb.cnt; rw [Tb.g_in hppn, hy]; rfl)
                  go_wp2_with fail
                  refine (show Calls Try.prog _ _ _ _ from hcon).mono ?_
                  rintro e v6 ⟨rfl, hb⟩
                  have HT6 := Lib.hid (HT5.out.below hb)
                  clear hcon hb HT5
                  have hcon := one_state HT6.out.one (id : Int) 3 (hi6 id hid1) (by rw [Tb.g_in hidn, hx]; rfl)
                  go_wp2_with fail
                  refine (show Calls Try.prog _ _ _ _ from hcon).mono ?_
                  rintro e v7 ⟨rfl, hb⟩
                  have HT7 := Lib.hid (HT6.out.below hb)
                  clear hcon hb HT6
                  go_wp2_with fail
                  go_roundg (m - (id + 1))
                  case measure => omega
                  case rel => exact ⟨id + 1, by go_num, by omega, by omega, by omega, HT7⟩
                · have hcon := one_top HT0.out.one (id : Int) tp (hi6 id hid1) (by rw [Tb.g_in hidn]; exact htp)
                  go_wp2_with fail
                  refine (show Calls Try.prog _ _ _ _ from hcon).mono ?_
                  rintro e v1 ⟨rfl, hb⟩
                  have HT1 := Lib.hid (HT0.out.below hb)
                  clear hcon hb HT0
                  have hcon := one_top HT1.out.one (pp : Int) tp (hi6 pp hpp1) (by rw [Tb.g_in hppn]; exact htq)
                  go_wp2_with fail
                  refine (show Calls Try.prog _ _ _ _ from hcon).mono ?_
                  rintro e v2 ⟨rfl, hb⟩
                  have HT2 := Lib.hid (HT1.out.below hb)
                  clear hcon hb HT1
                  have hcon := one_counts HT2.out.one (id : Int) false (hi6 id hid1) (by unfold Tb.cnt; rw [Tb.g_in hidn, hx]; rfl)
                  go_wp2_with fail
                  refine (show Calls Try.prog _ _ _ _ from hcon).mono ?_
                  rintro e v3 ⟨rfl, hb⟩
                  have HT3 := Lib.hid (HT2.out.below hb)
                  clear hcon hb HT2
                  have hcon := one_state HT3.out.one (id : Int) 3 (hi6 id hid1) (by rw [Tb.g_in hidn, hx]; rfl)
                  go_wp2_with fail
                  refine (show Calls Try.prog _ _ _ _ from hcon).mono ?_
                  rintro e v4 ⟨rfl, hb⟩
                  have HT4 := Lib.hid (HT3.out.below hb)
                  clear hcon hb HT3
                  have hcon := one_counts HT4.out.one (id : Int) false (hi6 id hid1) (by unfold Tb.cnt; rw [Tb.g_in hidn, hx]; rfl)
                  go_wp2_with fail
                  refine (show Calls Try.prog _ _ _ _ from hcon).mono ?_
                  rintro e v5 ⟨rfl, hb⟩
                  have HT5 := Lib.hid (HT4.out.below hb)
                  clear hcon hb HT4
                  have hcon := one_counts HT5.out.one (pp : Int) true (hi6 pp hpp1) (by unfold Tb.cnt; rw [Tb.g_in hppn, hy]; rfl)
                  go_wp2_with fail
                  refine (show Calls Try.prog _ _ _ _ from hcon).mono ?_
                  rintro e v6 ⟨rfl, hb⟩
                  have HT6 := Lib.hid (HT5.out.below hb)
                  clear hcon hb HT5
                  have hcon := one_state HT6.out.one (id : Int) 3 (hi6 id hid1) (by rw [Tb.g_in hidn, hx]; rfl)
                  go_wp2_with fail
                  refine (show Calls Try.prog _ _ _ _ from hcon).mono ?_
                  rintro e v7 ⟨rfl, hb⟩
                  have HT7 := Lib.hid (HT6.out.below hb)
                  clear hcon hb HT6
                  go_wp2_with fail
                  go_roundg (m - (id + 1))
                  case measure => omega
                  case rel => exact ⟨id + 1, by go_num, by omega, by omega, by omega, HT7⟩
                · have hcon := one_top HT0.out.one (id : Int) tp (hi6 id hid1) (by rw [Tb.g_in hidn]; exact htp)
                  go_wp2_with fail
                  refine (show Calls Try.prog _ _ _ _ from hcon).mono ?_
                  rintro e v1 ⟨rfl, hb⟩
                  have HT1 := Lib.hid (HT0.out.below hb)
                  clear hcon hb HT0
                  have hcon := one_top HT1.out.one (pp : Int) tp (hi6 pp hpp1) (by rw [Tb.g_in hppn]; exact htq)
                  go_wp2_with fail
                  refine (show Calls Try.prog _ _ _ _ from hcon).mono ?_
                  rintro e v2 ⟨rfl, hb⟩
                  have HT2 := Lib.hid (HT1.out.below hb)
                  clear hcon hb HT1
                  have hcon := one_counts HT2.out.one (id : Int) false (hi6 id hid1) (by unfold Tb.cnt; rw [Tb.g_in hidn, hx]; rfl)
                  go_wp2_with fail
                  refine (show Calls Try.prog _ _ _ _ from hcon).mono ?_
                  rintro e v3 ⟨rfl, hb⟩
                  have HT3 := Lib.hid (HT2.out.below hb)
                  clear hcon hb HT2
                  have hcon := one_state HT3.out.one (id : Int) 3 (hi6 id hid1) (by rw [Tb.g_in hidn, hx]; rfl)
                  go_wp2_with fail
                  refine (show Calls Try.prog _ _ _ _ from hcon).mono ?_
                  rintro e v4 ⟨rfl, hb⟩
                  have HT4 := Lib.hid (HT3.out.below hb)
                  clear hcon hb HT3
                  have hcon := one_counts HT4.out.one (id : Int) false (hi6 id hid1) (by unfold Tb.cnt; rw [Tb.g_in hidn, hx]; rfl)
                  go_wp2_with fail
                  refine (show Calls Try.prog _ _ _ _ from hcon).mono ?_
                  rintro e v5 ⟨rfl, hb⟩
                  have HT5 := Lib.hid (HT4.out.below hb)
                  clear hcon hb HT4
                  have hcon := one_counts HT5.out.one (pp : Int) false (hi6 pp hpp1) (by unfold Tb.cnt; rw [Tb.g_in hppn, hy]; rfl)
                  go_wp2_with fail
                  refine (show Calls Try.prog _ _ _ _ from hcon).mono ?_
                  rintro e v6 ⟨rfl, hb⟩
                  have HT6 := Lib.hid (HT5.out.below hb)
                  clear hcon hb HT5
                  go_wp2_with fail
                  go_roundg (m - (id + 1))
                  case measure => omega
                  case rel => exact ⟨id + 1, by go_num, by omega, by omega, by omega, HT6⟩
            · obtain rfl : id = m := by omega
              have hltz2 : ¬ (id : Int) < (id : Int) := by omega
              go_wp2_with fail
              go_roundg (n0 - (i + 1))
              case measure => omega
              case rel =>
                have hr := HRUN.out
                exact ⟨i + 1, b, c, F', id, rfl, by go_num, by omega, by omega, Lib.hid (by rw [hr]; exact HM9.out), Lib.hid (by rw [hr]; exact HT0.out)⟩
      · have hno : ¬ (st.kind = 0 ∧ ve = 0) := fun h => hk0 h.1
        obtain ⟨hnn, hnp⟩ : U.n = T.n ∧ U.par = T.par := by
          rcases HPAR.out with h | h
          · exact absurd ⟨h.1, h.2.1⟩ hno
          · exact h.2
        have HU := Lib.hid (HTW3.out.same hnn hnp)
        have HM9 : Hid (U.n + 1 = m) := Lib.hid (by rw [hnn]; exact HM.out)
        clear hnn hnp hno HPAR HTW3 HM
        go_wp2_with fail
        go_loopg [8] m (fun gg s8 wr => ∃ (id : Nat), s8 = .int .i64 id ∧ 1 ≤ id ∧ id ≤ m ∧ m - id ≤ gg ∧ Hid (Two w wr t U F' U b c))
        case atStart => exact ⟨1, rfl, Nat.le_refl _, by have := HM9.out; omega, by omega, HU⟩
        case round =>
          obtain ⟨id, rfl, hid0, hidm, hgg2, HT0⟩ := hrel
          clear HU
          by_cases hlt2 : id < m
          · have hltz2 : (id : Int) < (m : Int) := by omega
            have hrow := HT0.out.row
            have hmU := HM9.out
            rw [hmU] at hrow
            obtain ⟨pp, hpp⟩ : ∃ pp, U.par id = pp := ⟨_, rfl⟩
            obtain ⟨b', c', e, hnc, hcm, hbl, hat, _⟩ := hrow.at (j := id) (by omega)
            simp only [Value.slice.injEq, Option.some.injEq, Addr.mk.injEq, and_true, true_and] at e
            obtain ⟨rfl, rfl⟩ := e
            have cp := hat id (by omega) 0 (.int .i64 pp) (by unfold parR; rw [if_neg (by omega), hpp]; rfl)
            rw [Nat.mul_one, Nat.add_zero] at cp
            have hsm81 := HSM.out
            have hid1 : id ≤ 1000 := by omega
            have hidn : 1 ≤ (id : Int) ∧ (id : Int) ≤ U.n := by omega
            have hin1 : id ≤ U.n := by omega
            have hi6 : ∀ k : Nat, k ≤ 1000 → I64 (k : Int) := fun k hk => by unfold I64; omega
            have hpl := HOK.out.par_lt id hid0 hin1
            rw [hpp] at hpl
            have hid00 : (0 : Int) ≤ id := by omega
            by_cases hp0 : pp = 0
            · subst hp0
              have htop := HOK.out.top0 id hid0 hin1 hpp
              have HTP : Hid (U.g U.top (id : Int) = (id : Int)) := Lib.hid (by rw [Tb.g_in hidn, Int.toNat_natCast, htop])
              clear hat hrow hcm htop hpl hmU
              have hcon := one_top HT0.out.one (id : Int) (id : Int) (hi6 id hid1) HTP.out
              go_wp2_with fail
              refine (show Calls Try.prog _ _ _ _ from hcon).mono ?_
              rintro e v1 ⟨rfl, hb⟩
              have HT1 := Lib.hid (HT0.out.below hb)
              clear hcon hb HT0 cp hbl hnc
              go_wp2_with fail
              go_roundg (m - (id + 1))
              case measure => omega
              case rel => exact ⟨id + 1, by go_num, by omega, by omega, by omega, HT1⟩
            · have hpz : ¬ (pp : Int) = 0 := by omega
              have hplz : ¬ (id : Int) ≤ (pp : Int) := by omega
              have hpp1 : pp ≤ 1000 := by omega
              have hppn : 1 ≤ (pp : Int) ∧ (pp : Int) ≤ U.n := by omega
              have h8 := HOK.out.st1 id hid0 hin1
              have h9 := HOK.out.st1 pp (by omega) (by omega)
              have h10 := HOK.out.mono id hid0 hin1 (by rw [hpp]; exact hp0)
              have h11 := HOK.out.top1 id hid0 hin1 (by rw [hpp]; exact hp0)
              rw [hpp] at h10 h11
              obtain ⟨x, hx⟩ : ∃ x, U.st (id : Int).toNat = x := ⟨_, rfl⟩
              obtain ⟨y, hy⟩ : ∃ y, U.st (pp : Int).toNat = y := ⟨_, rfl⟩
              obtain ⟨tp, htq⟩ : ∃ tp : Int, (U.top (pp : Int).toNat : Int) = tp := ⟨_, rfl⟩
              have htp : (U.top (id : Int).toNat : Int) = tp := by rw [← htq, Int.toNat_natCast, Int.toNat_natCast, h11]
              have hxy : (x = 1 ∧ y = 1) ∨ (x = 2 ∧ y = 1) ∨ (x = 2 ∧ y = 2) ∨ (x = 3 ∧ y = 1) ∨ (x = 3 ∧ y = 2) ∨ (x = 3 ∧ y = 3) := by
                rw [Int.toNat_natCast] at hx hy
                omega
              clear hat hrow hcm hpl hmU h8 h9 h10 h11 hpp hp0
              rcases hxy with ⟨rfl, rfl⟩ | ⟨rfl, rfl⟩ | ⟨rfl, rfl⟩ | ⟨rfl, rfl⟩ | ⟨rfl, rfl⟩ | ⟨rfl, rfl⟩
              · have hcon := one_top HT0.out.one (id : Int) tp (hi6 id hid1) (by rw [Tb.g_in hidn]; exact htp)
                go_wp2_with fail
                refine (show Calls Try.prog _ _ _ _ from hcon).mono ?_
                rintro e v1 ⟨rfl, hb⟩
                have HT1 := Lib.hid (HT0.out.below hb)
                clear hcon hb HT0
                have hcon := one_top HT1.out.one (pp : Int) tp (hi6 pp hpp1) (by rw [Tb.g_in hppn]; exact htq)
                go_wp2_with fail
                refine (show Calls Try.prog _ _ _ _ from hcon).mono ?_
                rintro e v2 ⟨rfl, hb⟩
                have HT2 := Lib.hid (HT1.out.below hb)
                clear hcon hb HT1
                have hcon := one_counts HT2.out.one (id : Int) true (hi6 id hid1) (by unfold Tb.cnt; rw [Tb.g_in hidn, hx]; rfl)
                go_wp2_with fail
                refine (show Calls Try.prog _ _ _ _ from hcon).mono ?_
                rintro e v3 ⟨rfl, hb⟩
                have HT3 := Lib.hid (HT2.out.below hb)
                clear hcon hb HT2
                have hcon := one_counts HT3.out.one (pp : Int) true (hi6 pp hpp1) (by unfold Tb.cnt; rw [Tb.g_in hppn, hy]; rfl)
                go_wp2_with fail
                refine (show Calls Try.prog _ _ _ _ from hcon).mono ?_
                rintro e v4 ⟨rfl, hb⟩
                have HT4 := Lib.hid (HT3.out.below hb)
                clear hcon hb HT3
                have hcon := one_state HT4.out.one (id : Int) 1 (hi6 id hid1) (by rw [Tb.g_in hidn, hx]; rfl)
                go_wp2_with fail
                refine (show Calls Try.prog _ _ _ _ from hcon).mono ?_
                rintro e v5 ⟨rfl, hb⟩
                have HT5 := Lib.hid (HT4.out.below hb)
                clear hcon hb HT4
                have hcon := one_state HT5.out.one (pp : Int) 1 (hi6 pp hpp1) (by rw [Tb.g_in hppn, hy]; rfl)
                go_wp2_with fail
                refine (show Calls Try.prog _ _ _ _ from hcon).mono ?_
                rintro e v6 ⟨rfl, hb⟩
                have HT6 := Lib.hid (HT5.out.below hb)
                clear hcon hb HT5
                have hcon := one_counts HT6.out.one (id : Int) true (hi6 id hid1) (by unfold Tb.cnt; rw [Tb.g_in hidn, hx]; rfl)
                go_wp2_with fail
                refine (show Calls Try.prog _ _ _ _ from hcon).mono ?_
                rintro e v7 ⟨rfl, hb⟩
                have HT7 := Lib.hid (HT6.out.below hb)
                clear hcon hb HT6
                have hcon := one_counts HT7.out.one (pp : Int) true (hi6 pp hpp1) (by unfold Tb.cnt; rw [Tb.g_in hppn, hy]; rfl)
                go_wp2_with fail
                refine (show Calls Try.prog _ _ _ _ from hcon).mono ?_
                rintro e v8 ⟨rfl, hb⟩
                have HT8 := Lib.hid (HT7.out.below hb)
                clear hcon hb HT7
                have hcon := one_state HT8.out.one (id : Int) 1 (hi6 id hid1) (by rw [Tb.g_in hidn, hx]; rfl)
                go_wp2_with fail
                refine (show Calls Try.prog _ _ _ _ from hcon).mono ?_
                rintro e v9 ⟨rfl, hb⟩
                have HT9 := Lib.hid (HT8.out.below hb)
                clear hcon hb HT8
                go_wp2_with fail
                go_roundg (m - (id + 1))
                case measure => omega
                case rel => exact ⟨id + 1, by go_num, by omega, by omega, by omega, HT9⟩
              · have hcon := one_top HT0.out.one (id : Int) tp (hi6 id hid1) (by rw [Tb.g_in hidn]; exact htp)
                go_wp2_with fail
                refine (show Calls Try.prog _ _ _ _ from hcon).mono ?_
                rintro e v1 ⟨rfl, hb⟩
                have HT1 := Lib.hid (HT0.out.below hb)
                clear hcon hb HT0
                have hcon := one_top HT1.out.one (pp : Int) tp (hi6 pp hpp1) (by rw [Tb.g_in hppn]; exact htq)
                go_wp2_with fail
                refine (show Calls Try.prog _ _ _ _ from hcon).mono ?_
                rintro e v2 ⟨rfl, hb⟩
                have HT2 := Lib.hid (HT1.out.below hb)
                clear hcon hb HT1
                have hcon := one_counts HT2.out.one (id : Int) true (hi6 id hid1) (by unfold Tb.cnt; rw [Tb.g_in hidn, hx]; rfl)
                go_wp2_with fail
                refine (show Calls Try.prog _ _ _ _ from hcon).mono ?_
                rintro e v3 ⟨rfl, hb⟩
                have HT3 := Lib.hid (HT2.out.below hb)
                clear hcon hb HT2
                have hcon := one_counts HT3.out.one (pp : Int) true (hi6 pp hpp1) (by unfold Tb.cnt; rw [Tb.g_in hppn, hy]; rfl)
                go_wp2_with fail
                refine (show Calls Try.prog _ _ _ _ from hcon).mono ?_
                rintro e v4 ⟨rfl, hb⟩
                have HT4 := Lib.hid (HT3.out.below hb)
                clear hcon hb HT3
                have hcon := one_state HT4.out.one (id : Int) 2 (hi6 id hid1) (by rw [Tb.g_in hidn, hx]; rfl)
                go_wp2_with fail
                refine (show Calls Try.prog _ _ _ _ from hcon).mono ?_
                rintro e v5 ⟨rfl, hb⟩
                have HT5 := Lib.hid (HT4.out.below hb)
                clear hcon hb HT4
                have hcon := one_counts HT5.out.one (id : Int) true (hi6 id hid1) (by unfold Tb.cnt; rw [Tb.g_in hidn, hx]; rfl)
                go_wp2_with fail
                refine (show Calls Try.prog _ _ _ _ from hcon).mono ?_
                rintro e v6 ⟨rfl, hb⟩
                have HT6 := Lib.hid (HT5.out.below hb)
                clear hcon hb HT5
                have hcon := one_counts HT6.out.one (pp : Int) true (hi6 pp hpp1) (by unfold Tb.cnt; rw [Tb.g_in hppn, hy]; rfl)
                go_wp2_with fail
                refine (show Calls Try.prog _ _ _ _ from hcon).mono ?_
                rintro e v7 ⟨rfl, hb⟩
                have HT7 := Lib.hid (HT6.out.below hb)
                clear hcon hb HT6
                have hcon := one_state HT7.out.one (id : Int) 2 (hi6 id hid1) (by rw [Tb.g_in hidn, hx]; rfl)
                go_wp2_with fail
                refine (show Calls Try.prog _ _ _ _ from hcon).mono ?_
                rintro e v8 ⟨rfl, hb⟩
                have HT8 := Lib.hid (HT7.out.below hb)
                clear hcon hb HT7
                go_wp2_with fail
                go_roundg (m - (id + 1))
                case measure => omega
                case rel => exact ⟨id + 1, by go_num, by omega, by omega, by omega, HT8⟩
              · have hcon := one_top HT0.out.one (id : Int) tp (hi6 id hid1) (by rw [Tb.g_in hidn]; exact htp)
                go_wp2_with fail
                refine (show Calls Try.prog _ _ _ _ from hcon).mono ?_
                rintro e v1 ⟨rfl, hb⟩
                have HT1 := Lib.hid (HT0.out.below hb)
                clear hcon hb HT0
                have hcon := one_top HT1.out.one (pp : Int) tp (hi6 pp hpp1) (by rw [Tb.g_in hppn]; exact htq)
                go_wp2_with fail
                refine (show Calls Try.prog _ _ _ _ from hcon).mono ?_
                rintro e v2 ⟨rfl, hb⟩
                have HT2 := Lib.hid (HT1.out.below hb)
                clear hcon hb HT1
                have hcon := one_counts HT2.out.one (id : Int) true (hi6 id hid1) (by unfold Tb.cnt; rw [Tb.g_in hidn, hx]; rfl)
                go_wp2_with fail
                refine (show Calls Try.prog _ _ _ _ from hcon).mono ?_
                rintro e v3 ⟨rfl, hb⟩
                have HT3 := Lib.hid (HT2.out.below hb)
                clear hcon hb HT2
                have hcon := one_counts HT3.out.one (pp : Int) true (hi6 pp hpp1) (by unfold Tb.cnt; rw [Tb.g_in hppn, hy]; rfl)
                go_wp2_with fail
                refine (show Calls Try.prog _ _ _ _ from hcon).mono ?_
                rintro e v4 ⟨rfl, hb⟩
                have HT4 := Lib.hid (HT3.out.below hb)
                clear hcon hb HT3
                have hcon := one_state HT4.out.one (id : Int) 2 (hi6 id hid1) (by rw [Tb.g_in hidn, hx]; rfl)
                go_wp2_with fail
                refine (show Calls Try.prog _ _ _ _ from hcon).mono ?_
                rintro e v5 ⟨rfl, hb⟩
                have HT5 := Lib.hid (HT4.out.below hb)
                clear hcon hb HT4
                have hcon := one_counts HT5.out.one (id : Int) true (hi6 id hid1) (by unfold Tb.cnt; rw [Tb.g_in hidn, hx]; rfl)
                go_wp2_with fail
                refine (show Calls Try.prog _ _ _ _ from hcon).mono ?_
                rintro e v6 ⟨rfl, hb⟩
                have HT6 := Lib.hid (HT5.out.below hb)
                clear hcon hb HT5
                have hcon := one_counts HT6.out.one (pp : Int) true (hi6 pp hpp1) (by unfold Tb.cnt; rw [Tb.g_in hppn, hy]; rfl)
                go_wp2_with fail
                refine (show Calls Try.prog _ _ _ _ from hcon).mono ?_
                rintro e v7 ⟨rfl, hb⟩
                have HT7 := Lib.hid (HT6.out.below hb)
                clear hcon hb HT6
                have hcon := one_state HT7.out.one (id : Int) 2 (hi6 id hid1) (by rw [Tb.g_in hidn, hx]; rfl)
                go_wp2_with fail
                refine (show Calls Try.prog _ _ _ _ from hcon).mono ?_
                rintro e v8 ⟨rfl, hb⟩
                have HT8 := Lib.hid (HT7.out.below hb)
                clear hcon hb HT7
                go_wp2_with fail
                go_roundg (m - (id + 1))
                case measure => omega
                case rel => exact ⟨id + 1, by go_num, by omega, by omega, by omega, HT8⟩
              · have hcon := one_top HT0.out.one (id : Int) tp (hi6 id hid1) (by rw [Tb.g_in hidn]; exact htp)
                go_wp2_with fail
                refine (show Calls Try.prog _ _ _ _ from hcon).mono ?_
                rintro e v1 ⟨rfl, hb⟩
                have HT1 := Lib.hid (HT0.out.below hb)
                clear hcon hb HT0
                have hcon := one_top HT1.out.one (pp : Int) tp (hi6 pp hpp1) (by rw [Tb.g_in hppn]; exact htq)
                go_wp2_with fail
                refine (show Calls Try.prog _ _ _ _ from hcon).mono ?_
                rintro e v2 ⟨rfl, hb⟩
                have HT2 := Lib.hid (HT1.out.below hb)
                clear hcon hb HT1
                have hcon := one_counts HT2.out.one (id : Int) false (hi6 id hid1) (by unfold Tb.cnt; rw [Tb.g_in hidn, hx]; rfl)
                go_wp2_with fail
                refine (show Calls Try.prog _ _ _ _ from hcon).mono ?_
                rintro e v3 ⟨rfl, hb⟩
                have HT3 := Lib.hid (HT2.out.below hb)
                clear hcon hb HT2
                have hcon := one_state HT3.out.one (id : Int) 3 (hi6 id hid1) (by rw [Tb.g_in hidn, hx]; rfl)
                go_wp2_with fail
                refine (show Calls Try.prog _ _ _ _ from hcon).mono ?_
                rintro e v4 ⟨rfl, hb⟩
                have HT4 := Lib.hid (HT3.out.below hb)
                clear hcon hb HT3
                have hcon := one_counts HT4.out.one (id : Int) false (hi6 id hid1) (by unfold Tb.cnt; rw [Tb.g_in hidn, hx]; rfl)
                go_wp2_with fail
                refine (show Calls Try.prog _ _ _ _ from hcon).mono ?_
                rintro e v5 ⟨rfl, hb⟩
                have HT5 := Lib.hid (HT4.out.below hb)
                clear hcon hb HT4
                have hcon := one_counts HT5.out.one (pp : Int) true (hi6 pp hpp1) (by unfold Tb.cnt; rw [Tb.g_in hppn, hy]; rfl)
                go_wp2_with fail
                refine (show Calls Try.prog _ _ _ _ from hcon).mono ?_
                rintro e v6 ⟨rfl, hb⟩
                have HT6 := Lib.hid (HT5.out.below hb)
                clear hcon hb HT5
                have hcon := one_state HT6.out.one (id : Int) 3 (hi6 id hid1) (by rw [Tb.g_in hidn, hx]; rfl)
                go_wp2_with fail
                refine (show Calls Try.prog _ _ _ _ from hcon).mono ?_
                rintro e v7 ⟨rfl, hb⟩
                have HT7 := Lib.hid (HT6.out.below hb)
                clear hcon hb HT6
                go_wp2_with fail
                go_roundg (m - (id + 1))
                case measure => omega
                case rel => exact ⟨id + 1, by go_num, by omega, by omega, by omega, HT7⟩
              · have hcon := one_top HT0.out.one (id : Int) tp (hi6 id hid1) (by rw [Tb.g_in hidn]; exact htp)
                go_wp2_with fail
                refine (show Calls Try.prog _ _ _ _ from hcon).mono ?_
                rintro e v1 ⟨rfl, hb⟩
                have HT1 := Lib.hid (HT0.out.below hb)
                clear hcon hb HT0
                have hcon := one_top HT1.out.one (pp : Int) tp (hi6 pp hpp1) (by rw [Tb.g_in hppn]; exact htq)
                go_wp2_with fail
                refine (show Calls Try.prog _ _ _ _ from hcon).mono ?_
                rintro e v2 ⟨rfl, hb⟩
                have HT2 := Lib.hid (HT1.out.below hb)
                clear hcon hb HT1
                have hcon := one_counts HT2.out.one (id : Int) false (hi6 id hid1) (by unfold Tb.cnt; rw [Tb.g_in hidn, hx]; rfl)
                go_wp2_with fail
                refine (show Calls Try.prog _ _ _ _ from hcon).mono ?_
                rintro e v3 ⟨rfl, hb⟩
                have HT3 := Lib.hid (HT2.out.below hb)
                clear hcon hb HT2
                have hcon := one_state HT3.out.one (id : Int) 3 (hi6 id hid1) (by rw [Tb.g_in hidn, hx]; rfl)
                go_wp2_with fail
                refine (show Calls Try.prog _ _ _ _ from hcon).mono ?_
                rintro e v4 ⟨rfl, hb⟩
                have HT4 := Lib.hid (HT3.out.below hb)
                clear hcon hb HT3
                have hcon := one_counts HT4.out.one (id : Int) false (hi6 id hid1) (by unfold Tb.cnt; rw [Tb.g_in hidn, hx]; rfl)
                go_wp2_with fail
                refine (show Calls Try.prog _ _ _ _ from hcon).mono ?_
                rintro e v5 ⟨rfl, hb⟩
                have HT5 := Lib.hid (HT4.out.below hb)
                clear hcon hb HT4
                have hcon := one_counts HT5.out.one (pp : Int) true (hi6 pp hpp1) (by unfold Tb.cnt; rw [Tb.g_in hppn, hy]; rfl)
                go_wp2_with fail
                refine (show Calls Try.prog _ _ _ _ from hcon).mono ?_
                rintro e v6 ⟨rfl, hb⟩
                have HT6 := Lib.hid (HT5.out.below hb)
                clear hcon hb HT5
                have hcon := one_state HT6.out.one (id : Int) 3 (hi6 id hid1) (by rw [Tb.g_in hidn, hx]; rfl)
                go_wp2_with fail
                refine (show Calls Try.prog _ _ _ _ from hcon).mono ?_
                rintro e v7 ⟨rfl, hb⟩
                have HT7 := Lib.hid (HT6.out.below hb)
                clear hcon hb HT6
                go_wp2_with fail
                go_roundg (m - (id + 1))
                case measure => omega
                case rel => exact ⟨id + 1, by go_num, by omega, by omega, by omega, HT7⟩
              · have hcon := one_top HT0.out.one (id : Int) tp (hi6 id hid1) (by rw [Tb.g_in hidn]; exact htp)
                go_wp2_with fail
                refine (show Calls Try.prog _ _ _ _ from hcon).mono ?_
                rintro e v1 ⟨rfl, hb⟩
                have HT1 := Lib.hid (HT0.out.below hb)
                clear hcon hb HT0
                have hcon := one_top HT1.out.one (pp : Int) tp (hi6 pp hpp1) (by rw [Tb.g_in hppn]; exact htq)
                go_wp2_with fail
                refine (show Calls Try.prog _ _ _ _ from hcon).mono ?_
                rintro e v2 ⟨rfl, hb⟩
                have HT2 := Lib.hid (HT1.out.below hb)
                clear hcon hb HT1
                have hcon := one_counts HT2.out.one (id : Int) false (hi6 id hid1) (by unfold Tb.cnt; rw [Tb.g_in hidn, hx]; rfl)
                go_wp2_with fail
                refine (show Calls Try.prog _ _ _ _ from hcon).mono ?_
                rintro e v3 ⟨rfl, hb⟩
                have HT3 := Lib.hid (HT2.out.below hb)
                clear hcon hb HT2
                have hcon := one_state HT3.out.one (id : Int) 3 (hi6 id hid1) (by rw [Tb.g_in hidn, hx]; rfl)
                go_wp2_with fail
                refine (show Calls Try.prog _ _ _ _ from hcon).mono ?_
                rintro e v4 ⟨rfl, hb⟩
                have HT4 := Lib.hid (HT3.out.below hb)
                clear hcon hb HT3
                have hcon := one_counts HT4.out.one (id : Int) false (hi6 id hid1) (by unfold Tb.cnt; rw [Tb.g_in hidn, hx]; rfl)
                go_wp2_with fail
                refine (show Calls Try.prog _ _ _ _ from hcon).mono ?_
                rintro e v5 ⟨rfl, hb⟩
                have HT5 := Lib.hid (HT4.out.below hb)
                clear hcon hb HT4
                have hcon := one_counts HT5.out.one (pp : Int) false (hi6 pp hpp1) (by unfold Tb.cnt; rw [Tb.g_in hppn, hy]; rfl)
                go_wp2_with fail
                refine (show Calls Try.prog _ _ _ _ from hcon).mono ?_
                rintro e v6 ⟨rfl, hb⟩
                have HT6 := Lib.hid (HT5.out.below hb)
                clear hcon hb HT5
                go_wp2_with fail
                go_roundg (m - (id + 1))
                case measure => omega
                case rel => exact ⟨id + 1, by go_num, by omega, by omega, by omega, HT6⟩
          · obtain rfl : id = m := by omega
            have hltz2 : ¬ (id : Int) < (id : Int) := by omega
            go_wp2_with fail
            go_roundg (n0 - (i + 1))
            case measure => omega
            case rel =>
              have hr := HRUN.out
              exact ⟨i + 1, b, c, F', id, rfl, by go_num, by omega, by omega, Lib.hid (by rw [hr]; exact HM9.out), Lib.hid (by rw [hr]; exact HT0.out)⟩
    · have hltz : ¬ (i : Int) < (n0 : Int) := by omega
      obtain rfl : i = n0 := by omega
      have hlen := one_len HTW.out.one _ rfl
      have hmn : (m : Int) - 1 = T.n := by have := HM.out; omega
      have HLEN := Lib.hid hlen
      have HMN := Lib.hid hmn
      have HBL := Lib.hid HTW.out.one.bel
      have hw1 : wrap64 ((m : Int) - 1) = (T.n : Int) := by rw [hmn]; exact wr0 (by omega)
      have hsm0 := hsm.1
      clear hlen hmn hok hsm hT HTW HM
      go_wp2_with fail
      refine HLEN.out.mono ?_
      rintro e w9 ⟨rfl, hb9⟩
      have HB9 := Lib.hid (below_tr HBL.out hb9)
      clear hb9 HLEN HBL
      go_wp2_with fail
      go_ret
      exact ⟨by simp, HB9.out⟩

theorem xbelow_law (a0 : Option Addr) (c0 n0 : Nat) (l0 : List Stp) (hn0 : l0.length = n0) (w : World) (hs0 : SlSt w a0 c0 l0) :
    Calls Try.prog 7 #[.slice a0 n0 c0] w fun e w' => e = .returned (.bool true) ∧ Below w.heap.size w w' := by
  by_cases hz : 80 < n0
  · exact xbelow_large a0 c0 n0 l0 hn0 w hs0 hz
  · exact xbelow_main a0 c0 n0 l0 hn0 w hs0 (by omega)

end Go.Proofs.Ytebkcejamleojaa
