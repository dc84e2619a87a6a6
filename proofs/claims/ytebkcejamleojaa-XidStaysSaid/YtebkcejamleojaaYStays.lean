/-
  The law XidStays, walked.
-/
import Derived.Test.YtebkcejamleojaaYStayM
import Derived.Test.YtebkcejamleojaaYSeen2
import Derived.Test.YtebkcejamleojaaRegP
namespace Go.Proofs.Ytebkcejamleojaa
open Go.RowKit
set_option linter.unusedVariables false

theorem get_stpS {l : List Stp} {i : Nat} (h : i < l.length) : ∃ s, l[i]? = some s := ⟨l[i], by simp [h]⟩
theorem run_takeS {T : Tb} {l : List Stp} {i : Nat} {s : Stp} (h : l[i]? = some s) : T.run (l.take (i + 1)) = (T.run (l.take i)).stp s.kind s.id := by
  rw [List.take_add_one, h]
  exact Tb.run_snoc _ _ _
theorem run_smallS {l : List Stp} {n i : Nat} (hn : l.length = n) (h : n ≤ 80) : (Tb.new.run (l.take i)).n ≤ 80 ∧ (Tb.new.run (l.take i)).last ≤ 80 := by
  have := Tb.Small.run Tb.new_small (l.take i)
  have hl : (l.take i).length ≤ 80 := by rw [List.length_take]; omega
  exact ⟨by have := this.1; omega, by have := this.2; omega⟩

/-- The two records that are compared, in whatever world comes later. -/
theorem two_at {W W6 : World} {aw an : Option Addr} {cw cn n m k : Nat} {G G' : Nat → Prop} {T U : Tb} {x y na nb tp : Int} {ca cb : Bool} (hw : Seen G W6 (.slice aw n cw) n T) (hn : Seen G' W6 (.slice an m cn) m U) (hb : Below W6.heap.size W6 W) (h1 : k < n) (h2 : k < m)
    (e1 : T.g T.st ((k : Int) + 1) = x) (e2 : U.g U.st ((k : Int) + 1) = y) (e3 : T.numI ((k : Int) + 1) = na) (e4 : U.numI ((k : Int) + 1) = nb) (e5 : T.g T.top ((k : Int) + 1) = tp) (e6 : U.g U.top ((k : Int) + 1) = tp) (e7 : T.cnt ((k : Int) + 1) = ca) (e8 : U.cnt ((k : Int) + 1) = cb) :
    ∃ bw bn : Nat, aw = some ⟨bw, 0, none⟩ ∧ an = some ⟨bn, 0, none⟩ ∧ ∀ W', Below W.heap.size W W' → (bw < W'.heap.size ∧ W'.cell? ⟨bw, k * 4, none⟩ = some (.int .u8 x) ∧ W'.cell? ⟨bw, k * 4 + 1, none⟩ = some (.int .i64 tp) ∧ W'.cell? ⟨bw, k * 4 + 2, none⟩ = some (.int .i64 na) ∧ W'.cell? ⟨bw, k * 4 + 3, none⟩ = some (.bool ca)) ∧
      (bn < W'.heap.size ∧ W'.cell? ⟨bn, k * 4, none⟩ = some (.int .u8 y) ∧ W'.cell? ⟨bn, k * 4 + 1, none⟩ = some (.int .i64 tp) ∧ W'.cell? ⟨bn, k * 4 + 2, none⟩ = some (.int .i64 nb) ∧ W'.cell? ⟨bn, k * 4 + 3, none⟩ = some (.bool cb)) := by
  obtain ⟨bw, rfl, _, _, _⟩ := Seen.at hw h1
  obtain ⟨bn, rfl, _, _, _⟩ := Seen.at hn h2
  refine ⟨bw, bn, rfl, rfl, fun W' hb' => ?_⟩
  obtain ⟨b', e, _, p1, p2, p3, p4, p5⟩ := Seen.at (hw.below (below_tr hb hb')) h1
  cases e
  obtain ⟨b', e, _, q1, q2, q3, q4, q5⟩ := Seen.at (hn.below (below_tr hb hb')) h2
  cases e
  rw [e1] at p2; rw [e5] at p3; rw [e3] at p4; rw [e7] at p5
  rw [e2] at q2; rw [e6] at q3; rw [e4] at q4; rw [e8] at q5
  exact ⟨⟨p1, p2, p3, p4, p5⟩, q1, q2, q3, q4, q5⟩

set_option maxRecDepth 100000 in
set_option maxHeartbeats 8000000 in
theorem stays_large (a0 : Option Addr) (c0 n0 : Nat) (l0 : List Stp) (hn0 : l0.length = n0) (w : World) (hs0 : SlSt w a0 c0 l0) (hz : 80 < n0) :
    Calls Try.prog 5 #[.slice a0 n0 c0] w fun e w' => e = .returned (.bool true) ∧ Below w.heap.size w w' := by
  have hz2 : (80 : Int) < n0 := by omega
  go_enter Try.func5, Try.ntmps5
  have hcon := works_is w
  go_wp2_with fail
  refine (show Calls Try.prog _ _ _ _ from hcon).mono ?_
  rintro e w1 ⟨rfl, hb⟩
  have HB1 := Lib.hid hb
  clear hcon hb
  have hcon := works_is w1
  go_wp2_with fail
  refine (show Calls Try.prog _ _ _ _ from hcon).mono ?_
  rintro e w2 ⟨rfl, hb⟩
  have HB2 := Lib.hid (below_tr HB1.out hb)
  clear hcon hb HB1
  go_wp2_with fail
  go_ret
  exact ⟨rfl, HB2.out⟩

theorem stays17 : RX.planOk (RX.funcOps Try.f5 17) = true := by kernel_rfl

set_option maxRecDepth 100000 in
set_option maxHeartbeats 8000000 in
theorem stays_main (a0 : Option Addr) (c0 n0 : Nat) (l0 : List Stp) (hn0 : l0.length = n0) (w : World) (hs0 : SlSt w a0 c0 l0) (hz : n0 ≤ 80) :
    Calls Try.prog 5 #[.slice a0 n0 c0] w fun e w' => e = .returned (.bool true) ∧ Below w.heap.size w w' := by
  have mixed : Try.prog.follows Departure.mixedOrders = true := by kernel_rfl
  have hz2 : ¬ (80 : Int) < n0 := by omega
  have HZ := Lib.hid hz
  have HS := Lib.hid hs0
  have HN := Lib.hid hn0
  clear hs0 hn0
  go_enter Try.func5, Try.ntmps5
  have hcon := works_is w
  go_wp2_with fail
  refine (show Calls Try.prog _ _ _ _ from hcon).mono ?_
  rintro e w1 ⟨rfl, hb⟩
  have HB1 := Lib.hid hb
  clear hcon hb
  have hcon := one_new (w0 := w) HB1.out
  go_wp2_with fail
  refine (show Calls Try.prog _ _ _ _ from hcon).mono ?_
  rintro e w2 ⟨t, F0, rfl, h2, -, -⟩
  have HO := Lib.hid h2
  clear hcon h2 HB1
  go_wp2_with fail
  go_loopg [4] n0 (fun gg s4 wr => ∃ (i : Nat) (F : Nat → Prop), s4 = .int .i64 i ∧ i ≤ n0 ∧ n0 - i ≤ gg ∧ Hid (One w wr t (Tb.new.run (l0.take i)) F))
  case atStart => exact ⟨0, F0, rfl, Nat.zero_le _, by omega, HO⟩
  case round =>
    obtain ⟨i, F, rfl, hin, hgg, HOT⟩ := hrel
    clear HO
    obtain ⟨T, hT⟩ : ∃ T, Tb.new.run (l0.take i) = T := ⟨_, rfl⟩
    have hsm := run_smallS (i := i) HN.out HZ.out
    have hok := Tb.new_ok.run (l0.take i)
    have hnum := Tb.new_nums.runs Tb.new_ok (l0.take i)
    rw [hT] at HOT hsm hok hnum
    by_cases hlt : i < n0
    · have hltz : (i : Int) < (n0 : Int) := by omega
      have hi0 : (0 : Int) ≤ i := by omega
      obtain ⟨st, hst⟩ := get_stpS (l := l0) (i := i) (by rw [HN.out]; exact hlt)
      obtain ⟨sb, so, rfl, _, _, _⟩ := at_st (HS.out.below HOT.out.bel) hst
      have hwf := HS.out.wf st (List.mem_of_getElem? hst)
      have hlc : n0 ≤ c0 := by have := HS.out.lc; rw [HN.out] at this; exact this
      have hrun := run_takeS (T := Tb.new) hst
      rw [hT] at hrun
      obtain ⟨va, hva⟩ : ∃ va, T.stpI st.kind st.id = va := ⟨_, rfl⟩
      obtain ⟨ve, hve⟩ : ∃ ve, T.stpE st.kind st.id = ve := ⟨_, rfl⟩
      obtain ⟨U, hU⟩ : ∃ U, T.stp st.kind st.id = U := ⟨_, rfl⟩
      rw [hU] at hrun
      have HRUN := Lib.hid hrun
      have HGS := Lib.hid hst
      have HWF := Lib.hid hwf
      have HOKT := Lib.hid hok
      have HNUM := Lib.hid hnum
      have HUE := Lib.hid hU
      have HSM0 := Lib.hid hsm
      have HSMU : Hid (U.n ≤ 81) := Lib.hid (by have := (show T.Small 80 from hsm).stp st.kind st.id; rw [hU] at this; exact this.1)
      obtain ⟨n, hn9⟩ : ∃ n, T.n = n := ⟨_, rfl⟩
      obtain ⟨m, hm9⟩ : ∃ m, U.n = m := ⟨_, rfl⟩
      obtain ⟨la, hla⟩ : ∃ la : Int, (T.last : Int) = la := ⟨_, rfl⟩
      have HN9 := Lib.hid hn9
      have HM9 := Lib.hid hm9
      have HLA := Lib.hid hla
      have HNM : Hid (n ≤ m) := Lib.hid (by
        rw [← hn9, ← hm9, ← hU]
        rcases stp_par T st.kind st.id with h | h
        · rw [h.2.2.1]; omega
        · rw [h.2.1]; exact Nat.le_refl _)
      have HANS := Lib.hid (And.intro hva hve)
      clear hwf hrun hst hok hnum hT hn9 hm9 hla hU hva hve
      rw [HN9.out] at HSM0
      clear hsm
      have hcon := all_n HOT.out.is HN9.out (by have := HSM0.out; omega)
      go_wp2_with fail
      refine (show Calls Try.prog _ _ _ _ from hcon).mono ?_
      rintro e w3 ⟨aw, cw, rfl, hsw, hb⟩
      have HO3 := Lib.hid (HOT.out.below hb)
      have HW3 := Lib.hid hsw
      clear hcon hsw hb
      have hcon := one_last HO3.out la HLA.out
      go_wp2_with fail
      refine (show Calls Try.prog _ _ _ _ from hcon).mono ?_
      rintro e w4 ⟨rfl, hb⟩
      have HO4 := Lib.hid (HO3.out.below hb)
      have HW4 := Lib.hid (HW3.out.below hb)
      clear hcon hb HO3 HW3
      have hst4 : ∀ W, Below w.heap.size w W → sb < W.heap.size ∧ W.cell? ⟨sb, so + i * 2, none⟩ = some (.int .u8 st.kind) ∧ W.cell? ⟨sb, so + i * 2 + 1, none⟩ = some (.int .i64 st.id) := fun W hW => by
        obtain ⟨b', o', e', d0, d1, d2⟩ := at_st (HS.out.below hW) (l := l0) (i := i) (s := st) HGS.out
        cases e'
        exact ⟨d0, d1, d2⟩
      have HSTA := Lib.hid hst4
      obtain ⟨d0, d1, d2⟩ := hst4 w4 HO4.out.bel
      clear hst4
      have hcon := one_do HO4.out (by have := HSM0.out; have := HN9.out; omega) (by have := HSM0.out; omega) st.kind st.id va ve HWF.out.1 HWF.out.2 HANS.out.1 HANS.out.2 HUE.out
      go_wp2_with fail
      refine (show Calls Try.prog _ _ _ _ from hcon).mono ?_
      rintro e w5 ⟨F2, rfl, h5, t5, -⟩
      have HO5 := Lib.hid h5
      have HW5 : Hid (Seen (fun k => wr.heap.size ≤ k) w5 (.slice aw n cw) n T) := Lib.hid (HW4.out.stay (t5.stay (G := fun k => wr.heap.size ≤ k) (fun k hk hf => by have := HOT.out.is.lt k hf; omega)))
      clear d0 d1 d2 h5 t5 hcon HW4 HO4 HOT
      have hcon := all_n HO5.out.is HM9.out (by have := HSMU.out; have := HM9.out; omega)
      go_wp2_with fail
      refine (show Calls Try.prog _ _ _ _ from hcon).mono ?_
      rintro e w6 ⟨an, cn, rfl, hsn, hb⟩
      have HOU := Lib.hid (HO5.out.below hb)
      have HWAS := Lib.hid (HW5.out.below hb)
      have HNOW := Lib.hid hsn
      have HB6 := Lib.hid (Below.refl w6.heap.size w6)
      clear hcon hsn hb HO5 HW5
      have HSTW : Hid (∀ wr2, Below w6.heap.size w6 wr2 → ∀ W', Below wr2.heap.size wr2 W' → sb < W'.heap.size ∧ W'.cell? ⟨sb, so + i * 2, none⟩ = some (.int .u8 st.kind) ∧ W'.cell? ⟨sb, so + i * 2 + 1, none⟩ = some (.int .i64 st.id)) := Lib.hid (fun wr2 h1 W' h2 => HSTA.out W' (below_tr HOU.out.bel (below_tr h1 h2)))
      have HUT : Hid (ve ≠ 0 → U = T) := Lib.hid (fun hv => by rw [← HUE.out]; exact stp_no _ _ (by rw [HANS.out.2]; exact hv))
      go_wp2_with fail
      go_loopg [10] n (fun gg s10 wr => ∃ (k : Nat), s10 = .int .i64 k ∧ k ≤ n ∧ n - k ≤ gg ∧ Hid (Below w6.heap.size w6 wr))
      case atStart => exact ⟨0, rfl, Nat.zero_le _, by omega, HB6⟩
      case round =>
        obtain ⟨k, rfl, hkn, hgg2, HB2⟩ := hrel
        clear HB6
        by_cases hlt2 : k < n
        · have hltz2 : (k : Int) < (n : Int) := by omega
          have hk0 : (0 : Int) ≤ k := by omega
          have hkm : (k : Int) < (m : Int) := by have := HNM.out; omega
          obtain ⟨x, y, na, nb, tp, ca, cb, q1, q2, q3, q4, q5, q6, q7, q8, hcs⟩ := stay_int HOKT.out HNUM.out st.kind st.id HWF.out.1.1 (k := k + 1) (by omega) (by have := HN9.out; omega)
          rw [HUE.out] at q2 q4 q6 q8 hcs
          rw [show ((k + 1 : Nat) : Int) = (k : Int) + 1 by omega] at q1 q2 q3 q4 q5 q6 q7 q8
          have HEQ : Hid (ve ≠ 0 → y = x ∧ nb = na ∧ cb = ca) := Lib.hid (fun hv => by
            have e := HUT.out hv
            rw [e] at q2 q4 q8
            exact ⟨q2.symm.trans q1, q4.symm.trans q3, q8.symm.trans q7⟩)
          obtain ⟨bw, bn, ebw, ebn, hrd⟩ := two_at HWAS.out HNOW.out HB2.out hlt2 (by have := HNM.out; omega) q1 q2 q3 q4 q5 q6 q7 q8
          subst ebw
          subst ebn
          have HRD := Lib.hid hrd
          have HCS := Lib.hid hcs
          clear hrd q1 q2 q3 q4 q5 q6 q7 q8 hcs
          go_upto_region 14 with (fail)
          refine RX.region_held 12 (fun W => Below wr.heap.size wr W) mixed (by rfl) ?_
          refine wpAnyH_take (i := 0) (oi := _) (v := .slice (some ⟨bw, 0, none⟩) n cw) rfl (by kernel_rfl) (by kernel_rfl) (by kernel_rfl) (fun _ _ _ h => h) (Or.inl ⟨by rfl, fun w' hw' => ?_⟩) (below_drw _) ?_
          · go_simp
            try first | with_reducible rfl | simp
          refine wpAnyH_take (i := 1) (oi := _) (v := .int .i64 (k : Int)) rfl (by kernel_rfl) (by kernel_rfl) (by kernel_rfl) (fun _ _ _ h => h) (Or.inl ⟨by rfl, fun w' hw' => ?_⟩) (below_drw _) ?_
          · go_simp
            try first | with_reducible rfl | simp
          refine wpAnyH_take (i := 2) (oi := _) (v := .pointer (some ⟨bw, k * 4, none⟩)) rfl (by kernel_rfl) (by kernel_rfl) (by kernel_rfl) (fun _ _ _ h => h) (Or.inl ⟨by rfl, fun w' hw' => ?_⟩) (below_drw _) ?_
          · go_simp
            try first | with_reducible rfl | simp
          refine wpAnyH_take (i := 3) (oi := _) (v := seenV x tp na ca) rfl (by kernel_rfl) (by kernel_rfl) (by kernel_rfl) (fun _ _ _ h => h) (Or.inl ⟨by rfl, fun w' hw' => ?_⟩) (below_drw _) ?_
          · obtain ⟨⟨e0, e1, e2, e3, e4⟩, f0, f1, f2, f3, f4⟩ := HRD.out w' hw'
            unfold seenV
            go_simp
            try first | with_reducible rfl | simp
          refine wpAnyH_take (i := 4) (oi := _) (v := .slice (some ⟨bn, 0, none⟩) m cn) rfl (by kernel_rfl) (by kernel_rfl) (by kernel_rfl) (fun _ _ _ h => h) (Or.inl ⟨by rfl, fun w' hw' => ?_⟩) (below_drw _) ?_
          · go_simp
            try first | with_reducible rfl | simp
          refine wpAnyH_take (i := 5) (oi := _) (v := .int .i64 (k : Int)) rfl (by kernel_rfl) (by kernel_rfl) (by kernel_rfl) (fun _ _ _ h => h) (Or.inl ⟨by rfl, fun w' hw' => ?_⟩) (below_drw _) ?_
          · go_simp
            try first | with_reducible rfl | simp
          refine wpAnyH_take (i := 6) (oi := _) (v := .pointer (some ⟨bn, k * 4, none⟩)) rfl (by kernel_rfl) (by kernel_rfl) (by kernel_rfl) (fun _ _ _ h => h) (Or.inl ⟨by rfl, fun w' hw' => ?_⟩) (below_drw _) ?_
          · go_simp
            try first | with_reducible rfl | simp
          refine wpAnyH_take (i := 7) (oi := _) (v := seenV y tp nb cb) rfl (by kernel_rfl) (by kernel_rfl) (by kernel_rfl) (fun _ _ _ h => h) (Or.inl ⟨by rfl, fun w' hw' => ?_⟩) (below_drw _) ?_
          · obtain ⟨⟨e0, e1, e2, e3, e4⟩, f0, f1, f2, f3, f4⟩ := HRD.out w' hw'
            unfold seenV
            go_simp
            try first | with_reducible rfl | simp
          refine RX.anyH_two (fuel := 0) (i1 := 8) (i2 := 9) (j1 := 10) (j2 := 11) (t1 := 11) (t2 := 12) (e := 47) (zs := seenZ) (c1 := seenC x tp na ca) (c2 := seenC y tp nb cb) (by rfl) (by rfl) (by rfl) (by rfl) (by rfl) (by rfl) (by rfl) (by rfl) (by rfl) (by rfl) (by rfl) (by rfl) (by decide) (by decide) (by kernel_rfl) (by kernel_rfl) (by kernel_rfl) (by kernel_rfl) (by kernel_rfl) (by kernel_rfl) (alloc_seen (by rfl)) (alloc_seen (by rfl)) (fun g g' => fills_seen (p := .tmp 11) (x := .tmp 52) (by rfl) _ _ _ _ _ _ (by kernel_rfl) (by kernel_rfl)) (fun g g' => fills_seen (p := .tmp 12) (x := .tmp 56) (by rfl) _ _ _ _ _ _ (by kernel_rfl) (by kernel_rfl)) (fun w' hb => below_tr (below_drw _) hb) (fun b1 b2 v1 hne h1 h2 l1 l2 hb => ?_)
          have HV1 := Lib.hid (below_tr (below_drw _) hb)
          have HL1 := Lib.hid l1
          have HL2 := Lib.hid l2
          clear hne h1 h2 hb l1 l2
          simp only [Act.put, List.setIfInBounds_toArray]
          unfold RX.pt
          unfold seenV
          clear HRD
          rcases HCS.out with ⟨h1, h2, h3⟩ | ⟨h1, h2, h3, h4⟩ | ⟨h1, h2, h3, h4, h5⟩ | ⟨h1, h2, h3, h4, h5, h6, h7⟩ | ⟨h1, h2, h3, h4, h5⟩
          · subst h1
            subst h2
            subst h3
            have x0 := HL1.out.cell (o := 0) rfl
            have x1 := HL1.out.cell (o := 1) rfl
            have x2 := HL1.out.cell (o := 2) rfl
            have x3 := HL1.out.cell (o := 3) rfl
            have y0 := HL2.out.cell (o := 0) rfl
            have y1 := HL2.out.cell (o := 1) rfl
            have y2 := HL2.out.cell (o := 2) rfl
            have y3 := HL2.out.cell (o := 3) rfl
            have xl := HL1.out.lt
            have yl := HL2.out.lt
            go_upto_region 17 with (fail)
            clear x0 x1 x2 x3 y0 y1 y2 y3 xl yl HCS
            by_cases hv0 : ve = 0
            · subst hv0
              have hdr := below_drw v1
              try simp only [List.append_eq, List.cons_append, List.nil_append]
              refine RX.wp_region_plan (fun w w' => Below w.heap.size w w') [.it (.pointer (some ⟨b1, 0, none⟩)), .it (.int .u8 1), .it (.bool false), .it (.bool false), .it undef, .it undef, .it undef, .it (.bool false), .it (.bool false), .it undef, .it undef, .it undef, .it undef, .it undef, .it undef, .it undef, .it undef, .it undef, .it undef, .it undef, .it undef, .it undef, .it undef, .it undef, .it undef, .it undef, .it undef, .it undef, .it undef, .it undef, .it undef, .it undef, .it undef, .it undef, .it undef, .it undef, .it undef, .it (.bool false), .it (.bool false), .it (.int .i64 0), .it (.bool false), .it (.bool false), .it undef, .it undef, .it undef, .it (.bool false), .it (.bool false)] (by kernel_rfl) (RX.plan_same stays17 (by kernel_rfl)) (fun _ => Below.refl _ _) (fun _ _ _ => below_tr) ?_
              refine RX.seqP_value (fun _ => Below.refl _ _) _ (by first | rfl | simp) (fun w' hw' hctx => by (go_simp); (try first | with_reducible rfl | simp)) ?_
              simp only [Act.put, List.setIfInBounds_toArray, List.set_cons_zero, List.set_cons_succ]
              refine RX.seqP_value (fun _ => Below.refl _ _) _ (by first | rfl | simp) (fun w' hw' hctx => ?_) ?_
              · have x0 := (HL1.out.below (below_tr hdr hw')).cell (o := 0) rfl
                have x1 := (HL1.out.below (below_tr hdr hw')).cell (o := 1) rfl
                have x2 := (HL1.out.below (below_tr hdr hw')).cell (o := 2) rfl
                have x3 := (HL1.out.below (below_tr hdr hw')).cell (o := 3) rfl
                have y0 := (HL2.out.below (below_tr hdr hw')).cell (o := 0) rfl
                have y1 := (HL2.out.below (below_tr hdr hw')).cell (o := 1) rfl
                have y2 := (HL2.out.below (below_tr hdr hw')).cell (o := 2) rfl
                have y3 := (HL2.out.below (below_tr hdr hw')).cell (o := 3) rfl
                go_simp
                try first | with_reducible rfl | simp
              simp only [Act.put, List.setIfInBounds_toArray, List.set_cons_zero, List.set_cons_succ]
              refine RX.seqP_value (fun _ => Below.refl _ _) _ (by first | rfl | simp) (fun w' hw' hctx => by (go_simp); (try first | with_reducible rfl | simp)) ?_
              simp only [Act.put, List.setIfInBounds_toArray, List.set_cons_zero, List.set_cons_succ]
              refine RX.seqP_value (fun _ => Below.refl _ _) _ (by first | rfl | simp) (fun w' hw' hctx => by (go_simp); (try first | with_reducible rfl | simp)) ?_
              simp only [Act.put, List.setIfInBounds_toArray, List.set_cons_zero, List.set_cons_succ]
              refine RX.seqP_skip (by first | rfl | simp) ?_
              simp only [Act.put, List.setIfInBounds_toArray, List.set_cons_zero, List.set_cons_succ]
              refine RX.seqP_skip (by first | rfl | simp) ?_
              simp only [Act.put, List.setIfInBounds_toArray, List.set_cons_zero, List.set_cons_succ]
              refine RX.seqP_skip (by first | rfl | simp) ?_
              simp only [Act.put, List.setIfInBounds_toArray, List.set_cons_zero, List.set_cons_succ]
              refine RX.seqP_value (fun _ => Below.refl _ _) _ (by first | rfl | simp) (fun w' hw' hctx => by (go_simp); (try first | with_reducible rfl | simp)) ?_
              simp only [Act.put, List.setIfInBounds_toArray, List.set_cons_zero, List.set_cons_succ]
              refine RX.seqP_value (fun _ => Below.refl _ _) _ (by first | rfl | simp) (fun w' hw' hctx => by (go_simp); (try first | with_reducible rfl | simp)) ?_
              simp only [Act.put, List.setIfInBounds_toArray, List.set_cons_zero, List.set_cons_succ]
              refine RX.seqP_skip (by first | rfl | simp) ?_
              simp only [Act.put, List.setIfInBounds_toArray, List.set_cons_zero, List.set_cons_succ]
              refine RX.seqP_skip (by first | rfl | simp) ?_
              simp only [Act.put, List.setIfInBounds_toArray, List.set_cons_zero, List.set_cons_succ]
              refine RX.seqP_skip (by first | rfl | simp) ?_
              simp only [Act.put, List.setIfInBounds_toArray, List.set_cons_zero, List.set_cons_succ]
              refine RX.seqP_skip (by first | rfl | simp) ?_
              simp only [Act.put, List.setIfInBounds_toArray, List.set_cons_zero, List.set_cons_succ]
              refine RX.seqP_skip (by first | rfl | simp) ?_
              simp only [Act.put, List.setIfInBounds_toArray, List.set_cons_zero, List.set_cons_succ]
              refine RX.seqP_skip (by first | rfl | simp) ?_
              simp only [Act.put, List.setIfInBounds_toArray, List.set_cons_zero, List.set_cons_succ]
              refine RX.seqP_skip (by first | rfl | simp) ?_
              simp only [Act.put, List.setIfInBounds_toArray, List.set_cons_zero, List.set_cons_succ]
              refine RX.seqP_skip (by first | rfl | simp) ?_
              simp only [Act.put, List.setIfInBounds_toArray, List.set_cons_zero, List.set_cons_succ]
              refine RX.seqP_skip (by first | rfl | simp) ?_
              simp only [Act.put, List.setIfInBounds_toArray, List.set_cons_zero, List.set_cons_succ]
              refine RX.seqP_skip (by first | rfl | simp) ?_
              simp only [Act.put, List.setIfInBounds_toArray, List.set_cons_zero, List.set_cons_succ]
              refine RX.seqP_skip (by first | rfl | simp) ?_
              simp only [Act.put, List.setIfInBounds_toArray, List.set_cons_zero, List.set_cons_succ]
              refine RX.seqP_skip (by first | rfl | simp) ?_
              simp only [Act.put, List.setIfInBounds_toArray, List.set_cons_zero, List.set_cons_succ]
              refine RX.seqP_skip (by first | rfl | simp) ?_
              simp only [Act.put, List.setIfInBounds_toArray, List.set_cons_zero, List.set_cons_succ]
              refine RX.seqP_skip (by first | rfl | simp) ?_
              simp only [Act.put, List.setIfInBounds_toArray, List.set_cons_zero, List.set_cons_succ]
              refine RX.seqP_skip (by first | rfl | simp) ?_
              simp only [Act.put, List.setIfInBounds_toArray, List.set_cons_zero, List.set_cons_succ]
              refine RX.seqP_skip (by first | rfl | simp) ?_
              simp only [Act.put, List.setIfInBounds_toArray, List.set_cons_zero, List.set_cons_succ]
              refine RX.seqP_skip (by first | rfl | simp) ?_
              simp only [Act.put, List.setIfInBounds_toArray, List.set_cons_zero, List.set_cons_succ]
              refine RX.seqP_skip (by first | rfl | simp) ?_
              simp only [Act.put, List.setIfInBounds_toArray, List.set_cons_zero, List.set_cons_succ]
              refine RX.seqP_skip (by first | rfl | simp) ?_
              simp only [Act.put, List.setIfInBounds_toArray, List.set_cons_zero, List.set_cons_succ]
              refine RX.seqP_skip (by first | rfl | simp) ?_
              simp only [Act.put, List.setIfInBounds_toArray, List.set_cons_zero, List.set_cons_succ]
              refine RX.seqP_skip (by first | rfl | simp) ?_
              simp only [Act.put, List.setIfInBounds_toArray, List.set_cons_zero, List.set_cons_succ]
              refine RX.seqP_skip (by first | rfl | simp) ?_
              simp only [Act.put, List.setIfInBounds_toArray, List.set_cons_zero, List.set_cons_succ]
              refine RX.seqP_skip (by first | rfl | simp) ?_
              simp only [Act.put, List.setIfInBounds_toArray, List.set_cons_zero, List.set_cons_succ]
              refine RX.seqP_skip (by first | rfl | simp) ?_
              simp only [Act.put, List.setIfInBounds_toArray, List.set_cons_zero, List.set_cons_succ]
              refine RX.seqP_skip (by first | rfl | simp) ?_
              simp only [Act.put, List.setIfInBounds_toArray, List.set_cons_zero, List.set_cons_succ]
              refine RX.seqP_skip (by first | rfl | simp) ?_
              simp only [Act.put, List.setIfInBounds_toArray, List.set_cons_zero, List.set_cons_succ]
              refine RX.seqP_skip (by first | rfl | simp) ?_
              simp only [Act.put, List.setIfInBounds_toArray, List.set_cons_zero, List.set_cons_succ]
              refine RX.seqP_skip (by first | rfl | simp) ?_
              simp only [Act.put, List.setIfInBounds_toArray, List.set_cons_zero, List.set_cons_succ]
              refine RX.seqP_value (fun _ => Below.refl _ _) _ (by first | rfl | simp) (fun w' hw' hctx => by (go_simp); (try first | with_reducible rfl | simp)) ?_
              simp only [Act.put, List.setIfInBounds_toArray, List.set_cons_zero, List.set_cons_succ]
              refine RX.seqP_value (fun _ => Below.refl _ _) _ (by first | rfl | simp) (fun w' hw' hctx => by (go_simp); (try first | with_reducible rfl | simp)) ?_
              simp only [Act.put, List.setIfInBounds_toArray, List.set_cons_zero, List.set_cons_succ]
              refine RX.seqP_value (fun _ => Below.refl _ _) _ (by first | rfl | simp) (fun w' hw' hctx => by (go_simp); (try first | with_reducible rfl | simp)) ?_
              simp only [Act.put, List.setIfInBounds_toArray, List.set_cons_zero, List.set_cons_succ]
              refine RX.seqP_value (fun _ => Below.refl _ _) _ (by first | rfl | simp) (fun w' hw' hctx => by (go_simp); (try first | with_reducible rfl | simp)) ?_
              simp only [Act.put, List.setIfInBounds_toArray, List.set_cons_zero, List.set_cons_succ]
              refine RX.seqP_value (fun _ => Below.refl _ _) _ (by first | rfl | simp) (fun w' hw' hctx => by (go_simp); (try first | with_reducible rfl | simp)) ?_
              simp only [Act.put, List.setIfInBounds_toArray, List.set_cons_zero, List.set_cons_succ]
              refine RX.seqP_skip (by first | rfl | simp) ?_
              simp only [Act.put, List.setIfInBounds_toArray, List.set_cons_zero, List.set_cons_succ]
              refine RX.seqP_skip (by first | rfl | simp) ?_
              simp only [Act.put, List.setIfInBounds_toArray, List.set_cons_zero, List.set_cons_succ]
              refine RX.seqP_skip (by first | rfl | simp) ?_
              simp only [Act.put, List.setIfInBounds_toArray, List.set_cons_zero, List.set_cons_succ]
              refine RX.seqP_value (fun _ => Below.refl _ _) _ (by first | rfl | simp) (fun w' hw' hctx => by (go_simp); (try first | with_reducible rfl | simp)) ?_
              simp only [Act.put, List.setIfInBounds_toArray, List.set_cons_zero, List.set_cons_succ]
              refine RX.seqP_value (fun _ => Below.refl _ _) _ (by first | rfl | simp) (fun w' hw' hctx => by (go_simp); (try first | with_reducible rfl | simp)) ?_
              simp only [Act.put, List.setIfInBounds_toArray, List.set_cons_zero, List.set_cons_succ]
              refine RX.seqP_nil (fun v2 hR hctx _ => ?_)
              have hb5 := below_tr hdr hR
              clear hctx hR
              have HB5 := Lib.hid (below_tr HB2.out (below_tr HV1.out hb5))
              clear hb5 hdr HV1 HL1 HL2
              go_wp2_with fail
              go_roundg (n - (k + 1))
              case measure => omega
              case rel => exact ⟨k + 1, by have hsm0 := HSM0.out; rw [show wrap64 ((k : Int) + 1) = (k : Int) + 1 from wr0 (by omega)]; exact congrArg (Value.int .i64) (by omega), by omega, Nat.le_refl _, HB5⟩
            · have HVE : Hid ((ve != 0) = true) := Lib.hid (by simpa using hv0)
              have heq := HEQ.out hv0
              obtain ⟨e1, e2, e3⟩ := heq
              subst e1
              subst e2
              subst e3
              clear hv0
              have hdr := below_drw v1
              try simp only [List.append_eq, List.cons_append, List.nil_append]
              refine RX.wp_region_plan (fun w w' => Below w.heap.size w w') [.it (.pointer (some ⟨b1, 0, none⟩)), .it (.int .u8 1), .it (.bool false), .it (.bool false), .it undef, .it undef, .it undef, .it (.bool false), .it (.bool false), .it undef, .it undef, .it undef, .it undef, .it undef, .it undef, .it undef, .it undef, .it undef, .it undef, .it undef, .it undef, .it undef, .it undef, .it undef, .it undef, .it undef, .it undef, .it undef, .it undef, .it undef, .it undef, .it undef, .it undef, .it undef, .it undef, .it undef, .it undef, .it (.bool false), .it (.bool false), .it (.int .i64 ve), .it (.bool true), .it (.bool true), .it (seenV 1 tp 0 true), .it (seenV 1 tp 0 true), .it (.bool false), .it (.bool false), .it (.bool false)] (by kernel_rfl) (RX.plan_same stays17 (by kernel_rfl)) (fun _ => Below.refl _ _) (fun _ _ _ => below_tr) ?_
              refine RX.seqP_value (fun _ => Below.refl _ _) _ (by first | rfl | simp) (fun w' hw' hctx => by (go_simp); (try first | with_reducible rfl | simp)) ?_
              simp only [Act.put, List.setIfInBounds_toArray, List.set_cons_zero, List.set_cons_succ]
              refine RX.seqP_value (fun _ => Below.refl _ _) _ (by first | rfl | simp) (fun w' hw' hctx => ?_) ?_
              · have x0 := (HL1.out.below (below_tr hdr hw')).cell (o := 0) rfl
                have x1 := (HL1.out.below (below_tr hdr hw')).cell (o := 1) rfl
                have x2 := (HL1.out.below (below_tr hdr hw')).cell (o := 2) rfl
                have x3 := (HL1.out.below (below_tr hdr hw')).cell (o := 3) rfl
                have y0 := (HL2.out.below (below_tr hdr hw')).cell (o := 0) rfl
                have y1 := (HL2.out.below (below_tr hdr hw')).cell (o := 1) rfl
                have y2 := (HL2.out.below (below_tr hdr hw')).cell (o := 2) rfl
                have y3 := (HL2.out.below (below_tr hdr hw')).cell (o := 3) rfl
                go_simp
                try first | with_reducible rfl | simp
              simp only [Act.put, List.setIfInBounds_toArray, List.set_cons_zero, List.set_cons_succ]
              refine RX.seqP_value (fun _ => Below.refl _ _) _ (by first | rfl | simp) (fun w' hw' hctx => by (go_simp); (try first | with_reducible rfl | simp)) ?_
              simp only [Act.put, List.setIfInBounds_toArray, List.set_cons_zero, List.set_cons_succ]
              refine RX.seqP_value (fun _ => Below.refl _ _) _ (by first | rfl | simp) (fun w' hw' hctx => by (go_simp); (try first | with_reducible rfl | simp)) ?_
              simp only [Act.put, List.setIfInBounds_toArray, List.set_cons_zero, List.set_cons_succ]
              refine RX.seqP_skip (by first | rfl | simp) ?_
              simp only [Act.put, List.setIfInBounds_toArray, List.set_cons_zero, List.set_cons_succ]
              refine RX.seqP_skip (by first | rfl | simp) ?_
              simp only [Act.put, List.setIfInBounds_toArray, List.set_cons_zero, List.set_cons_succ]
              refine RX.seqP_skip (by first | rfl | simp) ?_
              simp only [Act.put, List.setIfInBounds_toArray, List.set_cons_zero, List.set_cons_succ]
              refine RX.seqP_value (fun _ => Below.refl _ _) _ (by first | rfl | simp) (fun w' hw' hctx => by (go_simp); (try first | with_reducible rfl | simp)) ?_
              simp only [Act.put, List.setIfInBounds_toArray, List.set_cons_zero, List.set_cons_succ]
              refine RX.seqP_value (fun _ => Below.refl _ _) _ (by first | rfl | simp) (fun w' hw' hctx => by (go_simp); (try first | with_reducible rfl | simp)) ?_
              simp only [Act.put, List.setIfInBounds_toArray, List.set_cons_zero, List.set_cons_succ]
              refine RX.seqP_skip (by first | rfl | simp) ?_
              simp only [Act.put, List.setIfInBounds_toArray, List.set_cons_zero, List.set_cons_succ]
              refine RX.seqP_skip (by first | rfl | simp) ?_
              simp only [Act.put, List.setIfInBounds_toArray, List.set_cons_zero, List.set_cons_succ]
              refine RX.seqP_skip (by first | rfl | simp) ?_
              simp only [Act.put, List.setIfInBounds_toArray, List.set_cons_zero, List.set_cons_succ]
              refine RX.seqP_skip (by first | rfl | simp) ?_
              simp only [Act.put, List.setIfInBounds_toArray, List.set_cons_zero, List.set_cons_succ]
              refine RX.seqP_skip (by first | rfl | simp) ?_
              simp only [Act.put, List.setIfInBounds_toArray, List.set_cons_zero, List.set_cons_succ]
              refine RX.seqP_skip (by first | rfl | simp) ?_
              simp only [Act.put, List.setIfInBounds_toArray, List.set_cons_zero, List.set_cons_succ]
              refine RX.seqP_skip (by first | rfl | simp) ?_
              simp only [Act.put, List.setIfInBounds_toArray, List.set_cons_zero, List.set_cons_succ]
              refine RX.seqP_skip (by first | rfl | simp) ?_
              simp only [Act.put, List.setIfInBounds_toArray, List.set_cons_zero, List.set_cons_succ]
              refine RX.seqP_skip (by first | rfl | simp) ?_
              simp only [Act.put, List.setIfInBounds_toArray, List.set_cons_zero, List.set_cons_succ]
              refine RX.seqP_skip (by first | rfl | simp) ?_
              simp only [Act.put, List.setIfInBounds_toArray, List.set_cons_zero, List.set_cons_succ]
              refine RX.seqP_skip (by first | rfl | simp) ?_
              simp only [Act.put, List.setIfInBounds_toArray, List.set_cons_zero, List.set_cons_succ]
              refine RX.seqP_skip (by first | rfl | simp) ?_
              simp only [Act.put, List.setIfInBounds_toArray, List.set_cons_zero, List.set_cons_succ]
              refine RX.seqP_skip (by first | rfl | simp) ?_
              simp only [Act.put, List.setIfInBounds_toArray, List.set_cons_zero, List.set_cons_succ]
              refine RX.seqP_skip (by first | rfl | simp) ?_
              simp only [Act.put, List.setIfInBounds_toArray, List.set_cons_zero, List.set_cons_succ]
              refine RX.seqP_skip (by first | rfl | simp) ?_
              simp only [Act.put, List.setIfInBounds_toArray, List.set_cons_zero, List.set_cons_succ]
              refine RX.seqP_skip (by first | rfl | simp) ?_
              simp only [Act.put, List.setIfInBounds_toArray, List.set_cons_zero, List.set_cons_succ]
              refine RX.seqP_skip (by first | rfl | simp) ?_
              simp only [Act.put, List.setIfInBounds_toArray, List.set_cons_zero, List.set_cons_succ]
              refine RX.seqP_skip (by first | rfl | simp) ?_
              simp only [Act.put, List.setIfInBounds_toArray, List.set_cons_zero, List.set_cons_succ]
              refine RX.seqP_skip (by first | rfl | simp) ?_
              simp only [Act.put, List.setIfInBounds_toArray, List.set_cons_zero, List.set_cons_succ]
              refine RX.seqP_skip (by first | rfl | simp) ?_
              simp only [Act.put, List.setIfInBounds_toArray, List.set_cons_zero, List.set_cons_succ]
              refine RX.seqP_skip (by first | rfl | simp) ?_
              simp only [Act.put, List.setIfInBounds_toArray, List.set_cons_zero, List.set_cons_succ]
              refine RX.seqP_skip (by first | rfl | simp) ?_
              simp only [Act.put, List.setIfInBounds_toArray, List.set_cons_zero, List.set_cons_succ]
              refine RX.seqP_skip (by first | rfl | simp) ?_
              simp only [Act.put, List.setIfInBounds_toArray, List.set_cons_zero, List.set_cons_succ]
              refine RX.seqP_skip (by first | rfl | simp) ?_
              simp only [Act.put, List.setIfInBounds_toArray, List.set_cons_zero, List.set_cons_succ]
              refine RX.seqP_skip (by first | rfl | simp) ?_
              simp only [Act.put, List.setIfInBounds_toArray, List.set_cons_zero, List.set_cons_succ]
              refine RX.seqP_skip (by first | rfl | simp) ?_
              simp only [Act.put, List.setIfInBounds_toArray, List.set_cons_zero, List.set_cons_succ]
              refine RX.seqP_skip (by first | rfl | simp) ?_
              simp only [Act.put, List.setIfInBounds_toArray, List.set_cons_zero, List.set_cons_succ]
              refine RX.seqP_skip (by first | rfl | simp) ?_
              simp only [Act.put, List.setIfInBounds_toArray, List.set_cons_zero, List.set_cons_succ]
              refine RX.seqP_value (fun _ => Below.refl _ _) _ (by first | rfl | simp) (fun w' hw' hctx => by (go_simp); (try first | with_reducible rfl | simp)) ?_
              simp only [Act.put, List.setIfInBounds_toArray, List.set_cons_zero, List.set_cons_succ]
              refine RX.seqP_value (fun _ => Below.refl _ _) _ (by first | rfl | simp) (fun w' hw' hctx => by (go_simp); (try first | with_reducible rfl | simp)) ?_
              simp only [Act.put, List.setIfInBounds_toArray, List.set_cons_zero, List.set_cons_succ]
              refine RX.seqP_value (fun _ => Below.refl _ _) _ (by first | rfl | simp) (fun w' hw' hctx => by (go_simp); (try first | with_reducible rfl | simp)) ?_
              simp only [Act.put, List.setIfInBounds_toArray, List.set_cons_zero, List.set_cons_succ]
              refine RX.seqP_value (fun _ => Below.refl _ _) _ (by first | rfl | simp) (fun w' hw' hctx => ?_) ?_
              · have hve : (ve != 0) = true := HVE.out
                go_simp
                try first | with_reducible rfl | simp
              simp only [Act.put, List.setIfInBounds_toArray, List.set_cons_zero, List.set_cons_succ]
              refine RX.seqP_value (fun _ => Below.refl _ _) _ (by first | rfl | simp) (fun w' hw' hctx => by (go_simp); (try first | with_reducible rfl | simp)) ?_
              simp only [Act.put, List.setIfInBounds_toArray, List.set_cons_zero, List.set_cons_succ]
              refine RX.seqP_value (fun _ => Below.refl _ _) _ (by first | rfl | simp) (fun w' hw' hctx => ?_) ?_
              · have x0 := (HL1.out.below (below_tr hdr hw')).cell (o := 0) rfl
                have x1 := (HL1.out.below (below_tr hdr hw')).cell (o := 1) rfl
                have x2 := (HL1.out.below (below_tr hdr hw')).cell (o := 2) rfl
                have x3 := (HL1.out.below (below_tr hdr hw')).cell (o := 3) rfl
                have y0 := (HL2.out.below (below_tr hdr hw')).cell (o := 0) rfl
                have y1 := (HL2.out.below (below_tr hdr hw')).cell (o := 1) rfl
                have y2 := (HL2.out.below (below_tr hdr hw')).cell (o := 2) rfl
                have y3 := (HL2.out.below (below_tr hdr hw')).cell (o := 3) rfl
                unfold seenV
                go_simp
                try first | with_reducible rfl | simp
              simp only [Act.put, List.setIfInBounds_toArray, List.set_cons_zero, List.set_cons_succ]
              refine RX.seqP_value (fun _ => Below.refl _ _) _ (by first | rfl | simp) (fun w' hw' hctx => ?_) ?_
              · have x0 := (HL1.out.below (below_tr hdr hw')).cell (o := 0) rfl
                have x1 := (HL1.out.below (below_tr hdr hw')).cell (o := 1) rfl
                have x2 := (HL1.out.below (below_tr hdr hw')).cell (o := 2) rfl
                have x3 := (HL1.out.below (below_tr hdr hw')).cell (o := 3) rfl
                have y0 := (HL2.out.below (below_tr hdr hw')).cell (o := 0) rfl
                have y1 := (HL2.out.below (below_tr hdr hw')).cell (o := 1) rfl
                have y2 := (HL2.out.below (below_tr hdr hw')).cell (o := 2) rfl
                have y3 := (HL2.out.below (below_tr hdr hw')).cell (o := 3) rfl
                unfold seenV
                go_simp
                try first | with_reducible rfl | simp
              simp only [Act.put, List.setIfInBounds_toArray, List.set_cons_zero, List.set_cons_succ]
              refine RX.seqP_value (fun _ => Below.refl _ _) _ (by first | rfl | simp) (fun w' hw' hctx => ?_) ?_
              · have hne := neq_seen 1 tp 0 true w'
                unfold seenV
                go_simp
                try first | with_reducible rfl | simp
              simp only [Act.put, List.setIfInBounds_toArray, List.set_cons_zero, List.set_cons_succ]
              refine RX.seqP_value (fun _ => Below.refl _ _) _ (by first | rfl | simp) (fun w' hw' hctx => by (go_simp); (try first | with_reducible rfl | simp)) ?_
              simp only [Act.put, List.setIfInBounds_toArray, List.set_cons_zero, List.set_cons_succ]
              refine RX.seqP_value (fun _ => Below.refl _ _) _ (by first | rfl | simp) (fun w' hw' hctx => by (go_simp); (try first | with_reducible rfl | simp)) ?_
              simp only [Act.put, List.setIfInBounds_toArray, List.set_cons_zero, List.set_cons_succ]
              refine RX.seqP_nil (fun v2 hR hctx _ => ?_)
              have hb5 := below_tr hdr hR
              clear hctx hR
              have HB5 := Lib.hid (below_tr HB2.out (below_tr HV1.out hb5))
              clear hb5 hdr HV1 HL1 HL2
              go_wp2_with fail
              go_roundg (n - (k + 1))
              case measure => omega
              case rel => exact ⟨k + 1, by have hsm0 := HSM0.out; rw [show wrap64 ((k : Int) + 1) = (k : Int) + 1 from wr0 (by omega)]; exact congrArg (Value.int .i64) (by omega), by omega, Nat.le_refl _, HB5⟩
          · subst h1
            subst h2
            subst h3
            subst h4
            have x0 := HL1.out.cell (o := 0) rfl
            have x1 := HL1.out.cell (o := 1) rfl
            have x2 := HL1.out.cell (o := 2) rfl
            have x3 := HL1.out.cell (o := 3) rfl
            have y0 := HL2.out.cell (o := 0) rfl
            have y1 := HL2.out.cell (o := 1) rfl
            have y2 := HL2.out.cell (o := 2) rfl
            have y3 := HL2.out.cell (o := 3) rfl
            have xl := HL1.out.lt
            have yl := HL2.out.lt
            go_upto_region 17 with (fail)
            clear x0 x1 x2 x3 y0 y1 y2 y3 xl yl HCS
            by_cases hv0 : ve = 0
            · subst hv0
              have hdr := below_drw v1
              try simp only [List.append_eq, List.cons_append, List.nil_append]
              refine RX.wp_region_plan (fun w w' => Below w.heap.size w w') [.it (.pointer (some ⟨b1, 0, none⟩)), .it (.int .u8 2), .it (.bool true), .it (.bool true), .it (.pointer (some ⟨b2, 0, none⟩)), .it (.int .u8 2), .it (.bool false), .it (.bool false), .it (.bool false), .it undef, .it undef, .it undef, .it undef, .it undef, .it undef, .it undef, .it undef, .it undef, .it undef, .it undef, .it undef, .it undef, .it undef, .it undef, .it undef, .it undef, .it undef, .it undef, .it undef, .it undef, .it undef, .it undef, .it undef, .it undef, .it undef, .it undef, .it undef, .it (.bool false), .it (.bool false), .it (.int .i64 0), .it (.bool false), .it (.bool false), .it undef, .it undef, .it undef, .it (.bool false), .it (.bool false)] (by kernel_rfl) (RX.plan_same stays17 (by kernel_rfl)) (fun _ => Below.refl _ _) (fun _ _ _ => below_tr) ?_
              refine RX.seqP_value (fun _ => Below.refl _ _) _ (by first | rfl | simp) (fun w' hw' hctx => by (go_simp); (try first | with_reducible rfl | simp)) ?_
              simp only [Act.put, List.setIfInBounds_toArray, List.set_cons_zero, List.set_cons_succ]
              refine RX.seqP_value (fun _ => Below.refl _ _) _ (by first | rfl | simp) (fun w' hw' hctx => ?_) ?_
              · have x0 := (HL1.out.below (below_tr hdr hw')).cell (o := 0) rfl
                have x1 := (HL1.out.below (below_tr hdr hw')).cell (o := 1) rfl
                have x2 := (HL1.out.below (below_tr hdr hw')).cell (o := 2) rfl
                have x3 := (HL1.out.below (below_tr hdr hw')).cell (o := 3) rfl
                have y0 := (HL2.out.below (below_tr hdr hw')).cell (o := 0) rfl
                have y1 := (HL2.out.below (below_tr hdr hw')).cell (o := 1) rfl
                have y2 := (HL2.out.below (below_tr hdr hw')).cell (o := 2) rfl
                have y3 := (HL2.out.below (below_tr hdr hw')).cell (o := 3) rfl
                go_simp
                try first | with_reducible rfl | simp
              simp only [Act.put, List.setIfInBounds_toArray, List.set_cons_zero, List.set_cons_succ]
              refine RX.seqP_value (fun _ => Below.refl _ _) _ (by first | rfl | simp) (fun w' hw' hctx => by (go_simp); (try first | with_reducible rfl | simp)) ?_
              simp only [Act.put, List.setIfInBounds_toArray, List.set_cons_zero, List.set_cons_succ]
              refine RX.seqP_value (fun _ => Below.refl _ _) _ (by first | rfl | simp) (fun w' hw' hctx => by (go_simp); (try first | with_reducible rfl | simp)) ?_
              simp only [Act.put, List.setIfInBounds_toArray, List.set_cons_zero, List.set_cons_succ]
              refine RX.seqP_value (fun _ => Below.refl _ _) _ (by first | rfl | simp) (fun w' hw' hctx => by (go_simp); (try first | with_reducible rfl | simp)) ?_
              simp only [Act.put, List.setIfInBounds_toArray, List.set_cons_zero, List.set_cons_succ]
              refine RX.seqP_value (fun _ => Below.refl _ _) _ (by first | rfl | simp) (fun w' hw' hctx => ?_) ?_
              · have x0 := (HL1.out.below (below_tr hdr hw')).cell (o := 0) rfl
                have x1 := (HL1.out.below (below_tr hdr hw')).cell (o := 1) rfl
                have x2 := (HL1.out.below (below_tr hdr hw')).cell (o := 2) rfl
                have x3 := (HL1.out.below (below_tr hdr hw')).cell (o := 3) rfl
                have y0 := (HL2.out.below (below_tr hdr hw')).cell (o := 0) rfl
                have y1 := (HL2.out.below (below_tr hdr hw')).cell (o := 1) rfl
                have y2 := (HL2.out.below (below_tr hdr hw')).cell (o := 2) rfl
                have y3 := (HL2.out.below (below_tr hdr hw')).cell (o := 3) rfl
                go_simp
                try first | with_reducible rfl | simp
              simp only [Act.put, List.setIfInBounds_toArray, List.set_cons_zero, List.set_cons_succ]
              refine RX.seqP_value (fun _ => Below.refl _ _) _ (by first | rfl | simp) (fun w' hw' hctx => by (go_simp); (try first | with_reducible rfl | simp)) ?_
              simp only [Act.put, List.setIfInBounds_toArray, List.set_cons_zero, List.set_cons_succ]
              refine RX.seqP_value (fun _ => Below.refl _ _) _ (by first | rfl | simp) (fun w' hw' hctx => by (go_simp); (try first | with_reducible rfl | simp)) ?_
              simp only [Act.put, List.setIfInBounds_toArray, List.set_cons_zero, List.set_cons_succ]
              refine RX.seqP_value (fun _ => Below.refl _ _) _ (by first | rfl | simp) (fun w' hw' hctx => by (go_simp); (try first | with_reducible rfl | simp)) ?_
              simp only [Act.put, List.setIfInBounds_toArray, List.set_cons_zero, List.set_cons_succ]
              refine RX.seqP_skip (by first | rfl | simp) ?_
              simp only [Act.put, List.setIfInBounds_toArray, List.set_cons_zero, List.set_cons_succ]
              refine RX.seqP_skip (by first | rfl | simp) ?_
              simp only [Act.put, List.setIfInBounds_toArray, List.set_cons_zero, List.set_cons_succ]
              refine RX.seqP_skip (by first | rfl | simp) ?_
              simp only [Act.put, List.setIfInBounds_toArray, List.set_cons_zero, List.set_cons_succ]
              refine RX.seqP_skip (by first | rfl | simp) ?_
              simp only [Act.put, List.setIfInBounds_toArray, List.set_cons_zero, List.set_cons_succ]
              refine RX.seqP_skip (by first | rfl | simp) ?_
              simp only [Act.put, List.setIfInBounds_toArray, List.set_cons_zero, List.set_cons_succ]
              refine RX.seqP_skip (by first | rfl | simp) ?_
              simp only [Act.put, List.setIfInBounds_toArray, List.set_cons_zero, List.set_cons_succ]
              refine RX.seqP_skip (by first | rfl | simp) ?_
              simp only [Act.put, List.setIfInBounds_toArray, List.set_cons_zero, List.set_cons_succ]
              refine RX.seqP_skip (by first | rfl | simp) ?_
              simp only [Act.put, List.setIfInBounds_toArray, List.set_cons_zero, List.set_cons_succ]
              refine RX.seqP_skip (by first | rfl | simp) ?_
              simp only [Act.put, List.setIfInBounds_toArray, List.set_cons_zero, List.set_cons_succ]
              refine RX.seqP_skip (by first | rfl | simp) ?_
              simp only [Act.put, List.setIfInBounds_toArray, List.set_cons_zero, List.set_cons_succ]
              refine RX.seqP_skip (by first | rfl | simp) ?_
              simp only [Act.put, List.setIfInBounds_toArray, List.set_cons_zero, List.set_cons_succ]
              refine RX.seqP_skip (by first | rfl | simp) ?_
              simp only [Act.put, List.setIfInBounds_toArray, List.set_cons_zero, List.set_cons_succ]
              refine RX.seqP_skip (by first | rfl | simp) ?_
              simp only [Act.put, List.setIfInBounds_toArray, List.set_cons_zero, List.set_cons_succ]
              refine RX.seqP_skip (by first | rfl | simp) ?_
              simp only [Act.put, List.setIfInBounds_toArray, List.set_cons_zero, List.set_cons_succ]
              refine RX.seqP_skip (by first | rfl | simp) ?_
              simp only [Act.put, List.setIfInBounds_toArray, List.set_cons_zero, List.set_cons_succ]
              refine RX.seqP_skip (by first | rfl | simp) ?_
              simp only [Act.put, List.setIfInBounds_toArray, List.set_cons_zero, List.set_cons_succ]
              refine RX.seqP_skip (by first | rfl | simp) ?_
              simp only [Act.put, List.setIfInBounds_toArray, List.set_cons_zero, List.set_cons_succ]
              refine RX.seqP_skip (by first | rfl | simp) ?_
              simp only [Act.put, List.setIfInBounds_toArray, List.set_cons_zero, List.set_cons_succ]
              refine RX.seqP_skip (by first | rfl | simp) ?_
              simp only [Act.put, List.setIfInBounds_toArray, List.set_cons_zero, List.set_cons_succ]
              refine RX.seqP_skip (by first | rfl | simp) ?_
              simp only [Act.put, List.setIfInBounds_toArray, List.set_cons_zero, List.set_cons_succ]
              refine RX.seqP_skip (by first | rfl | simp) ?_
              simp only [Act.put, List.setIfInBounds_toArray, List.set_cons_zero, List.set_cons_succ]
              refine RX.seqP_skip (by first | rfl | simp) ?_
              simp only [Act.put, List.setIfInBounds_toArray, List.set_cons_zero, List.set_cons_succ]
              refine RX.seqP_skip (by first | rfl | simp) ?_
              simp only [Act.put, List.setIfInBounds_toArray, List.set_cons_zero, List.set_cons_succ]
              refine RX.seqP_skip (by first | rfl | simp) ?_
              simp only [Act.put, List.setIfInBounds_toArray, List.set_cons_zero, List.set_cons_succ]
              refine RX.seqP_skip (by first | rfl | simp) ?_
              simp only [Act.put, List.setIfInBounds_toArray, List.set_cons_zero, List.set_cons_succ]
              refine RX.seqP_skip (by first | rfl | simp) ?_
              simp only [Act.put, List.setIfInBounds_toArray, List.set_cons_zero, List.set_cons_succ]
              refine RX.seqP_skip (by first | rfl | simp) ?_
              simp only [Act.put, List.setIfInBounds_toArray, List.set_cons_zero, List.set_cons_succ]
              refine RX.seqP_skip (by first | rfl | simp) ?_
              simp only [Act.put, List.setIfInBounds_toArray, List.set_cons_zero, List.set_cons_succ]
              refine RX.seqP_value (fun _ => Below.refl _ _) _ (by first | rfl | simp) (fun w' hw' hctx => by (go_simp); (try first | with_reducible rfl | simp)) ?_
              simp only [Act.put, List.setIfInBounds_toArray, List.set_cons_zero, List.set_cons_succ]
              refine RX.seqP_value (fun _ => Below.refl _ _) _ (by first | rfl | simp) (fun w' hw' hctx => by (go_simp); (try first | with_reducible rfl | simp)) ?_
              simp only [Act.put, List.setIfInBounds_toArray, List.set_cons_zero, List.set_cons_succ]
              refine RX.seqP_value (fun _ => Below.refl _ _) _ (by first | rfl | simp) (fun w' hw' hctx => by (go_simp); (try first | with_reducible rfl | simp)) ?_
              simp only [Act.put, List.setIfInBounds_toArray, List.set_cons_zero, List.set_cons_succ]
              refine RX.seqP_value (fun _ => Below.refl _ _) _ (by first | rfl | simp) (fun w' hw' hctx => by (go_simp); (try first | with_reducible rfl | simp)) ?_
              simp only [Act.put, List.setIfInBounds_toArray, List.set_cons_zero, List.set_cons_succ]
              refine RX.seqP_value (fun _ => Below.refl _ _) _ (by first | rfl | simp) (fun w' hw' hctx => by (go_simp); (try first | with_reducible rfl | simp)) ?_
              simp only [Act.put, List.setIfInBounds_toArray, List.set_cons_zero, List.set_cons_succ]
              refine RX.seqP_skip (by first | rfl | simp) ?_
              simp only [Act.put, List.setIfInBounds_toArray, List.set_cons_zero, List.set_cons_succ]
              refine RX.seqP_skip (by first | rfl | simp) ?_
              simp only [Act.put, List.setIfInBounds_toArray, List.set_cons_zero, List.set_cons_succ]
              refine RX.seqP_skip (by first | rfl | simp) ?_
              simp only [Act.put, List.setIfInBounds_toArray, List.set_cons_zero, List.set_cons_succ]
              refine RX.seqP_value (fun _ => Below.refl _ _) _ (by first | rfl | simp) (fun w' hw' hctx => by (go_simp); (try first | with_reducible rfl | simp)) ?_
              simp only [Act.put, List.setIfInBounds_toArray, List.set_cons_zero, List.set_cons_succ]
              refine RX.seqP_value (fun _ => Below.refl _ _) _ (by first | rfl | simp) (fun w' hw' hctx => by (go_simp); (try first | with_reducible rfl | simp)) ?_
              simp only [Act.put, List.setIfInBounds_toArray, List.set_cons_zero, List.set_cons_succ]
              refine RX.seqP_nil (fun v2 hR hctx _ => ?_)
              have hb5 := below_tr hdr hR
              clear hctx hR
              have HB5 := Lib.hid (below_tr HB2.out (below_tr HV1.out hb5))
              clear hb5 hdr HV1 HL1 HL2
              go_wp2_with fail
              go_roundg (n - (k + 1))
              case measure => omega
              case rel => exact ⟨k + 1, by have hsm0 := HSM0.out; rw [show wrap64 ((k : Int) + 1) = (k : Int) + 1 from wr0 (by omega)]; exact congrArg (Value.int .i64) (by omega), by omega, Nat.le_refl _, HB5⟩
            · have HVE : Hid ((ve != 0) = true) := Lib.hid (by simpa using hv0)
              have heq := HEQ.out hv0
              obtain ⟨_, e2, e3⟩ := heq
              subst e2
              subst e3
              clear hv0
              have hdr := below_drw v1
              try simp only [List.append_eq, List.cons_append, List.nil_append]
              refine RX.wp_region_plan (fun w w' => Below w.heap.size w w') [.it (.pointer (some ⟨b1, 0, none⟩)), .it (.int .u8 2), .it (.bool true), .it (.bool true), .it (.pointer (some ⟨b2, 0, none⟩)), .it (.int .u8 2), .it (.bool false), .it (.bool false), .it (.bool false), .it undef, .it undef, .it undef, .it undef, .it undef, .it undef, .it undef, .it undef, .it undef, .it undef, .it undef, .it undef, .it undef, .it undef, .it undef, .it undef, .it undef, .it undef, .it undef, .it undef, .it undef, .it undef, .it undef, .it undef, .it undef, .it undef, .it undef, .it undef, .it (.bool false), .it (.bool false), .it (.int .i64 ve), .it (.bool true), .it (.bool true), .it (seenV 2 tp 0 true), .it (seenV 2 tp 0 true), .it (.bool false), .it (.bool false), .it (.bool false)] (by kernel_rfl) (RX.plan_same stays17 (by kernel_rfl)) (fun _ => Below.refl _ _) (fun _ _ _ => below_tr) ?_
              refine RX.seqP_value (fun _ => Below.refl _ _) _ (by first | rfl | simp) (fun w' hw' hctx => by (go_simp); (try first | with_reducible rfl | simp)) ?_
              simp only [Act.put, List.setIfInBounds_toArray, List.set_cons_zero, List.set_cons_succ]
              refine RX.seqP_value (fun _ => Below.refl _ _) _ (by first | rfl | simp) (fun w' hw' hctx => ?_) ?_
              · have x0 := (HL1.out.below (below_tr hdr hw')).cell (o := 0) rfl
                have x1 := (HL1.out.below (below_tr hdr hw')).cell (o := 1) rfl
                have x2 := (HL1.out.below (below_tr hdr hw')).cell (o := 2) rfl
                have x3 := (HL1.out.below (below_tr hdr hw')).cell (o := 3) rfl
                have y0 := (HL2.out.below (below_tr hdr hw')).cell (o := 0) rfl
                have y1 := (HL2.out.below (below_tr hdr hw')).cell (o := 1) rfl
                have y2 := (HL2.out.below (below_tr hdr hw')).cell (o := 2) rfl
                have y3 := (HL2.out.below (below_tr hdr hw')).cell (o := 3) rfl
                go_simp
                try first | with_reducible rfl | simp
              simp only [Act.put, List.setIfInBounds_toArray, List.set_cons_zero, List.set_cons_succ]
              refine RX.seqP_value (fun _ => Below.refl _ _) _ (by first | rfl | simp) (fun w' hw' hctx => by (go_simp); (try first | with_reducible rfl | simp)) ?_
              simp only [Act.put, List.setIfInBounds_toArray, List.set_cons_zero, List.set_cons_succ]
              refine RX.seqP_value (fun _ => Below.refl _ _) _ (by first | rfl | simp) (fun w' hw' hctx => by (go_simp); (try first | with_reducible rfl | simp)) ?_
              simp only [Act.put, List.setIfInBounds_toArray, List.set_cons_zero, List.set_cons_succ]
              refine RX.seqP_value (fun _ => Below.refl _ _) _ (by first | rfl | simp) (fun w' hw' hctx => by (go_simp); (try first | with_reducible rfl | simp)) ?_
              simp only [Act.put, List.setIfInBounds_toArray, List.set_cons_zero, List.set_cons_succ]
              refine RX.seqP_value (fun _ => Below.refl _ _) _ (by first | rfl | simp) (fun w' hw' hctx => ?_) ?_
              · have x0 := (HL1.out.below (below_tr hdr hw')).cell (o := 0) rfl
                have x1 := (HL1.out.below (below_tr hdr hw')).cell (o := 1) rfl
                have x2 := (HL1.out.below (below_tr hdr hw')).cell (o := 2) rfl
                have x3 := (HL1.out.below (below_tr hdr hw')).cell (o := 3) rfl
                have y0 := (HL2.out.below (below_tr hdr hw')).cell (o := 0) rfl
                have y1 := (HL2.out.below (below_tr hdr hw')).cell (o := 1) rfl
                have y2 := (HL2.out.below (below_tr hdr hw')).cell (o := 2) rfl
                have y3 := (HL2.out.below (below_tr hdr hw')).cell (o := 3) rfl
                go_simp
                try first | with_reducible rfl | simp
              simp only [Act.put, List.setIfInBounds_toArray, List.set_cons_zero, List.set_cons_succ]
              refine RX.seqP_value (fun _ => Below.refl _ _) _ (by first | rfl | simp) (fun w' hw' hctx => by (go_simp); (try first | with_reducible rfl | simp)) ?_
              simp only [Act.put, List.setIfInBounds_toArray, List.set_cons_zero, List.set_cons_succ]
              refine RX.seqP_value (fun _ => Below.refl _ _) _ (by first | rfl | simp) (fun w' hw' hctx => by (go_simp); (try first | with_reducible rfl | simp)) ?_
              simp only [Act.put, List.setIfInBounds_toArray, List.set_cons_zero, List.set_cons_succ]
              refine RX.seqP_value (fun _ => Below.refl _ _) _ (by first | rfl | simp) (fun w' hw' hctx => by (go_simp); (try first | with_reducible rfl | simp)) ?_
              simp only [Act.put, List.setIfInBounds_toArray, List.set_cons_zero, List.set_cons_succ]
              refine RX.seqP_skip (by first | rfl | simp) ?_
              simp only [Act.put, List.setIfInBounds_toArray, List.set_cons_zero, List.set_cons_succ]
              refine RX.seqP_skip (by first | rfl | simp) ?_
              simp only [Act.put, List.setIfInBounds_toArray, List.set_cons_zero, List.set_cons_succ]
              refine RX.seqP_skip (by first | rfl | simp) ?_
              simp only [Act.put, List.setIfInBounds_toArray, List.set_cons_zero, List.set_cons_succ]
              refine RX.seqP_skip (by first | rfl | simp) ?_
              simp only [Act.put, List.setIfInBounds_toArray, List.set_cons_zero, List.set_cons_succ]
              refine RX.seqP_skip (by first | rfl | simp) ?_
              simp only [Act.put, List.setIfInBounds_toArray, List.set_cons_zero, List.set_cons_succ]
              refine RX.seqP_skip (by first | rfl | simp) ?_
              simp only [Act.put, List.setIfInBounds_toArray, List.set_cons_zero, List.set_cons_succ]
              refine RX.seqP_skip (by first | rfl | simp) ?_
              simp only [Act.put, List.setIfInBounds_toArray, List.set_cons_zero, List.set_cons_succ]
              refine RX.seqP_skip (by first | rfl | simp) ?_
              simp only [Act.put, List.setIfInBounds_toArray, List.set_cons_zero, List.set_cons_succ]
              refine RX.seqP_skip (by first | rfl | simp) ?_
              simp only [Act.put, List.setIfInBounds_toArray, List.set_cons_zero, List.set_cons_succ]
              refine RX.seqP_skip (by first | rfl | simp) ?_
              simp only [Act.put, List.setIfInBounds_toArray, List.set_cons_zero, List.set_cons_succ]
              refine RX.seqP_skip (by first | rfl | simp) ?_
              simp only [Act.put, List.setIfInBounds_toArray, List.set_cons_zero, List.set_cons_succ]
              refine RX.seqP_skip (by first | rfl | simp) ?_
              simp only [Act.put, List.setIfInBounds_toArray, List.set_cons_zero, List.set_cons_succ]
              refine RX.seqP_skip (by first | rfl | simp) ?_
              simp only [Act.put, List.setIfInBounds_toArray, List.set_cons_zero, List.set_cons_succ]
              refine RX.seqP_skip (by first | rfl | simp) ?_
              simp only [Act.put, List.setIfInBounds_toArray, List.set_cons_zero, List.set_cons_succ]
              refine RX.seqP_skip (by first | rfl | simp) ?_
              simp only [Act.put, List.setIfInBounds_toArray, List.set_cons_zero, List.set_cons_succ]
              refine RX.seqP_skip (by first | rfl | simp) ?_
              simp only [Act.put, List.setIfInBounds_toArray, List.set_cons_zero, List.set_cons_succ]
              refine RX.seqP_skip (by first | rfl | simp) ?_
              simp only [Act.put, List.setIfInBounds_toArray, List.set_cons_zero, List.set_cons_succ]
              refine RX.seqP_skip (by first | rfl | simp) ?_
              simp only [Act.put, List.setIfInBounds_toArray, List.set_cons_zero, List.set_cons_succ]
              refine RX.seqP_skip (by first | rfl | simp) ?_
              simp only [Act.put, List.setIfInBounds_toArray, List.set_cons_zero, List.set_cons_succ]
              refine RX.seqP_skip (by first | rfl | simp) ?_
              simp only [Act.put, List.setIfInBounds_toArray, List.set_cons_zero, List.set_cons_succ]
              refine RX.seqP_skip (by first | rfl | simp) ?_
              simp only [Act.put, List.setIfInBounds_toArray, List.set_cons_zero, List.set_cons_succ]
              refine RX.seqP_skip (by first | rfl | simp) ?_
              simp only [Act.put, List.setIfInBounds_toArray, List.set_cons_zero, List.set_cons_succ]
              refine RX.seqP_skip (by first | rfl | simp) ?_
              simp only [Act.put, List.setIfInBounds_toArray, List.set_cons_zero, List.set_cons_succ]
              refine RX.seqP_skip (by first | rfl | simp) ?_
              simp only [Act.put, List.setIfInBounds_toArray, List.set_cons_zero, List.set_cons_succ]
              refine RX.seqP_skip (by first | rfl | simp) ?_
              simp only [Act.put, List.setIfInBounds_toArray, List.set_cons_zero, List.set_cons_succ]
              refine RX.seqP_skip (by first | rfl | simp) ?_
              simp only [Act.put, List.setIfInBounds_toArray, List.set_cons_zero, List.set_cons_succ]
              refine RX.seqP_skip (by first | rfl | simp) ?_
              simp only [Act.put, List.setIfInBounds_toArray, List.set_cons_zero, List.set_cons_succ]
              refine RX.seqP_skip (by first | rfl | simp) ?_
              simp only [Act.put, List.setIfInBounds_toArray, List.set_cons_zero, List.set_cons_succ]
              refine RX.seqP_value (fun _ => Below.refl _ _) _ (by first | rfl | simp) (fun w' hw' hctx => by (go_simp); (try first | with_reducible rfl | simp)) ?_
              simp only [Act.put, List.setIfInBounds_toArray, List.set_cons_zero, List.set_cons_succ]
              refine RX.seqP_value (fun _ => Below.refl _ _) _ (by first | rfl | simp) (fun w' hw' hctx => by (go_simp); (try first | with_reducible rfl | simp)) ?_
              simp only [Act.put, List.setIfInBounds_toArray, List.set_cons_zero, List.set_cons_succ]
              refine RX.seqP_value (fun _ => Below.refl _ _) _ (by first | rfl | simp) (fun w' hw' hctx => by (go_simp); (try first | with_reducible rfl | simp)) ?_
              simp only [Act.put, List.setIfInBounds_toArray, List.set_cons_zero, List.set_cons_succ]
              refine RX.seqP_value (fun _ => Below.refl _ _) _ (by first | rfl | simp) (fun w' hw' hctx => ?_) ?_
              · have hve : (ve != 0) = true := HVE.out
                go_simp
                try first | with_reducible rfl | simp
              simp only [Act.put, List.setIfInBounds_toArray, List.set_cons_zero, List.set_cons_succ]
              refine RX.seqP_value (fun _ => Below.refl _ _) _ (by first | rfl | simp) (fun w' hw' hctx => by (go_simp); (try first | with_reducible rfl | simp)) ?_
              simp only [Act.put, List.setIfInBounds_toArray, List.set_cons_zero, List.set_cons_succ]
              refine RX.seqP_value (fun _ => Below.refl _ _) _ (by first | rfl | simp) (fun w' hw' hctx => ?_) ?_
              · have x0 := (HL1.out.below (below_tr hdr hw')).cell (o := 0) rfl
                have x1 := (HL1.out.below (below_tr hdr hw')).cell (o := 1) rfl
                have x2 := (HL1.out.below (below_tr hdr hw')).cell (o := 2) rfl
                have x3 := (HL1.out.below (below_tr hdr hw')).cell (o := 3) rfl
                have y0 := (HL2.out.below (below_tr hdr hw')).cell (o := 0) rfl
                have y1 := (HL2.out.below (below_tr hdr hw')).cell (o := 1) rfl
                have y2 := (HL2.out.below (below_tr hdr hw')).cell (o := 2) rfl
                have y3 := (HL2.out.below (below_tr hdr hw')).cell (o := 3) rfl
                unfold seenV
                go_simp
                try first | with_reducible rfl | simp
              simp only [Act.put, List.setIfInBounds_toArray, List.set_cons_zero, List.set_cons_succ]
              refine RX.seqP_value (fun _ => Below.refl _ _) _ (by first | rfl | simp) (fun w' hw' hctx => ?_) ?_
              · have x0 := (HL1.out.below (below_tr hdr hw')).cell (o := 0) rfl
                have x1 := (HL1.out.below (below_tr hdr hw')).cell (o := 1) rfl
                have x2 := (HL1.out.below (below_tr hdr hw')).cell (o := 2) rfl
                have x3 := (HL1.out.below (below_tr hdr hw')).cell (o := 3) rfl
                have y0 := (HL2.out.below (below_tr hdr hw')).cell (o := 0) rfl
                have y1 := (HL2.out.below (below_tr hdr hw')).cell (o := 1) rfl
                have y2 := (HL2.out.below (below_tr hdr hw')).cell (o := 2) rfl
                have y3 := (HL2.out.below (below_tr hdr hw')).cell (o := 3) rfl
                unfold seenV
                go_simp
                try first | with_reducible rfl | simp
              simp only [Act.put, List.setIfInBounds_toArray, List.set_cons_zero, List.set_cons_succ]
              refine RX.seqP_value (fun _ => Below.refl _ _) _ (by first | rfl | simp) (fun w' hw' hctx => ?_) ?_
              · have hne := neq_seen 2 tp 0 true w'
                unfold seenV
                go_simp
                try first | with_reducible rfl | simp
              simp only [Act.put, List.setIfInBounds_toArray, List.set_cons_zero, List.set_cons_succ]
              refine RX.seqP_value (fun _ => Below.refl _ _) _ (by first | rfl | simp) (fun w' hw' hctx => by (go_simp); (try first | with_reducible rfl | simp)) ?_
              simp only [Act.put, List.setIfInBounds_toArray, List.set_cons_zero, List.set_cons_succ]
              refine RX.seqP_value (fun _ => Below.refl _ _) _ (by first | rfl | simp) (fun w' hw' hctx => by (go_simp); (try first | with_reducible rfl | simp)) ?_
              simp only [Act.put, List.setIfInBounds_toArray, List.set_cons_zero, List.set_cons_succ]
              refine RX.seqP_nil (fun v2 hR hctx _ => ?_)
              have hb5 := below_tr hdr hR
              clear hctx hR
              have HB5 := Lib.hid (below_tr HB2.out (below_tr HV1.out hb5))
              clear hb5 hdr HV1 HL1 HL2
              go_wp2_with fail
              go_roundg (n - (k + 1))
              case measure => omega
              case rel => exact ⟨k + 1, by have hsm0 := HSM0.out; rw [show wrap64 ((k : Int) + 1) = (k : Int) + 1 from wr0 (by omega)]; exact congrArg (Value.int .i64) (by omega), by omega, Nat.le_refl _, HB5⟩
          · subst h1
            subst h2
            obtain rfl : na = nb := h4.symm
            subst h5
            have hnz : ¬ na = 0 := h3
            have hnzb : (na != 0) = true := by simpa using h3
            clear h3
            have x0 := HL1.out.cell (o := 0) rfl
            have x1 := HL1.out.cell (o := 1) rfl
            have x2 := HL1.out.cell (o := 2) rfl
            have x3 := HL1.out.cell (o := 3) rfl
            have y0 := HL2.out.cell (o := 0) rfl
            have y1 := HL2.out.cell (o := 1) rfl
            have y2 := HL2.out.cell (o := 2) rfl
            have y3 := HL2.out.cell (o := 3) rfl
            have xl := HL1.out.lt
            have yl := HL2.out.lt
            go_upto_region 17 with (fail)
            clear x0 x1 x2 x3 y0 y1 y2 y3 xl yl HCS
            by_cases hv0 : ve = 0
            · subst hv0
              have hdr := below_drw v1
              try simp only [List.append_eq, List.cons_append, List.nil_append]
              refine RX.wp_region_plan (fun w w' => Below w.heap.size w w') [.it (.pointer (some ⟨b1, 0, none⟩)), .it (.int .u8 2), .it (.bool true), .it (.bool true), .it (.pointer (some ⟨b2, 0, none⟩)), .it (.int .u8 2), .it (.bool false), .it (.bool false), .it (.bool false), .it undef, .it undef, .it undef, .it undef, .it undef, .it undef, .it undef, .it undef, .it undef, .it undef, .it undef, .it undef, .it undef, .it undef, .it undef, .it undef, .it undef, .it undef, .it undef, .it undef, .it undef, .it undef, .it undef, .it undef, .it undef, .it undef, .it undef, .it undef, .it (.bool false), .it (.bool false), .it (.int .i64 0), .it (.bool false), .it (.bool false), .it undef, .it undef, .it undef, .it (.bool false), .it (.bool false)] (by kernel_rfl) (RX.plan_same stays17 (by kernel_rfl)) (fun _ => Below.refl _ _) (fun _ _ _ => below_tr) ?_
              refine RX.seqP_value (fun _ => Below.refl _ _) _ (by first | rfl | simp) (fun w' hw' hctx => by (go_simp); (try first | with_reducible rfl | simp)) ?_
              simp only [Act.put, List.setIfInBounds_toArray, List.set_cons_zero, List.set_cons_succ]
              refine RX.seqP_value (fun _ => Below.refl _ _) _ (by first | rfl | simp) (fun w' hw' hctx => ?_) ?_
              · have x0 := (HL1.out.below (below_tr hdr hw')).cell (o := 0) rfl
                have x1 := (HL1.out.below (below_tr hdr hw')).cell (o := 1) rfl
                have x2 := (HL1.out.below (below_tr hdr hw')).cell (o := 2) rfl
                have x3 := (HL1.out.below (below_tr hdr hw')).cell (o := 3) rfl
                have y0 := (HL2.out.below (below_tr hdr hw')).cell (o := 0) rfl
                have y1 := (HL2.out.below (below_tr hdr hw')).cell (o := 1) rfl
                have y2 := (HL2.out.below (below_tr hdr hw')).cell (o := 2) rfl
                have y3 := (HL2.out.below (below_tr hdr hw')).cell (o := 3) rfl
                go_simp
                try first | with_reducible rfl | simp
              simp only [Act.put, List.setIfInBounds_toArray, List.set_cons_zero, List.set_cons_succ]
              refine RX.seqP_value (fun _ => Below.refl _ _) _ (by first | rfl | simp) (fun w' hw' hctx => by (go_simp); (try first | with_reducible rfl | simp)) ?_
              simp only [Act.put, List.setIfInBounds_toArray, List.set_cons_zero, List.set_cons_succ]
              refine RX.seqP_value (fun _ => Below.refl _ _) _ (by first | rfl | simp) (fun w' hw' hctx => by (go_simp); (try first | with_reducible rfl | simp)) ?_
              simp only [Act.put, List.setIfInBounds_toArray, List.set_cons_zero, List.set_cons_succ]
              refine RX.seqP_value (fun _ => Below.refl _ _) _ (by first | rfl | simp) (fun w' hw' hctx => by (go_simp); (try first | with_reducible rfl | simp)) ?_
              simp only [Act.put, List.setIfInBounds_toArray, List.set_cons_zero, List.set_cons_succ]
              refine RX.seqP_value (fun _ => Below.refl _ _) _ (by first | rfl | simp) (fun w' hw' hctx => ?_) ?_
              · have x0 := (HL1.out.below (below_tr hdr hw')).cell (o := 0) rfl
                have x1 := (HL1.out.below (below_tr hdr hw')).cell (o := 1) rfl
                have x2 := (HL1.out.below (below_tr hdr hw')).cell (o := 2) rfl
                have x3 := (HL1.out.below (below_tr hdr hw')).cell (o := 3) rfl
                have y0 := (HL2.out.below (below_tr hdr hw')).cell (o := 0) rfl
                have y1 := (HL2.out.below (below_tr hdr hw')).cell (o := 1) rfl
                have y2 := (HL2.out.below (below_tr hdr hw')).cell (o := 2) rfl
                have y3 := (HL2.out.below (below_tr hdr hw')).cell (o := 3) rfl
                go_simp
                try first | with_reducible rfl | simp
              simp only [Act.put, List.setIfInBounds_toArray, List.set_cons_zero, List.set_cons_succ]
              refine RX.seqP_value (fun _ => Below.refl _ _) _ (by first | rfl | simp) (fun w' hw' hctx => by (go_simp); (try first | with_reducible rfl | simp)) ?_
              simp only [Act.put, List.setIfInBounds_toArray, List.set_cons_zero, List.set_cons_succ]
              refine RX.seqP_value (fun _ => Below.refl _ _) _ (by first | rfl | simp) (fun w' hw' hctx => by (go_simp); (try first | with_reducible rfl | simp)) ?_
              simp only [Act.put, List.setIfInBounds_toArray, List.set_cons_zero, List.set_cons_succ]
              refine RX.seqP_value (fun _ => Below.refl _ _) _ (by first | rfl | simp) (fun w' hw' hctx => by (go_simp); (try first | with_reducible rfl | simp)) ?_
              simp only [Act.put, List.setIfInBounds_toArray, List.set_cons_zero, List.set_cons_succ]
              refine RX.seqP_skip (by first | rfl | simp) ?_
              simp only [Act.put, List.setIfInBounds_toArray, List.set_cons_zero, List.set_cons_succ]
              refine RX.seqP_skip (by first | rfl | simp) ?_
              simp only [Act.put, List.setIfInBounds_toArray, List.set_cons_zero, List.set_cons_succ]
              refine RX.seqP_skip (by first | rfl | simp) ?_
              simp only [Act.put, List.setIfInBounds_toArray, List.set_cons_zero, List.set_cons_succ]
              refine RX.seqP_skip (by first | rfl | simp) ?_
              simp only [Act.put, List.setIfInBounds_toArray, List.set_cons_zero, List.set_cons_succ]
              refine RX.seqP_skip (by first | rfl | simp) ?_
              simp only [Act.put, List.setIfInBounds_toArray, List.set_cons_zero, List.set_cons_succ]
              refine RX.seqP_skip (by first | rfl | simp) ?_
              simp only [Act.put, List.setIfInBounds_toArray, List.set_cons_zero, List.set_cons_succ]
              refine RX.seqP_skip (by first | rfl | simp) ?_
              simp only [Act.put, List.setIfInBounds_toArray, List.set_cons_zero, List.set_cons_succ]
              refine RX.seqP_skip (by first | rfl | simp) ?_
              simp only [Act.put, List.setIfInBounds_toArray, List.set_cons_zero, List.set_cons_succ]
              refine RX.seqP_skip (by first | rfl | simp) ?_
              simp only [Act.put, List.setIfInBounds_toArray, List.set_cons_zero, List.set_cons_succ]
              refine RX.seqP_skip (by first | rfl | simp) ?_
              simp only [Act.put, List.setIfInBounds_toArray, List.set_cons_zero, List.set_cons_succ]
              refine RX.seqP_skip (by first | rfl | simp) ?_
              simp only [Act.put, List.setIfInBounds_toArray, List.set_cons_zero, List.set_cons_succ]
              refine RX.seqP_skip (by first | rfl | simp) ?_
              simp only [Act.put, List.setIfInBounds_toArray, List.set_cons_zero, List.set_cons_succ]
              refine RX.seqP_skip (by first | rfl | simp) ?_
              simp only [Act.put, List.setIfInBounds_toArray, List.set_cons_zero, List.set_cons_succ]
              refine RX.seqP_skip (by first | rfl | simp) ?_
              simp only [Act.put, List.setIfInBounds_toArray, List.set_cons_zero, List.set_cons_succ]
              refine RX.seqP_skip (by first | rfl | simp) ?_
              simp only [Act.put, List.setIfInBounds_toArray, List.set_cons_zero, List.set_cons_succ]
              refine RX.seqP_skip (by first | rfl | simp) ?_
              simp only [Act.put, List.setIfInBounds_toArray, List.set_cons_zero, List.set_cons_succ]
              refine RX.seqP_skip (by first | rfl | simp) ?_
              simp only [Act.put, List.setIfInBounds_toArray, List.set_cons_zero, List.set_cons_succ]
              refine RX.seqP_skip (by first | rfl | simp) ?_
              simp only [Act.put, List.setIfInBounds_toArray, List.set_cons_zero, List.set_cons_succ]
              refine RX.seqP_skip (by first | rfl | simp) ?_
              simp only [Act.put, List.setIfInBounds_toArray, List.set_cons_zero, List.set_cons_succ]
              refine RX.seqP_skip (by first | rfl | simp) ?_
              simp only [Act.put, List.setIfInBounds_toArray, List.set_cons_zero, List.set_cons_succ]
              refine RX.seqP_skip (by first | rfl | simp) ?_
              simp only [Act.put, List.setIfInBounds_toArray, List.set_cons_zero, List.set_cons_succ]
              refine RX.seqP_skip (by first | rfl | simp) ?_
              simp only [Act.put, List.setIfInBounds_toArray, List.set_cons_zero, List.set_cons_succ]
              refine RX.seqP_skip (by first | rfl | simp) ?_
              simp only [Act.put, List.setIfInBounds_toArray, List.set_cons_zero, List.set_cons_succ]
              refine RX.seqP_skip (by first | rfl | simp) ?_
              simp only [Act.put, List.setIfInBounds_toArray, List.set_cons_zero, List.set_cons_succ]
              refine RX.seqP_skip (by first | rfl | simp) ?_
              simp only [Act.put, List.setIfInBounds_toArray, List.set_cons_zero, List.set_cons_succ]
              refine RX.seqP_skip (by first | rfl | simp) ?_
              simp only [Act.put, List.setIfInBounds_toArray, List.set_cons_zero, List.set_cons_succ]
              refine RX.seqP_skip (by first | rfl | simp) ?_
              simp only [Act.put, List.setIfInBounds_toArray, List.set_cons_zero, List.set_cons_succ]
              refine RX.seqP_skip (by first | rfl | simp) ?_
              simp only [Act.put, List.setIfInBounds_toArray, List.set_cons_zero, List.set_cons_succ]
              refine RX.seqP_value (fun _ => Below.refl _ _) _ (by first | rfl | simp) (fun w' hw' hctx => by (go_simp); (try first | with_reducible rfl | simp)) ?_
              simp only [Act.put, List.setIfInBounds_toArray, List.set_cons_zero, List.set_cons_succ]
              refine RX.seqP_value (fun _ => Below.refl _ _) _ (by first | rfl | simp) (fun w' hw' hctx => by (go_simp); (try first | with_reducible rfl | simp)) ?_
              simp only [Act.put, List.setIfInBounds_toArray, List.set_cons_zero, List.set_cons_succ]
              refine RX.seqP_value (fun _ => Below.refl _ _) _ (by first | rfl | simp) (fun w' hw' hctx => by (go_simp); (try first | with_reducible rfl | simp)) ?_
              simp only [Act.put, List.setIfInBounds_toArray, List.set_cons_zero, List.set_cons_succ]
              refine RX.seqP_value (fun _ => Below.refl _ _) _ (by first | rfl | simp) (fun w' hw' hctx => by (go_simp); (try first | with_reducible rfl | simp)) ?_
              simp only [Act.put, List.setIfInBounds_toArray, List.set_cons_zero, List.set_cons_succ]
              refine RX.seqP_value (fun _ => Below.refl _ _) _ (by first | rfl | simp) (fun w' hw' hctx => by (go_simp); (try first | with_reducible rfl | simp)) ?_
              simp only [Act.put, List.setIfInBounds_toArray, List.set_cons_zero, List.set_cons_succ]
              refine RX.seqP_skip (by first | rfl | simp) ?_
              simp only [Act.put, List.setIfInBounds_toArray, List.set_cons_zero, List.set_cons_succ]
              refine RX.seqP_skip (by first | rfl | simp) ?_
              simp only [Act.put, List.setIfInBounds_toArray, List.set_cons_zero, List.set_cons_succ]
              refine RX.seqP_skip (by first | rfl | simp) ?_
              simp only [Act.put, List.setIfInBounds_toArray, List.set_cons_zero, List.set_cons_succ]
              refine RX.seqP_value (fun _ => Below.refl _ _) _ (by first | rfl | simp) (fun w' hw' hctx => by (go_simp); (try first | with_reducible rfl | simp)) ?_
              simp only [Act.put, List.setIfInBounds_toArray, List.set_cons_zero, List.set_cons_succ]
              refine RX.seqP_value (fun _ => Below.refl _ _) _ (by first | rfl | simp) (fun w' hw' hctx => by (go_simp); (try first | with_reducible rfl | simp)) ?_
              simp only [Act.put, List.setIfInBounds_toArray, List.set_cons_zero, List.set_cons_succ]
              refine RX.seqP_nil (fun v2 hR hctx _ => ?_)
              have hb5 := below_tr hdr hR
              clear hctx hR
              have HB5 := Lib.hid (below_tr HB2.out (below_tr HV1.out hb5))
              clear hb5 hdr HV1 HL1 HL2
              go_wp2_with fail
              go_roundg (n - (k + 1))
              case measure => omega
              case rel => exact ⟨k + 1, by have hsm0 := HSM0.out; rw [show wrap64 ((k : Int) + 1) = (k : Int) + 1 from wr0 (by omega)]; exact congrArg (Value.int .i64) (by omega), by omega, Nat.le_refl _, HB5⟩
            · have HVE : Hid ((ve != 0) = true) := Lib.hid (by simpa using hv0)
              have heq := HEQ.out hv0
              obtain ⟨_, _, e3⟩ := heq
              subst e3
              clear hv0
              have hdr := below_drw v1
              try simp only [List.append_eq, List.cons_append, List.nil_append]
              refine RX.wp_region_plan (fun w w' => Below w.heap.size w w') [.it (.pointer (some ⟨b1, 0, none⟩)), .it (.int .u8 2), .it (.bool true), .it (.bool true), .it (.pointer (some ⟨b2, 0, none⟩)), .it (.int .u8 2), .it (.bool false), .it (.bool false), .it (.bool false), .it undef, .it undef, .it undef, .it undef, .it undef, .it undef, .it undef, .it undef, .it undef, .it undef, .it undef, .it undef, .it undef, .it undef, .it undef, .it undef, .it undef, .it undef, .it undef, .it undef, .it undef, .it undef, .it undef, .it undef, .it undef, .it undef, .it undef, .it undef, .it (.bool false), .it (.bool false), .it (.int .i64 ve), .it (.bool true), .it (.bool true), .it (seenV 2 tp na true), .it (seenV 2 tp na true), .it (.bool false), .it (.bool false), .it (.bool false)] (by kernel_rfl) (RX.plan_same stays17 (by kernel_rfl)) (fun _ => Below.refl _ _) (fun _ _ _ => below_tr) ?_
              refine RX.seqP_value (fun _ => Below.refl _ _) _ (by first | rfl | simp) (fun w' hw' hctx => by (go_simp); (try first | with_reducible rfl | simp)) ?_
              simp only [Act.put, List.setIfInBounds_toArray, List.set_cons_zero, List.set_cons_succ]
              refine RX.seqP_value (fun _ => Below.refl _ _) _ (by first | rfl | simp) (fun w' hw' hctx => ?_) ?_
              · have x0 := (HL1.out.below (below_tr hdr hw')).cell (o := 0) rfl
                have x1 := (HL1.out.below (below_tr hdr hw')).cell (o := 1) rfl
                have x2 := (HL1.out.below (below_tr hdr hw')).cell (o := 2) rfl
                have x3 := (HL1.out.below (below_tr hdr hw')).cell (o := 3) rfl
                have y0 := (HL2.out.below (below_tr hdr hw')).cell (o := 0) rfl
                have y1 := (HL2.out.below (below_tr hdr hw')).cell (o := 1) rfl
                have y2 := (HL2.out.below (below_tr hdr hw')).cell (o := 2) rfl
                have y3 := (HL2.out.below (below_tr hdr hw')).cell (o := 3) rfl
                go_simp
                try first | with_reducible rfl | simp
              simp only [Act.put, List.setIfInBounds_toArray, List.set_cons_zero, List.set_cons_succ]
              refine RX.seqP_value (fun _ => Below.refl _ _) _ (by first | rfl | simp) (fun w' hw' hctx => by (go_simp); (try first | with_reducible rfl | simp)) ?_
              simp only [Act.put, List.setIfInBounds_toArray, List.set_cons_zero, List.set_cons_succ]
              refine RX.seqP_value (fun _ => Below.refl _ _) _ (by first | rfl | simp) (fun w' hw' hctx => by (go_simp); (try first | with_reducible rfl | simp)) ?_
              simp only [Act.put, List.setIfInBounds_toArray, List.set_cons_zero, List.set_cons_succ]
              refine RX.seqP_value (fun _ => Below.refl _ _) _ (by first | rfl | simp) (fun w' hw' hctx => by (go_simp); (try first | with_reducible rfl | simp)) ?_
              simp only [Act.put, List.setIfInBounds_toArray, List.set_cons_zero, List.set_cons_succ]
              refine RX.seqP_value (fun _ => Below.refl _ _) _ (by first | rfl | simp) (fun w' hw' hctx => ?_) ?_
              · have x0 := (HL1.out.below (below_tr hdr hw')).cell (o := 0) rfl
                have x1 := (HL1.out.below (below_tr hdr hw')).cell (o := 1) rfl
                have x2 := (HL1.out.below (below_tr hdr hw')).cell (o := 2) rfl
                have x3 := (HL1.out.below (below_tr hdr hw')).cell (o := 3) rfl
                have y0 := (HL2.out.below (below_tr hdr hw')).cell (o := 0) rfl
                have y1 := (HL2.out.below (below_tr hdr hw')).cell (o := 1) rfl
                have y2 := (HL2.out.below (below_tr hdr hw')).cell (o := 2) rfl
                have y3 := (HL2.out.below (below_tr hdr hw')).cell (o := 3) rfl
                go_simp
                try first | with_reducible rfl | simp
              simp only [Act.put, List.setIfInBounds_toArray, List.set_cons_zero, List.set_cons_succ]
              refine RX.seqP_value (fun _ => Below.refl _ _) _ (by first | rfl | simp) (fun w' hw' hctx => by (go_simp); (try first | with_reducible rfl | simp)) ?_
              simp only [Act.put, List.setIfInBounds_toArray, List.set_cons_zero, List.set_cons_succ]
              refine RX.seqP_value (fun _ => Below.refl _ _) _ (by first | rfl | simp) (fun w' hw' hctx => by (go_simp); (try first | with_reducible rfl | simp)) ?_
              simp only [Act.put, List.setIfInBounds_toArray, List.set_cons_zero, List.set_cons_succ]
              refine RX.seqP_value (fun _ => Below.refl _ _) _ (by first | rfl | simp) (fun w' hw' hctx => by (go_simp); (try first | with_reducible rfl | simp)) ?_
              simp only [Act.put, List.setIfInBounds_toArray, List.set_cons_zero, List.set_cons_succ]
              refine RX.seqP_skip (by first | rfl | simp) ?_
              simp only [Act.put, List.setIfInBounds_toArray, List.set_cons_zero, List.set_cons_succ]
              refine RX.seqP_skip (by first | rfl | simp) ?_
              simp only [Act.put, List.setIfInBounds_toArray, List.set_cons_zero, List.set_cons_succ]
              refine RX.seqP_skip (by first | rfl | simp) ?_
              simp only [Act.put, List.setIfInBounds_toArray, List.set_cons_zero, List.set_cons_succ]
              refine RX.seqP_skip (by first | rfl | simp) ?_
              simp only [Act.put, List.setIfInBounds_toArray, List.set_cons_zero, List.set_cons_succ]
              refine RX.seqP_skip (by first | rfl | simp) ?_
              simp only [Act.put, List.setIfInBounds_toArray, List.set_cons_zero, List.set_cons_succ]
              refine RX.seqP_skip (by first | rfl | simp) ?_
              simp only [Act.put, List.setIfInBounds_toArray, List.set_cons_zero, List.set_cons_succ]
              refine RX.seqP_skip (by first | rfl | simp) ?_
              simp only [Act.put, List.setIfInBounds_toArray, List.set_cons_zero, List.set_cons_succ]
              refine RX.seqP_skip (by first | rfl | simp) ?_
              simp only [Act.put, List.setIfInBounds_toArray, List.set_cons_zero, List.set_cons_succ]
              refine RX.seqP_skip (by first | rfl | simp) ?_
              simp only [Act.put, List.setIfInBounds_toArray, List.set_cons_zero, List.set_cons_succ]
              refine RX.seqP_skip (by first | rfl | simp) ?_
              simp only [Act.put, List.setIfInBounds_toArray, List.set_cons_zero, List.set_cons_succ]
              refine RX.seqP_skip (by first | rfl | simp) ?_
              simp only [Act.put, List.setIfInBounds_toArray, List.set_cons_zero, List.set_cons_succ]
              refine RX.seqP_skip (by first | rfl | simp) ?_
              simp only [Act.put, List.setIfInBounds_toArray, List.set_cons_zero, List.set_cons_succ]
              refine RX.seqP_skip (by first | rfl | simp) ?_
              simp only [Act.put, List.setIfInBounds_toArray, List.set_cons_zero, List.set_cons_succ]
              refine RX.seqP_skip (by first | rfl | simp) ?_
              simp only [Act.put, List.setIfInBounds_toArray, List.set_cons_zero, List.set_cons_succ]
              refine RX.seqP_skip (by first | rfl | simp) ?_
              simp only [Act.put, List.setIfInBounds_toArray, List.set_cons_zero, List.set_cons_succ]
              refine RX.seqP_skip (by first | rfl | simp) ?_
              simp only [Act.put, List.setIfInBounds_toArray, List.set_cons_zero, List.set_cons_succ]
              refine RX.seqP_skip (by first | rfl | simp) ?_
              simp only [Act.put, List.setIfInBounds_toArray, List.set_cons_zero, List.set_cons_succ]
              refine RX.seqP_skip (by first | rfl | simp) ?_
              simp only [Act.put, List.setIfInBounds_toArray, List.set_cons_zero, List.set_cons_succ]
              refine RX.seqP_skip (by first | rfl | simp) ?_
              simp only [Act.put, List.setIfInBounds_toArray, List.set_cons_zero, List.set_cons_succ]
              refine RX.seqP_skip (by first | rfl | simp) ?_
              simp only [Act.put, List.setIfInBounds_toArray, List.set_cons_zero, List.set_cons_succ]
              refine RX.seqP_skip (by first | rfl | simp) ?_
              simp only [Act.put, List.setIfInBounds_toArray, List.set_cons_zero, List.set_cons_succ]
              refine RX.seqP_skip (by first | rfl | simp) ?_
              simp only [Act.put, List.setIfInBounds_toArray, List.set_cons_zero, List.set_cons_succ]
              refine RX.seqP_skip (by first | rfl | simp) ?_
              simp only [Act.put, List.setIfInBounds_toArray, List.set_cons_zero, List.set_cons_succ]
              refine RX.seqP_skip (by first | rfl | simp) ?_
              simp only [Act.put, List.setIfInBounds_toArray, List.set_cons_zero, List.set_cons_succ]
              refine RX.seqP_skip (by first | rfl | simp) ?_
              simp only [Act.put, List.setIfInBounds_toArray, List.set_cons_zero, List.set_cons_succ]
              refine RX.seqP_skip (by first | rfl | simp) ?_
              simp only [Act.put, List.setIfInBounds_toArray, List.set_cons_zero, List.set_cons_succ]
              refine RX.seqP_skip (by first | rfl | simp) ?_
              simp only [Act.put, List.setIfInBounds_toArray, List.set_cons_zero, List.set_cons_succ]
              refine RX.seqP_skip (by first | rfl | simp) ?_
              simp only [Act.put, List.setIfInBounds_toArray, List.set_cons_zero, List.set_cons_succ]
              refine RX.seqP_value (fun _ => Below.refl _ _) _ (by first | rfl | simp) (fun w' hw' hctx => by (go_simp); (try first | with_reducible rfl | simp)) ?_
              simp only [Act.put, List.setIfInBounds_toArray, List.set_cons_zero, List.set_cons_succ]
              refine RX.seqP_value (fun _ => Below.refl _ _) _ (by first | rfl | simp) (fun w' hw' hctx => by (go_simp); (try first | with_reducible rfl | simp)) ?_
              simp only [Act.put, List.setIfInBounds_toArray, List.set_cons_zero, List.set_cons_succ]
              refine RX.seqP_value (fun _ => Below.refl _ _) _ (by first | rfl | simp) (fun w' hw' hctx => by (go_simp); (try first | with_reducible rfl | simp)) ?_
              simp only [Act.put, List.setIfInBounds_toArray, List.set_cons_zero, List.set_cons_succ]
              refine RX.seqP_value (fun _ => Below.refl _ _) _ (by first | rfl | simp) (fun w' hw' hctx => ?_) ?_
              · have hve : (ve != 0) = true := HVE.out
                go_simp
                try first | with_reducible rfl | simp
              simp only [Act.put, List.setIfInBounds_toArray, List.set_cons_zero, List.set_cons_succ]
              refine RX.seqP_value (fun _ => Below.refl _ _) _ (by first | rfl | simp) (fun w' hw' hctx => by (go_simp); (try first | with_reducible rfl | simp)) ?_
              simp only [Act.put, List.setIfInBounds_toArray, List.set_cons_zero, List.set_cons_succ]
              refine RX.seqP_value (fun _ => Below.refl _ _) _ (by first | rfl | simp) (fun w' hw' hctx => ?_) ?_
              · have x0 := (HL1.out.below (below_tr hdr hw')).cell (o := 0) rfl
                have x1 := (HL1.out.below (below_tr hdr hw')).cell (o := 1) rfl
                have x2 := (HL1.out.below (below_tr hdr hw')).cell (o := 2) rfl
                have x3 := (HL1.out.below (below_tr hdr hw')).cell (o := 3) rfl
                have y0 := (HL2.out.below (below_tr hdr hw')).cell (o := 0) rfl
                have y1 := (HL2.out.below (below_tr hdr hw')).cell (o := 1) rfl
                have y2 := (HL2.out.below (below_tr hdr hw')).cell (o := 2) rfl
                have y3 := (HL2.out.below (below_tr hdr hw')).cell (o := 3) rfl
                unfold seenV
                go_simp
                try first | with_reducible rfl | simp
              simp only [Act.put, List.setIfInBounds_toArray, List.set_cons_zero, List.set_cons_succ]
              refine RX.seqP_value (fun _ => Below.refl _ _) _ (by first | rfl | simp) (fun w' hw' hctx => ?_) ?_
              · have x0 := (HL1.out.below (below_tr hdr hw')).cell (o := 0) rfl
                have x1 := (HL1.out.below (below_tr hdr hw')).cell (o := 1) rfl
                have x2 := (HL1.out.below (below_tr hdr hw')).cell (o := 2) rfl
                have x3 := (HL1.out.below (below_tr hdr hw')).cell (o := 3) rfl
                have y0 := (HL2.out.below (below_tr hdr hw')).cell (o := 0) rfl
                have y1 := (HL2.out.below (below_tr hdr hw')).cell (o := 1) rfl
                have y2 := (HL2.out.below (below_tr hdr hw')).cell (o := 2) rfl
                have y3 := (HL2.out.below (below_tr hdr hw')).cell (o := 3) rfl
                unfold seenV
                go_simp
                try first | with_reducible rfl | simp
              simp only [Act.put, List.setIfInBounds_toArray, List.set_cons_zero, List.set_cons_succ]
              refine RX.seqP_value (fun _ => Below.refl _ _) _ (by first | rfl | simp) (fun w' hw' hctx => ?_) ?_
              · have hne := neq_seen 2 tp na true w'
                unfold seenV
                go_simp
                try first | with_reducible rfl | simp
              simp only [Act.put, List.setIfInBounds_toArray, List.set_cons_zero, List.set_cons_succ]
              refine RX.seqP_value (fun _ => Below.refl _ _) _ (by first | rfl | simp) (fun w' hw' hctx => by (go_simp); (try first | with_reducible rfl | simp)) ?_
              simp only [Act.put, List.setIfInBounds_toArray, List.set_cons_zero, List.set_cons_succ]
              refine RX.seqP_value (fun _ => Below.refl _ _) _ (by first | rfl | simp) (fun w' hw' hctx => by (go_simp); (try first | with_reducible rfl | simp)) ?_
              simp only [Act.put, List.setIfInBounds_toArray, List.set_cons_zero, List.set_cons_succ]
              refine RX.seqP_nil (fun v2 hR hctx _ => ?_)
              have hb5 := below_tr hdr hR
              clear hctx hR
              have HB5 := Lib.hid (below_tr HB2.out (below_tr HV1.out hb5))
              clear hb5 hdr HV1 HL1 HL2
              go_wp2_with fail
              go_roundg (n - (k + 1))
              case measure => omega
              case rel => exact ⟨k + 1, by have hsm0 := HSM0.out; rw [show wrap64 ((k : Int) + 1) = (k : Int) + 1 from wr0 (by omega)]; exact congrArg (Value.int .i64) (by omega), by omega, Nat.le_refl _, HB5⟩
          · subst h1
            subst h2
            subst h3
            subst h4
            have HK2 : Hid (¬ st.kind < 2) := Lib.hid (by omega)
            have HST3 := Lib.hid h6
            have HTP3 := Lib.hid h7
            clear h5 h6 h7
            have x0 := HL1.out.cell (o := 0) rfl
            have x1 := HL1.out.cell (o := 1) rfl
            have x2 := HL1.out.cell (o := 2) rfl
            have x3 := HL1.out.cell (o := 3) rfl
            have y0 := HL2.out.cell (o := 0) rfl
            have y1 := HL2.out.cell (o := 1) rfl
            have y2 := HL2.out.cell (o := 2) rfl
            have y3 := HL2.out.cell (o := 3) rfl
            have xl := HL1.out.lt
            have yl := HL2.out.lt
            go_upto_region 17 with (fail)
            clear x0 x1 x2 x3 y0 y1 y2 y3 xl yl HCS
            by_cases hv0 : ve = 0
            · subst hv0
              have hdr := below_drw v1
              try simp only [List.append_eq, List.cons_append, List.nil_append]
              refine RX.wp_region_plan (fun w w' => Below w.heap.size w w') [.it (.pointer (some ⟨b1, 0, none⟩)), .it (.int .u8 2), .it (.bool true), .it (.bool true), .it (.pointer (some ⟨b2, 0, none⟩)), .it (.int .u8 3), .it (.bool true), .it (.bool true), .it (.bool true), .it (.slice (some ⟨sb, so, none⟩) n0 c0), .it (.int .i64 (i : Int)), .it (.pointer (some ⟨sb, so + i * 2, none⟩)), .it (.pointer (some ⟨sb, so + i * 2, none⟩)), .it (.int .u8 st.kind), .it (.bool false), .it (.bool false), .it (.pointer (some ⟨t, 0, none⟩)), .it (.slice (some ⟨sb, so, none⟩) n0 c0), .it (.int .i64 (i : Int)), .it (.pointer (some ⟨sb, so + i * 2, none⟩)), .it (.pointer (some ⟨sb, so + i * 2 + 1, none⟩)), .it (.int .i64 st.id), .it (.int .u8 3), .it (.bool false), .it (.bool false), .it (.bool false), .it (.pointer (some ⟨t, 0, none⟩)), .it (.slice (some ⟨sb, so, none⟩) n0 c0), .it (.int .i64 (i : Int)), .it (.pointer (some ⟨sb, so + i * 2, none⟩)), .it (.pointer (some ⟨sb, so + i * 2 + 1, none⟩)), .it (.int .i64 st.id), .it (.int .i64 tp), .it (.pointer (some ⟨b2, 1, none⟩)), .it (.int .i64 tp), .it (.bool false), .it (.bool false), .it (.bool false), .it (.bool false), .it (.int .i64 0), .it (.bool false), .it (.bool false), .it undef, .it undef, .it undef, .it (.bool false), .it (.bool false)] (by kernel_rfl) (RX.plan_same stays17 (by kernel_rfl)) (fun _ => Below.refl _ _) (fun _ _ _ => below_tr) ?_
              refine RX.seqP_value (fun _ => Below.refl _ _) _ (by first | rfl | simp) (fun w' hw' hctx => by (go_simp); (try first | with_reducible rfl | simp)) ?_
              simp only [Act.put, List.setIfInBounds_toArray, List.set_cons_zero, List.set_cons_succ]
              refine RX.seqP_value (fun _ => Below.refl _ _) _ (by first | rfl | simp) (fun w' hw' hctx => ?_) ?_
              · have x0 := (HL1.out.below (below_tr hdr hw')).cell (o := 0) rfl
                have x1 := (HL1.out.below (below_tr hdr hw')).cell (o := 1) rfl
                have x2 := (HL1.out.below (below_tr hdr hw')).cell (o := 2) rfl
                have x3 := (HL1.out.below (below_tr hdr hw')).cell (o := 3) rfl
                have y0 := (HL2.out.below (below_tr hdr hw')).cell (o := 0) rfl
                have y1 := (HL2.out.below (below_tr hdr hw')).cell (o := 1) rfl
                have y2 := (HL2.out.below (below_tr hdr hw')).cell (o := 2) rfl
                have y3 := (HL2.out.below (below_tr hdr hw')).cell (o := 3) rfl
                go_simp
                try first | with_reducible rfl | simp
              simp only [Act.put, List.setIfInBounds_toArray, List.set_cons_zero, List.set_cons_succ]
              refine RX.seqP_value (fun _ => Below.refl _ _) _ (by first | rfl | simp) (fun w' hw' hctx => by (go_simp); (try first | with_reducible rfl | simp)) ?_
              simp only [Act.put, List.setIfInBounds_toArray, List.set_cons_zero, List.set_cons_succ]
              refine RX.seqP_value (fun _ => Below.refl _ _) _ (by first | rfl | simp) (fun w' hw' hctx => by (go_simp); (try first | with_reducible rfl | simp)) ?_
              simp only [Act.put, List.setIfInBounds_toArray, List.set_cons_zero, List.set_cons_succ]
              refine RX.seqP_value (fun _ => Below.refl _ _) _ (by first | rfl | simp) (fun w' hw' hctx => by (go_simp); (try first | with_reducible rfl | simp)) ?_
              simp only [Act.put, List.setIfInBounds_toArray, List.set_cons_zero, List.set_cons_succ]
              refine RX.seqP_value (fun _ => Below.refl _ _) _ (by first | rfl | simp) (fun w' hw' hctx => ?_) ?_
              · have x0 := (HL1.out.below (below_tr hdr hw')).cell (o := 0) rfl
                have x1 := (HL1.out.below (below_tr hdr hw')).cell (o := 1) rfl
                have x2 := (HL1.out.below (below_tr hdr hw')).cell (o := 2) rfl
                have x3 := (HL1.out.below (below_tr hdr hw')).cell (o := 3) rfl
                have y0 := (HL2.out.below (below_tr hdr hw')).cell (o := 0) rfl
                have y1 := (HL2.out.below (below_tr hdr hw')).cell (o := 1) rfl
                have y2 := (HL2.out.below (below_tr hdr hw')).cell (o := 2) rfl
                have y3 := (HL2.out.below (below_tr hdr hw')).cell (o := 3) rfl
                go_simp
                try first | with_reducible rfl | simp
              simp only [Act.put, List.setIfInBounds_toArray, List.set_cons_zero, List.set_cons_succ]
              refine RX.seqP_value (fun _ => Below.refl _ _) _ (by first | rfl | simp) (fun w' hw' hctx => by (go_simp); (try first | with_reducible rfl | simp)) ?_
              simp only [Act.put, List.setIfInBounds_toArray, List.set_cons_zero, List.set_cons_succ]
              refine RX.seqP_value (fun _ => Below.refl _ _) _ (by first | rfl | simp) (fun w' hw' hctx => by (go_simp); (try first | with_reducible rfl | simp)) ?_
              simp only [Act.put, List.setIfInBounds_toArray, List.set_cons_zero, List.set_cons_succ]
              refine RX.seqP_value (fun _ => Below.refl _ _) _ (by first | rfl | simp) (fun w' hw' hctx => by (go_simp); (try first | with_reducible rfl | simp)) ?_
              simp only [Act.put, List.setIfInBounds_toArray, List.set_cons_zero, List.set_cons_succ]
              refine RX.seqP_value (fun _ => Below.refl _ _) _ (by first | rfl | simp) (fun w' hw' hctx => by (go_simp); (try first | with_reducible rfl | simp)) ?_
              simp only [Act.put, List.setIfInBounds_toArray, List.set_cons_zero, List.set_cons_succ]
              refine RX.seqP_value (fun _ => Below.refl _ _) _ (by first | rfl | simp) (fun w' hw' hctx => by (go_simp); (try first | with_reducible rfl | simp)) ?_
              simp only [Act.put, List.setIfInBounds_toArray, List.set_cons_zero, List.set_cons_succ]
              refine RX.seqP_value (fun _ => Below.refl _ _) _ (by first | rfl | simp) (fun w' hw' hctx => by (go_simp); (try first | with_reducible rfl | simp)) ?_
              simp only [Act.put, List.setIfInBounds_toArray, List.set_cons_zero, List.set_cons_succ]
              refine RX.seqP_value (fun _ => Below.refl _ _) _ (by first | rfl | simp) (fun w' hw' hctx => by (go_simp); (try first | with_reducible rfl | simp)) ?_
              simp only [Act.put, List.setIfInBounds_toArray, List.set_cons_zero, List.set_cons_succ]
              refine RX.seqP_value (fun _ => Below.refl _ _) _ (by first | rfl | simp) (fun w' hw' hctx => ?_) ?_
              · obtain ⟨s0, s1, s2⟩ := HSTW.out wr HB2.out w' (below_tr HV1.out (below_tr hdr hw'))
                go_simp
                try first | with_reducible rfl | simp
              simp only [Act.put, List.setIfInBounds_toArray, List.set_cons_zero, List.set_cons_succ]
              refine RX.seqP_value (fun _ => Below.refl _ _) _ (by first | rfl | simp) (fun w' hw' hctx => ?_) ?_
              · have hk2 : ¬ st.kind < 2 := HK2.out
                go_simp
                try first | with_reducible rfl | simp
              simp only [Act.put, List.setIfInBounds_toArray, List.set_cons_zero, List.set_cons_succ]
              refine RX.seqP_value (fun _ => Below.refl _ _) _ (by first | rfl | simp) (fun w' hw' hctx => by (go_simp); (try first | with_reducible rfl | simp)) ?_
              simp only [Act.put, List.setIfInBounds_toArray, List.set_cons_zero, List.set_cons_succ]
              refine RX.seqP_value (fun _ => Below.refl _ _) _ (by first | rfl | simp) (fun w' hw' hctx => by (go_simp); (try first | with_reducible rfl | simp)) ?_
              simp only [Act.put, List.setIfInBounds_toArray, List.set_cons_zero, List.set_cons_succ]
              refine RX.seqP_value (fun _ => Below.refl _ _) _ (by first | rfl | simp) (fun w' hw' hctx => by (go_simp); (try first | with_reducible rfl | simp)) ?_
              simp only [Act.put, List.setIfInBounds_toArray, List.set_cons_zero, List.set_cons_succ]
              refine RX.seqP_value (fun _ => Below.refl _ _) _ (by first | rfl | simp) (fun w' hw' hctx => by (go_simp); (try first | with_reducible rfl | simp)) ?_
              simp only [Act.put, List.setIfInBounds_toArray, List.set_cons_zero, List.set_cons_succ]
              refine RX.seqP_value (fun _ => Below.refl _ _) _ (by first | rfl | simp) (fun w' hw' hctx => by (go_simp); (try first | with_reducible rfl | simp)) ?_
              simp only [Act.put, List.setIfInBounds_toArray, List.set_cons_zero, List.set_cons_succ]
              refine RX.seqP_value (fun _ => Below.refl _ _) _ (by first | rfl | simp) (fun w' hw' hctx => by (go_simp); (try first | with_reducible rfl | simp)) ?_
              simp only [Act.put, List.setIfInBounds_toArray, List.set_cons_zero, List.set_cons_succ]
              refine RX.seqP_value (fun _ => Below.refl _ _) _ (by first | rfl | simp) (fun w' hw' hctx => ?_) ?_
              · obtain ⟨s0, s1, s2⟩ := HSTW.out wr HB2.out w' (below_tr HV1.out (below_tr hdr hw'))
                go_simp
                try first | with_reducible rfl | simp
              simp only [Act.put, List.setIfInBounds_toArray, List.set_cons_zero, List.set_cons_succ]
              refine RX.seqP_call (14) #[.pointer (some ⟨t, 0, none⟩), .int .i64 st.id] (.int .u8 3) (by first | rfl | simp) (fun w' hw' hctx => ?_) (fun w' hw' hctx => one_state ((HOU.out.below HB2.out).below (below_tr HV1.out (below_tr hdr hw'))) st.id 3 HWF.out.2 HST3.out) ?_
              · go_simp
              simp only [Act.put, List.setIfInBounds_toArray, List.set_cons_zero, List.set_cons_succ]
              refine RX.seqP_value (fun _ => Below.refl _ _) _ (by first | rfl | simp) (fun w' hw' hctx => by (go_simp); (try first | with_reducible rfl | simp)) ?_
              simp only [Act.put, List.setIfInBounds_toArray, List.set_cons_zero, List.set_cons_succ]
              refine RX.seqP_value (fun _ => Below.refl _ _) _ (by first | rfl | simp) (fun w' hw' hctx => by (go_simp); (try first | with_reducible rfl | simp)) ?_
              simp only [Act.put, List.setIfInBounds_toArray, List.set_cons_zero, List.set_cons_succ]
              refine RX.seqP_value (fun _ => Below.refl _ _) _ (by first | rfl | simp) (fun w' hw' hctx => by (go_simp); (try first | with_reducible rfl | simp)) ?_
              simp only [Act.put, List.setIfInBounds_toArray, List.set_cons_zero, List.set_cons_succ]
              refine RX.seqP_value (fun _ => Below.refl _ _) _ (by first | rfl | simp) (fun w' hw' hctx => by (go_simp); (try first | with_reducible rfl | simp)) ?_
              simp only [Act.put, List.setIfInBounds_toArray, List.set_cons_zero, List.set_cons_succ]
              refine RX.seqP_value (fun _ => Below.refl _ _) _ (by first | rfl | simp) (fun w' hw' hctx => by (go_simp); (try first | with_reducible rfl | simp)) ?_
              simp only [Act.put, List.setIfInBounds_toArray, List.set_cons_zero, List.set_cons_succ]
              refine RX.seqP_value (fun _ => Below.refl _ _) _ (by first | rfl | simp) (fun w' hw' hctx => by (go_simp); (try first | with_reducible rfl | simp)) ?_
              simp only [Act.put, List.setIfInBounds_toArray, List.set_cons_zero, List.set_cons_succ]
              refine RX.seqP_value (fun _ => Below.refl _ _) _ (by first | rfl | simp) (fun w' hw' hctx => by (go_simp); (try first | with_reducible rfl | simp)) ?_
              simp only [Act.put, List.setIfInBounds_toArray, List.set_cons_zero, List.set_cons_succ]
              refine RX.seqP_value (fun _ => Below.refl _ _) _ (by first | rfl | simp) (fun w' hw' hctx => by (go_simp); (try first | with_reducible rfl | simp)) ?_
              simp only [Act.put, List.setIfInBounds_toArray, List.set_cons_zero, List.set_cons_succ]
              refine RX.seqP_value (fun _ => Below.refl _ _) _ (by first | rfl | simp) (fun w' hw' hctx => ?_) ?_
              · obtain ⟨s0, s1, s2⟩ := HSTW.out wr HB2.out w' (below_tr HV1.out (below_tr hdr hw'))
                go_simp
                try first | with_reducible rfl | simp
              simp only [Act.put, List.setIfInBounds_toArray, List.set_cons_zero, List.set_cons_succ]
              refine RX.seqP_call (15) #[.pointer (some ⟨t, 0, none⟩), .int .i64 st.id] (.int .i64 tp) (by first | rfl | simp) (fun w' hw' hctx => ?_) (fun w' hw' hctx => one_top ((HOU.out.below HB2.out).below (below_tr HV1.out (below_tr hdr hw'))) st.id tp HWF.out.2 HTP3.out) ?_
              · go_simp
              simp only [Act.put, List.setIfInBounds_toArray, List.set_cons_zero, List.set_cons_succ]
              refine RX.seqP_value (fun _ => Below.refl _ _) _ (by first | rfl | simp) (fun w' hw' hctx => by (go_simp); (try first | with_reducible rfl | simp)) ?_
              simp only [Act.put, List.setIfInBounds_toArray, List.set_cons_zero, List.set_cons_succ]
              refine RX.seqP_value (fun _ => Below.refl _ _) _ (by first | rfl | simp) (fun w' hw' hctx => ?_) ?_
              · have x0 := (HL1.out.below (below_tr hdr hw')).cell (o := 0) rfl
                have x1 := (HL1.out.below (below_tr hdr hw')).cell (o := 1) rfl
                have x2 := (HL1.out.below (below_tr hdr hw')).cell (o := 2) rfl
                have x3 := (HL1.out.below (below_tr hdr hw')).cell (o := 3) rfl
                have y0 := (HL2.out.below (below_tr hdr hw')).cell (o := 0) rfl
                have y1 := (HL2.out.below (below_tr hdr hw')).cell (o := 1) rfl
                have y2 := (HL2.out.below (below_tr hdr hw')).cell (o := 2) rfl
                have y3 := (HL2.out.below (below_tr hdr hw')).cell (o := 3) rfl
                go_simp
                try first | with_reducible rfl | simp
              simp only [Act.put, List.setIfInBounds_toArray, List.set_cons_zero, List.set_cons_succ]
              refine RX.seqP_value (fun _ => Below.refl _ _) _ (by first | rfl | simp) (fun w' hw' hctx => by (go_simp); (try first | with_reducible rfl | simp)) ?_
              simp only [Act.put, List.setIfInBounds_toArray, List.set_cons_zero, List.set_cons_succ]
              refine RX.seqP_value (fun _ => Below.refl _ _) _ (by first | rfl | simp) (fun w' hw' hctx => by (go_simp); (try first | with_reducible rfl | simp)) ?_
              simp only [Act.put, List.setIfInBounds_toArray, List.set_cons_zero, List.set_cons_succ]
              refine RX.seqP_value (fun _ => Below.refl _ _) _ (by first | rfl | simp) (fun w' hw' hctx => by (go_simp); (try first | with_reducible rfl | simp)) ?_
              simp only [Act.put, List.setIfInBounds_toArray, List.set_cons_zero, List.set_cons_succ]
              refine RX.seqP_value (fun _ => Below.refl _ _) _ (by first | rfl | simp) (fun w' hw' hctx => by (go_simp); (try first | with_reducible rfl | simp)) ?_
              simp only [Act.put, List.setIfInBounds_toArray, List.set_cons_zero, List.set_cons_succ]
              refine RX.seqP_value (fun _ => Below.refl _ _) _ (by first | rfl | simp) (fun w' hw' hctx => by (go_simp); (try first | with_reducible rfl | simp)) ?_
              simp only [Act.put, List.setIfInBounds_toArray, List.set_cons_zero, List.set_cons_succ]
              refine RX.seqP_value (fun _ => Below.refl _ _) _ (by first | rfl | simp) (fun w' hw' hctx => by (go_simp); (try first | with_reducible rfl | simp)) ?_
              simp only [Act.put, List.setIfInBounds_toArray, List.set_cons_zero, List.set_cons_succ]
              refine RX.seqP_value (fun _ => Below.refl _ _) _ (by first | rfl | simp) (fun w' hw' hctx => by (go_simp); (try first | with_reducible rfl | simp)) ?_
              simp only [Act.put, List.setIfInBounds_toArray, List.set_cons_zero, List.set_cons_succ]
              refine RX.seqP_skip (by first | rfl | simp) ?_
              simp only [Act.put, List.setIfInBounds_toArray, List.set_cons_zero, List.set_cons_succ]
              refine RX.seqP_skip (by first | rfl | simp) ?_
              simp only [Act.put, List.setIfInBounds_toArray, List.set_cons_zero, List.set_cons_succ]
              refine RX.seqP_skip (by first | rfl | simp) ?_
              simp only [Act.put, List.setIfInBounds_toArray, List.set_cons_zero, List.set_cons_succ]
              refine RX.seqP_value (fun _ => Below.refl _ _) _ (by first | rfl | simp) (fun w' hw' hctx => by (go_simp); (try first | with_reducible rfl | simp)) ?_
              simp only [Act.put, List.setIfInBounds_toArray, List.set_cons_zero, List.set_cons_succ]
              refine RX.seqP_value (fun _ => Below.refl _ _) _ (by first | rfl | simp) (fun w' hw' hctx => by (go_simp); (try first | with_reducible rfl | simp)) ?_
              simp only [Act.put, List.setIfInBounds_toArray, List.set_cons_zero, List.set_cons_succ]
              refine RX.seqP_nil (fun v2 hR hctx _ => ?_)
              have hb5 := below_tr hdr hR
              clear hctx hR
              have HB5 := Lib.hid (below_tr HB2.out (below_tr HV1.out hb5))
              clear hb5 hdr HV1 HL1 HL2
              go_wp2_with fail
              go_roundg (n - (k + 1))
              case measure => omega
              case rel => exact ⟨k + 1, by have hsm0 := HSM0.out; rw [show wrap64 ((k : Int) + 1) = (k : Int) + 1 from wr0 (by omega)]; exact congrArg (Value.int .i64) (by omega), by omega, Nat.le_refl _, HB5⟩
            · exact absurd (HEQ.out hv0).1 (by decide)
          · subst h1
            subst h2
            subst h3
            subst h4
            subst h5
            have x0 := HL1.out.cell (o := 0) rfl
            have x1 := HL1.out.cell (o := 1) rfl
            have x2 := HL1.out.cell (o := 2) rfl
            have x3 := HL1.out.cell (o := 3) rfl
            have y0 := HL2.out.cell (o := 0) rfl
            have y1 := HL2.out.cell (o := 1) rfl
            have y2 := HL2.out.cell (o := 2) rfl
            have y3 := HL2.out.cell (o := 3) rfl
            have xl := HL1.out.lt
            have yl := HL2.out.lt
            go_upto_region 17 with (fail)
            clear x0 x1 x2 x3 y0 y1 y2 y3 xl yl HCS
            by_cases hv0 : ve = 0
            · subst hv0
              have hdr := below_drw v1
              try simp only [List.append_eq, List.cons_append, List.nil_append]
              refine RX.wp_region_plan (fun w w' => Below w.heap.size w w') [.it (.pointer (some ⟨b1, 0, none⟩)), .it (.int .u8 3), .it (.bool false), .it (.bool false), .it undef, .it undef, .it undef, .it (.bool false), .it (.bool false), .it undef, .it undef, .it undef, .it undef, .it undef, .it undef, .it undef, .it undef, .it undef, .it undef, .it undef, .it undef, .it undef, .it undef, .it undef, .it undef, .it undef, .it undef, .it undef, .it undef, .it undef, .it undef, .it undef, .it undef, .it undef, .it undef, .it undef, .it undef, .it (.bool false), .it (.bool false), .it (.int .i64 0), .it (.bool false), .it (.bool false), .it undef, .it undef, .it undef, .it (.bool false), .it (.bool false)] (by kernel_rfl) (RX.plan_same stays17 (by kernel_rfl)) (fun _ => Below.refl _ _) (fun _ _ _ => below_tr) ?_
              refine RX.seqP_value (fun _ => Below.refl _ _) _ (by first | rfl | simp) (fun w' hw' hctx => by (go_simp); (try first | with_reducible rfl | simp)) ?_
              simp only [Act.put, List.setIfInBounds_toArray, List.set_cons_zero, List.set_cons_succ]
              refine RX.seqP_value (fun _ => Below.refl _ _) _ (by first | rfl | simp) (fun w' hw' hctx => ?_) ?_
              · have x0 := (HL1.out.below (below_tr hdr hw')).cell (o := 0) rfl
                have x1 := (HL1.out.below (below_tr hdr hw')).cell (o := 1) rfl
                have x2 := (HL1.out.below (below_tr hdr hw')).cell (o := 2) rfl
                have x3 := (HL1.out.below (below_tr hdr hw')).cell (o := 3) rfl
                have y0 := (HL2.out.below (below_tr hdr hw')).cell (o := 0) rfl
                have y1 := (HL2.out.below (below_tr hdr hw')).cell (o := 1) rfl
                have y2 := (HL2.out.below (below_tr hdr hw')).cell (o := 2) rfl
                have y3 := (HL2.out.below (below_tr hdr hw')).cell (o := 3) rfl
                go_simp
                try first | with_reducible rfl | simp
              simp only [Act.put, List.setIfInBounds_toArray, List.set_cons_zero, List.set_cons_succ]
              refine RX.seqP_value (fun _ => Below.refl _ _) _ (by first | rfl | simp) (fun w' hw' hctx => by (go_simp); (try first | with_reducible rfl | simp)) ?_
              simp only [Act.put, List.setIfInBounds_toArray, List.set_cons_zero, List.set_cons_succ]
              refine RX.seqP_value (fun _ => Below.refl _ _) _ (by first | rfl | simp) (fun w' hw' hctx => by (go_simp); (try first | with_reducible rfl | simp)) ?_
              simp only [Act.put, List.setIfInBounds_toArray, List.set_cons_zero, List.set_cons_succ]
              refine RX.seqP_skip (by first | rfl | simp) ?_
              simp only [Act.put, List.setIfInBounds_toArray, List.set_cons_zero, List.set_cons_succ]
              refine RX.seqP_skip (by first | rfl | simp) ?_
              simp only [Act.put, List.setIfInBounds_toArray, List.set_cons_zero, List.set_cons_succ]
              refine RX.seqP_skip (by first | rfl | simp) ?_
              simp only [Act.put, List.setIfInBounds_toArray, List.set_cons_zero, List.set_cons_succ]
              refine RX.seqP_value (fun _ => Below.refl _ _) _ (by first | rfl | simp) (fun w' hw' hctx => by (go_simp); (try first | with_reducible rfl | simp)) ?_
              simp only [Act.put, List.setIfInBounds_toArray, List.set_cons_zero, List.set_cons_succ]
              refine RX.seqP_value (fun _ => Below.refl _ _) _ (by first | rfl | simp) (fun w' hw' hctx => by (go_simp); (try first | with_reducible rfl | simp)) ?_
              simp only [Act.put, List.setIfInBounds_toArray, List.set_cons_zero, List.set_cons_succ]
              refine RX.seqP_skip (by first | rfl | simp) ?_
              simp only [Act.put, List.setIfInBounds_toArray, List.set_cons_zero, List.set_cons_succ]
              refine RX.seqP_skip (by first | rfl | simp) ?_
              simp only [Act.put, List.setIfInBounds_toArray, List.set_cons_zero, List.set_cons_succ]
              refine RX.seqP_skip (by first | rfl | simp) ?_
              simp only [Act.put, List.setIfInBounds_toArray, List.set_cons_zero, List.set_cons_succ]
              refine RX.seqP_skip (by first | rfl | simp) ?_
              simp only [Act.put, List.setIfInBounds_toArray, List.set_cons_zero, List.set_cons_succ]
              refine RX.seqP_skip (by first | rfl | simp) ?_
              simp only [Act.put, List.setIfInBounds_toArray, List.set_cons_zero, List.set_cons_succ]
              refine RX.seqP_skip (by first | rfl | simp) ?_
              simp only [Act.put, List.setIfInBounds_toArray, List.set_cons_zero, List.set_cons_succ]
              refine RX.seqP_skip (by first | rfl | simp) ?_
              simp only [Act.put, List.setIfInBounds_toArray, List.set_cons_zero, List.set_cons_succ]
              refine RX.seqP_skip (by first | rfl | simp) ?_
              simp only [Act.put, List.setIfInBounds_toArray, List.set_cons_zero, List.set_cons_succ]
              refine RX.seqP_skip (by first | rfl | simp) ?_
              simp only [Act.put, List.setIfInBounds_toArray, List.set_cons_zero, List.set_cons_succ]
              refine RX.seqP_skip (by first | rfl | simp) ?_
              simp only [Act.put, List.setIfInBounds_toArray, List.set_cons_zero, List.set_cons_succ]
              refine RX.seqP_skip (by first | rfl | simp) ?_
              simp only [Act.put, List.setIfInBounds_toArray, List.set_cons_zero, List.set_cons_succ]
              refine RX.seqP_skip (by first | rfl | simp) ?_
              simp only [Act.put, List.setIfInBounds_toArray, List.set_cons_zero, List.set_cons_succ]
              refine RX.seqP_skip (by first | rfl | simp) ?_
              simp only [Act.put, List.setIfInBounds_toArray, List.set_cons_zero, List.set_cons_succ]
              refine RX.seqP_skip (by first | rfl | simp) ?_
              simp only [Act.put, List.setIfInBounds_toArray, List.set_cons_zero, List.set_cons_succ]
              refine RX.seqP_skip (by first | rfl | simp) ?_
              simp only [Act.put, List.setIfInBounds_toArray, List.set_cons_zero, List.set_cons_succ]
              refine RX.seqP_skip (by first | rfl | simp) ?_
              simp only [Act.put, List.setIfInBounds_toArray, List.set_cons_zero, List.set_cons_succ]
              refine RX.seqP_skip (by first | rfl | simp) ?_
              simp only [Act.put, List.setIfInBounds_toArray, List.set_cons_zero, List.set_cons_succ]
              refine RX.seqP_skip (by first | rfl | simp) ?_
              simp only [Act.put, List.setIfInBounds_toArray, List.set_cons_zero, List.set_cons_succ]
              refine RX.seqP_skip (by first | rfl | simp) ?_
              simp only [Act.put, List.setIfInBounds_toArray, List.set_cons_zero, List.set_cons_succ]
              refine RX.seqP_skip (by first | rfl | simp) ?_
              simp only [Act.put, List.setIfInBounds_toArray, List.set_cons_zero, List.set_cons_succ]
              refine RX.seqP_skip (by first | rfl | simp) ?_
              simp only [Act.put, List.setIfInBounds_toArray, List.set_cons_zero, List.set_cons_succ]
              refine RX.seqP_skip (by first | rfl | simp) ?_
              simp only [Act.put, List.setIfInBounds_toArray, List.set_cons_zero, List.set_cons_succ]
              refine RX.seqP_skip (by first | rfl | simp) ?_
              simp only [Act.put, List.setIfInBounds_toArray, List.set_cons_zero, List.set_cons_succ]
              refine RX.seqP_skip (by first | rfl | simp) ?_
              simp only [Act.put, List.setIfInBounds_toArray, List.set_cons_zero, List.set_cons_succ]
              refine RX.seqP_skip (by first | rfl | simp) ?_
              simp only [Act.put, List.setIfInBounds_toArray, List.set_cons_zero, List.set_cons_succ]
              refine RX.seqP_skip (by first | rfl | simp) ?_
              simp only [Act.put, List.setIfInBounds_toArray, List.set_cons_zero, List.set_cons_succ]
              refine RX.seqP_skip (by first | rfl | simp) ?_
              simp only [Act.put, List.setIfInBounds_toArray, List.set_cons_zero, List.set_cons_succ]
              refine RX.seqP_skip (by first | rfl | simp) ?_
              simp only [Act.put, List.setIfInBounds_toArray, List.set_cons_zero, List.set_cons_succ]
              refine RX.seqP_value (fun _ => Below.refl _ _) _ (by first | rfl | simp) (fun w' hw' hctx => by (go_simp); (try first | with_reducible rfl | simp)) ?_
              simp only [Act.put, List.setIfInBounds_toArray, List.set_cons_zero, List.set_cons_succ]
              refine RX.seqP_value (fun _ => Below.refl _ _) _ (by first | rfl | simp) (fun w' hw' hctx => by (go_simp); (try first | with_reducible rfl | simp)) ?_
              simp only [Act.put, List.setIfInBounds_toArray, List.set_cons_zero, List.set_cons_succ]
              refine RX.seqP_value (fun _ => Below.refl _ _) _ (by first | rfl | simp) (fun w' hw' hctx => by (go_simp); (try first | with_reducible rfl | simp)) ?_
              simp only [Act.put, List.setIfInBounds_toArray, List.set_cons_zero, List.set_cons_succ]
              refine RX.seqP_value (fun _ => Below.refl _ _) _ (by first | rfl | simp) (fun w' hw' hctx => by (go_simp); (try first | with_reducible rfl | simp)) ?_
              simp only [Act.put, List.setIfInBounds_toArray, List.set_cons_zero, List.set_cons_succ]
              refine RX.seqP_value (fun _ => Below.refl _ _) _ (by first | rfl | simp) (fun w' hw' hctx => by (go_simp); (try first | with_reducible rfl | simp)) ?_
              simp only [Act.put, List.setIfInBounds_toArray, List.set_cons_zero, List.set_cons_succ]
              refine RX.seqP_skip (by first | rfl | simp) ?_
              simp only [Act.put, List.setIfInBounds_toArray, List.set_cons_zero, List.set_cons_succ]
              refine RX.seqP_skip (by first | rfl | simp) ?_
              simp only [Act.put, List.setIfInBounds_toArray, List.set_cons_zero, List.set_cons_succ]
              refine RX.seqP_skip (by first | rfl | simp) ?_
              simp only [Act.put, List.setIfInBounds_toArray, List.set_cons_zero, List.set_cons_succ]
              refine RX.seqP_value (fun _ => Below.refl _ _) _ (by first | rfl | simp) (fun w' hw' hctx => by (go_simp); (try first | with_reducible rfl | simp)) ?_
              simp only [Act.put, List.setIfInBounds_toArray, List.set_cons_zero, List.set_cons_succ]
              refine RX.seqP_value (fun _ => Below.refl _ _) _ (by first | rfl | simp) (fun w' hw' hctx => by (go_simp); (try first | with_reducible rfl | simp)) ?_
              simp only [Act.put, List.setIfInBounds_toArray, List.set_cons_zero, List.set_cons_succ]
              refine RX.seqP_nil (fun v2 hR hctx _ => ?_)
              have hb5 := below_tr hdr hR
              clear hctx hR
              have HB5 := Lib.hid (below_tr HB2.out (below_tr HV1.out hb5))
              clear hb5 hdr HV1 HL1 HL2
              go_wp2_with fail
              go_roundg (n - (k + 1))
              case measure => omega
              case rel => exact ⟨k + 1, by have hsm0 := HSM0.out; rw [show wrap64 ((k : Int) + 1) = (k : Int) + 1 from wr0 (by omega)]; exact congrArg (Value.int .i64) (by omega), by omega, Nat.le_refl _, HB5⟩
            · have HVE : Hid ((ve != 0) = true) := Lib.hid (by simpa using hv0)
              have heq := HEQ.out hv0
              obtain ⟨_, e2, _⟩ := heq
              subst e2
              clear hv0
              have hdr := below_drw v1
              try simp only [List.append_eq, List.cons_append, List.nil_append]
              refine RX.wp_region_plan (fun w w' => Below w.heap.size w w') [.it (.pointer (some ⟨b1, 0, none⟩)), .it (.int .u8 3), .it (.bool false), .it (.bool false), .it undef, .it undef, .it undef, .it (.bool false), .it (.bool false), .it undef, .it undef, .it undef, .it undef, .it undef, .it undef, .it undef, .it undef, .it undef, .it undef, .it undef, .it undef, .it undef, .it undef, .it undef, .it undef, .it undef, .it undef, .it undef, .it undef, .it undef, .it undef, .it undef, .it undef, .it undef, .it undef, .it undef, .it undef, .it (.bool false), .it (.bool false), .it (.int .i64 ve), .it (.bool true), .it (.bool true), .it (seenV 3 tp 0 false), .it (seenV 3 tp 0 false), .it (.bool false), .it (.bool false), .it (.bool false)] (by kernel_rfl) (RX.plan_same stays17 (by kernel_rfl)) (fun _ => Below.refl _ _) (fun _ _ _ => below_tr) ?_
              refine RX.seqP_value (fun _ => Below.refl _ _) _ (by first | rfl | simp) (fun w' hw' hctx => by (go_simp); (try first | with_reducible rfl | simp)) ?_
              simp only [Act.put, List.setIfInBounds_toArray, List.set_cons_zero, List.set_cons_succ]
              refine RX.seqP_value (fun _ => Below.refl _ _) _ (by first | rfl | simp) (fun w' hw' hctx => ?_) ?_
              · have x0 := (HL1.out.below (below_tr hdr hw')).cell (o := 0) rfl
                have x1 := (HL1.out.below (below_tr hdr hw')).cell (o := 1) rfl
                have x2 := (HL1.out.below (below_tr hdr hw')).cell (o := 2) rfl
                have x3 := (HL1.out.below (below_tr hdr hw')).cell (o := 3) rfl
                have y0 := (HL2.out.below (below_tr hdr hw')).cell (o := 0) rfl
                have y1 := (HL2.out.below (below_tr hdr hw')).cell (o := 1) rfl
                have y2 := (HL2.out.below (below_tr hdr hw')).cell (o := 2) rfl
                have y3 := (HL2.out.below (below_tr hdr hw')).cell (o := 3) rfl
                go_simp
                try first | with_reducible rfl | simp
              simp only [Act.put, List.setIfInBounds_toArray, List.set_cons_zero, List.set_cons_succ]
              refine RX.seqP_value (fun _ => Below.refl _ _) _ (by first | rfl | simp) (fun w' hw' hctx => by (go_simp); (try first | with_reducible rfl | simp)) ?_
              simp only [Act.put, List.setIfInBounds_toArray, List.set_cons_zero, List.set_cons_succ]
              refine RX.seqP_value (fun _ => Below.refl _ _) _ (by first | rfl | simp) (fun w' hw' hctx => by (go_simp); (try first | with_reducible rfl | simp)) ?_
              simp only [Act.put, List.setIfInBounds_toArray, List.set_cons_zero, List.set_cons_succ]
              refine RX.seqP_skip (by first | rfl | simp) ?_
              simp only [Act.put, List.setIfInBounds_toArray, List.set_cons_zero, List.set_cons_succ]
              refine RX.seqP_skip (by first | rfl | simp) ?_
              simp only [Act.put, List.setIfInBounds_toArray, List.set_cons_zero, List.set_cons_succ]
              refine RX.seqP_skip (by first | rfl | simp) ?_
              simp only [Act.put, List.setIfInBounds_toArray, List.set_cons_zero, List.set_cons_succ]
              refine RX.seqP_value (fun _ => Below.refl _ _) _ (by first | rfl | simp) (fun w' hw' hctx => by (go_simp); (try first | with_reducible rfl | simp)) ?_
              simp only [Act.put, List.setIfInBounds_toArray, List.set_cons_zero, List.set_cons_succ]
              refine RX.seqP_value (fun _ => Below.refl _ _) _ (by first | rfl | simp) (fun w' hw' hctx => by (go_simp); (try first | with_reducible rfl | simp)) ?_
              simp only [Act.put, List.setIfInBounds_toArray, List.set_cons_zero, List.set_cons_succ]
              refine RX.seqP_skip (by first | rfl | simp) ?_
              simp only [Act.put, List.setIfInBounds_toArray, List.set_cons_zero, List.set_cons_succ]
              refine RX.seqP_skip (by first | rfl | simp) ?_
              simp only [Act.put, List.setIfInBounds_toArray, List.set_cons_zero, List.set_cons_succ]
              refine RX.seqP_skip (by first | rfl | simp) ?_
              simp only [Act.put, List.setIfInBounds_toArray, List.set_cons_zero, List.set_cons_succ]
              refine RX.seqP_skip (by first | rfl | simp) ?_
              simp only [Act.put, List.setIfInBounds_toArray, List.set_cons_zero, List.set_cons_succ]
              refine RX.seqP_skip (by first | rfl | simp) ?_
              simp only [Act.put, List.setIfInBounds_toArray, List.set_cons_zero, List.set_cons_succ]
              refine RX.seqP_skip (by first | rfl | simp) ?_
              simp only [Act.put, List.setIfInBounds_toArray, List.set_cons_zero, List.set_cons_succ]
              refine RX.seqP_skip (by first | rfl | simp) ?_
              simp only [Act.put, List.setIfInBounds_toArray, List.set_cons_zero, List.set_cons_succ]
              refine RX.seqP_skip (by first | rfl | simp) ?_
              simp only [Act.put, List.setIfInBounds_toArray, List.set_cons_zero, List.set_cons_succ]
              refine RX.seqP_skip (by first | rfl | simp) ?_
              simp only [Act.put, List.setIfInBounds_toArray, List.set_cons_zero, List.set_cons_succ]
              refine RX.seqP_skip (by first | rfl | simp) ?_
              simp only [Act.put, List.setIfInBounds_toArray, List.set_cons_zero, List.set_cons_succ]
              refine RX.seqP_skip (by first | rfl | simp) ?_
              simp only [Act.put, List.setIfInBounds_toArray, List.set_cons_zero, List.set_cons_succ]
              refine RX.seqP_skip (by first | rfl | simp) ?_
              simp only [Act.put, List.setIfInBounds_toArray, List.set_cons_zero, List.set_cons_succ]
              refine RX.seqP_skip (by first | rfl | simp) ?_
              simp only [Act.put, List.setIfInBounds_toArray, List.set_cons_zero, List.set_cons_succ]
              refine RX.seqP_skip (by first | rfl | simp) ?_
              simp only [Act.put, List.setIfInBounds_toArray, List.set_cons_zero, List.set_cons_succ]
              refine RX.seqP_skip (by first | rfl | simp) ?_
              simp only [Act.put, List.setIfInBounds_toArray, List.set_cons_zero, List.set_cons_succ]
              refine RX.seqP_skip (by first | rfl | simp) ?_
              simp only [Act.put, List.setIfInBounds_toArray, List.set_cons_zero, List.set_cons_succ]
              refine RX.seqP_skip (by first | rfl | simp) ?_
              simp only [Act.put, List.setIfInBounds_toArray, List.set_cons_zero, List.set_cons_succ]
              refine RX.seqP_skip (by first | rfl | simp) ?_
              simp only [Act.put, List.setIfInBounds_toArray, List.set_cons_zero, List.set_cons_succ]
              refine RX.seqP_skip (by first | rfl | simp) ?_
              simp only [Act.put, List.setIfInBounds_toArray, List.set_cons_zero, List.set_cons_succ]
              refine RX.seqP_skip (by first | rfl | simp) ?_
              simp only [Act.put, List.setIfInBounds_toArray, List.set_cons_zero, List.set_cons_succ]
              refine RX.seqP_skip (by first | rfl | simp) ?_
              simp only [Act.put, List.setIfInBounds_toArray, List.set_cons_zero, List.set_cons_succ]
              refine RX.seqP_skip (by first | rfl | simp) ?_
              simp only [Act.put, List.setIfInBounds_toArray, List.set_cons_zero, List.set_cons_succ]
              refine RX.seqP_skip (by first | rfl | simp) ?_
              simp only [Act.put, List.setIfInBounds_toArray, List.set_cons_zero, List.set_cons_succ]
              refine RX.seqP_skip (by first | rfl | simp) ?_
              simp only [Act.put, List.setIfInBounds_toArray, List.set_cons_zero, List.set_cons_succ]
              refine RX.seqP_skip (by first | rfl | simp) ?_
              simp only [Act.put, List.setIfInBounds_toArray, List.set_cons_zero, List.set_cons_succ]
              refine RX.seqP_skip (by first | rfl | simp) ?_
              simp only [Act.put, List.setIfInBounds_toArray, List.set_cons_zero, List.set_cons_succ]
              refine RX.seqP_skip (by first | rfl | simp) ?_
              simp only [Act.put, List.setIfInBounds_toArray, List.set_cons_zero, List.set_cons_succ]
              refine RX.seqP_skip (by first | rfl | simp) ?_
              simp only [Act.put, List.setIfInBounds_toArray, List.set_cons_zero, List.set_cons_succ]
              refine RX.seqP_value (fun _ => Below.refl _ _) _ (by first | rfl | simp) (fun w' hw' hctx => by (go_simp); (try first | with_reducible rfl | simp)) ?_
              simp only [Act.put, List.setIfInBounds_toArray, List.set_cons_zero, List.set_cons_succ]
              refine RX.seqP_value (fun _ => Below.refl _ _) _ (by first | rfl | simp) (fun w' hw' hctx => by (go_simp); (try first | with_reducible rfl | simp)) ?_
              simp only [Act.put, List.setIfInBounds_toArray, List.set_cons_zero, List.set_cons_succ]
              refine RX.seqP_value (fun _ => Below.refl _ _) _ (by first | rfl | simp) (fun w' hw' hctx => by (go_simp); (try first | with_reducible rfl | simp)) ?_
              simp only [Act.put, List.setIfInBounds_toArray, List.set_cons_zero, List.set_cons_succ]
              refine RX.seqP_value (fun _ => Below.refl _ _) _ (by first | rfl | simp) (fun w' hw' hctx => ?_) ?_
              · have hve : (ve != 0) = true := HVE.out
                go_simp
                try first | with_reducible rfl | simp
              simp only [Act.put, List.setIfInBounds_toArray, List.set_cons_zero, List.set_cons_succ]
              refine RX.seqP_value (fun _ => Below.refl _ _) _ (by first | rfl | simp) (fun w' hw' hctx => by (go_simp); (try first | with_reducible rfl | simp)) ?_
              simp only [Act.put, List.setIfInBounds_toArray, List.set_cons_zero, List.set_cons_succ]
              refine RX.seqP_value (fun _ => Below.refl _ _) _ (by first | rfl | simp) (fun w' hw' hctx => ?_) ?_
              · have x0 := (HL1.out.below (below_tr hdr hw')).cell (o := 0) rfl
                have x1 := (HL1.out.below (below_tr hdr hw')).cell (o := 1) rfl
                have x2 := (HL1.out.below (below_tr hdr hw')).cell (o := 2) rfl
                have x3 := (HL1.out.below (below_tr hdr hw')).cell (o := 3) rfl
                have y0 := (HL2.out.below (below_tr hdr hw')).cell (o := 0) rfl
                have y1 := (HL2.out.below (below_tr hdr hw')).cell (o := 1) rfl
                have y2 := (HL2.out.below (below_tr hdr hw')).cell (o := 2) rfl
                have y3 := (HL2.out.below (below_tr hdr hw')).cell (o := 3) rfl
                unfold seenV
                go_simp
                try first | with_reducible rfl | simp
              simp only [Act.put, List.setIfInBounds_toArray, List.set_cons_zero, List.set_cons_succ]
              refine RX.seqP_value (fun _ => Below.refl _ _) _ (by first | rfl | simp) (fun w' hw' hctx => ?_) ?_
              · have x0 := (HL1.out.below (below_tr hdr hw')).cell (o := 0) rfl
                have x1 := (HL1.out.below (below_tr hdr hw')).cell (o := 1) rfl
                have x2 := (HL1.out.below (below_tr hdr hw')).cell (o := 2) rfl
                have x3 := (HL1.out.below (below_tr hdr hw')).cell (o := 3) rfl
                have y0 := (HL2.out.below (below_tr hdr hw')).cell (o := 0) rfl
                have y1 := (HL2.out.below (below_tr hdr hw')).cell (o := 1) rfl
                have y2 := (HL2.out.below (below_tr hdr hw')).cell (o := 2) rfl
                have y3 := (HL2.out.below (below_tr hdr hw')).cell (o := 3) rfl
                unfold seenV
                go_simp
                try first | with_reducible rfl | simp
              simp only [Act.put, List.setIfInBounds_toArray, List.set_cons_zero, List.set_cons_succ]
              refine RX.seqP_value (fun _ => Below.refl _ _) _ (by first | rfl | simp) (fun w' hw' hctx => ?_) ?_
              · have hne := neq_seen 3 tp 0 false w'
                unfold seenV
                go_simp
                try first | with_reducible rfl | simp
              simp only [Act.put, List.setIfInBounds_toArray, List.set_cons_zero, List.set_cons_succ]
              refine RX.seqP_value (fun _ => Below.refl _ _) _ (by first | rfl | simp) (fun w' hw' hctx => by (go_simp); (try first | with_reducible rfl | simp)) ?_
              simp only [Act.put, List.setIfInBounds_toArray, List.set_cons_zero, List.set_cons_succ]
              refine RX.seqP_value (fun _ => Below.refl _ _) _ (by first | rfl | simp) (fun w' hw' hctx => by (go_simp); (try first | with_reducible rfl | simp)) ?_
              simp only [Act.put, List.setIfInBounds_toArray, List.set_cons_zero, List.set_cons_succ]
              refine RX.seqP_nil (fun v2 hR hctx _ => ?_)
              have hb5 := below_tr hdr hR
              clear hctx hR
              have HB5 := Lib.hid (below_tr HB2.out (below_tr HV1.out hb5))
              clear hb5 hdr HV1 HL1 HL2
              go_wp2_with fail
              go_roundg (n - (k + 1))
              case measure => omega
              case rel => exact ⟨k + 1, by have hsm0 := HSM0.out; rw [show wrap64 ((k : Int) + 1) = (k : Int) + 1 from wr0 (by omega)]; exact congrArg (Value.int .i64) (by omega), by omega, Nat.le_refl _, HB5⟩
        · obtain rfl : k = n := by omega
          have hltz2 : ¬ (k : Int) < (k : Int) := by omega
          clear hlt2
          by_cases hv0 : ve = 0
          · subst hv0
            go_wp2_with fail
            go_roundg (n0 - (i + 1))
            case measure => omega
            case rel =>
              have hr := HRUN.out
              exact ⟨i + 1, F2, (by exact congrArg (Value.int .i64) (by omega)), by omega, by omega, Lib.hid (by rw [hr]; exact HOU.out.below HB2.out)⟩
          · have hve : (ve != 0) = true := by simpa using hv0
            have HUT2 := Lib.hid (HUT.out hv0)
            have hmn : m = k := by rw [← HM9.out, HUT2.out]; exact HN9.out
            subst hmn
            have hcon := one_last (HOU.out.below HB2.out) la (by rw [HUT2.out]; exact HLA.out)
            go_wp2_with fail
            refine (show Calls Try.prog _ _ _ _ from hcon).mono ?_
            rintro e w8 ⟨rfl, hb⟩
            have HB8 := Lib.hid (below_tr HB2.out hb)
            clear hcon hb
            go_wp2_with fail
            clear hve
            go_roundg (n0 - (i + 1))
            case measure => omega
            case rel =>
              have hr := HRUN.out
              exact ⟨i + 1, F2, (by exact congrArg (Value.int .i64) (by omega)), by omega, by omega, Lib.hid (by rw [hr]; exact HOU.out.below HB8.out)⟩
    · have hltz : ¬ (i : Int) < (n0 : Int) := by omega
      have HBL := Lib.hid HOT.out.bel
      clear hok hnum hsm hT HOT
      go_wp2_with fail
      go_ret
      exact ⟨rfl, HBL.out⟩

theorem stays_law (a0 : Option Addr) (c0 n0 : Nat) (l0 : List Stp) (hn0 : l0.length = n0) (w : World) (hs0 : SlSt w a0 c0 l0) :
    Calls Try.prog 5 #[.slice a0 n0 c0] w fun e w' => e = .returned (.bool true) ∧ Below w.heap.size w w' := by
  by_cases hz : 80 < n0
  · exact stays_large a0 c0 n0 l0 hn0 w hs0 hz
  · exact stays_main a0 c0 n0 l0 hn0 w hs0 (by omega)

end Go.Proofs.Ytebkcejamleojaa
