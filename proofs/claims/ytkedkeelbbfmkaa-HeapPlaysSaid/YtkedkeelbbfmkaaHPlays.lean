/-
  The law HeapPlays, walked.
-/
import Derived.Test.YtkedkeelbbfmkaaHPair
import Derived.Test.YtkedkeelbbfmkaaHLarge
import Derived.Test.YtkedkeelbbfmkaaRegL
import Derived.Test.YtkedkeelbbfmkaaRegX
import Derived.Test.YtkedkeelbbfmkaaERX
import Derived.Deep.CutBlock
import Derived.Deep.DeepCutAuto
namespace Go.Proofs.Ytkedkeelbbfmkaa
open Go.RowKit
set_option linter.unusedVariables false

/-- A row that tells the IDs of a number. -/
def IdsR (A : Ab) (x : Int) (W : World) (v : Value) : Prop := ∃ l, RowI W v l ∧ A.IsIDs x l
theorem IdsR.below {A : Ab} {x : Int} {W W' : World} {v : Value} (h : IdsR A x W v) (hb : Below W.heap.size W W') : IdsR A x W' v := by obtain ⟨l, h1, h2⟩ := h; exact ⟨l, RowF.below h1 hb, h2⟩
theorem ints_ids {A : Ab} {x : Int} {W : World} {u v : Value} (h1 : IdsR A x W u) (h2 : IdsR A x W v) :
    Calls Try.prog 25 #[u, v] W fun e w' => e = .returned (.bool true) ∧ Below W.heap.size W w' := by
  obtain ⟨l, a1, a2⟩ := h1
  obtain ⟨m, b1, b2⟩ := h2
  obtain rfl := a2.eq b2
  exact ints_is u v l l true (by simp) W a1 b1

set_option maxRecDepth 100000 in
set_option maxHeartbeats 8000000 in
theorem plays_law (a0 : Option Addr) (c0 n0 : Nat) (l0 : List Stp) (hn0 : l0.length = n0) (w : World) (hs0 : SlSt w a0 c0 l0) :
    Calls Try.prog 4 #[.slice a0 n0 c0] w fun e w' => e = .returned (.bool true) ∧ Below w.heap.size w w' := by
  have HS := Lib.hid hs0
  have HN := Lib.hid hn0
  clear hs0 hn0
  go_enter Try.func4, Try.ntmps4
  have hcon := large_is w a0 c0 n0 l0 HN.out HS.out
  go_wp2_with fail
  refine (show Calls Try.prog _ _ _ _ from hcon).mono ?_
  rintro e w1 ⟨v, rfl, hv, hw1⟩
  obtain rfl := hw1.symm
  clear hcon
  rcases hv with rfl | ⟨rfl, hf⟩
  · go_wp2_with fail
    go_ret
    exact ⟨rfl, Below.refl _ _⟩
  · have HF := Lib.hid hf
    clear hf
    have hcon := one_new (X := fun _ => False) (w0 := w) (Below.refl _ _) (fun _ h => h.elim)
    go_wp2_with fail
    refine (show Calls Try.prog _ _ _ _ from hcon).mono ?_
    rintro e w2 ⟨h, rfl, ho⟩
    have HO0 := Lib.hid ho
    clear hcon ho
    have hcon := par_new HO0.out
    go_wp2_with fail
    refine (show Calls Try.prog _ _ _ _ from hcon).mono ?_
    rintro e w3 ⟨x, rfl, hp⟩
    have HP0 := Lib.hid hp
    clear hcon hp HO0
    have h120 : n0 ≤ 120 := by have e1 := HF.out.1; have e2 := HN.out; omega
    go_wp2_with fail
    go_loopg [5] n0 (fun gg s5 wr => ∃ (A : Ab) (z y i : Nat), s5 = .int .i64 i ∧ i ≤ n0 ∧ n0 - i ≤ gg ∧ Hid (z ≤ 3 * i ∧ y ≤ i) ∧ Hid (Par w wr h A z x A y))
    case atStart => exact ⟨Ab.new, 0, 0, 0, rfl, Nat.zero_le _, by omega, Lib.hid ⟨Nat.le_refl _, Nat.le_refl _⟩, HP0⟩
    case round =>
      obtain ⟨A, z, y, i, rfl, hin, hgg, HI, HP⟩ := hrel
      clear HP0
      by_cases hlt : i < n0
      · have hltz : (i : Int) < (n0 : Int) := by omega
        have HL := Lib.hid (And.intro hlt (And.intro hin hgg))
        have HZ : Hid (z ≤ 400 ∧ y ≤ 400) := Lib.hid (by have e1 := HI.out; omega)
        have HOK := Lib.hid HP.out.ok
        have HLN : Hid (A.pl.length ≤ 40000) := Lib.hid (by have := HP.out.len; have := HZ.out; omega)
        clear hgg hin
        obtain ⟨st, sb, so, ra, rc, rn, hst, hmem, hrn, rfl, hrw, hwf, hbl, q0, q1, q2, q3, q4, q5, q6, q7, q8, q9, q10⟩ := step_at HS.out HP.out.bel HN.out hlt
        have HST := Lib.hid (And.intro hst (And.intro hrn (And.intro hwf (HF.out.2 st hmem))))
        have hcon := par_do HP.out st ra rc rn hrn (by have := HF.out.2 st hmem; omega) hwf hrw (by have := HZ.out; omega)
        unfold stpV at hcon
        clear hst hmem hrn hwf hrw
        have HRN : Hid (rn ≤ 1000000) := Lib.hid (by have := HF.out.2 st (List.mem_of_getElem? HST.out.1); have := HST.out.2.1; omega)
        obtain ⟨dv, hdv⟩ : ∃ dv, A.doV st = dv := ⟨_, rfl⟩
        obtain ⟨de, hde⟩ : ∃ de, A.doE st = de := ⟨_, rfl⟩
        obtain ⟨A', hA'⟩ : ∃ A', A.doA st = A' := ⟨_, rfl⟩
        rw [hdv, hde, hA'] at hcon
        have HDV := Lib.hid hdv
        have HDE := Lib.hid hde
        have HA' := Lib.hid hA'
        clear hdv hde hA'
        go_wp2_with fail
        refine (show Calls Try.prog _ _ _ _ from hcon).mono ?_
        rintro e w4 ⟨rfl, hp⟩
        have HP1 := Lib.hid hp
        clear hcon hp hbl q0 q1 q2 q3 q4 q5 q6 q7 q8 q9 q10 hlt HP
        obtain ⟨ra2, rc2, hrw2, -, ⟨hbl, -⟩, q0, q1, q2, q3, q4, q5, q6, q7, q8, q9, q10⟩ := step_re2 HS.out HP1.out.bel HST.out.1 HST.out.2.1
        go_upto_block 2 with (fail)
        go_cut [8, 9] (fun s8 s9 wx => s8 = .int .i64 dv ∧ s9 = .int .i64 de ∧ Hid (Par w wx h A' (z + 3) x A' (y + 1)))
        case first =>
          by_cases h0 : st.kind = 0
          · have e1 : A.ptV st.t = dv := by have h := HDV.out; unfold Ab.doV at h; rwa [if_pos h0] at h
            have e2 : A.ptE st.t = de := by have h := HDE.out; unfold Ab.doE at h; rwa [if_pos h0] at h
            have e3 : A.pt st.t = A' := by have h := HA'.out; unfold Ab.doA at h; rwa [if_pos h0] at h
            have k0 : (st.kind == 0) = true := by simpa using h0
            have hcon := par_put HP1.out st.t ra2 rc2 rn HST.out.2.1 HRN.out (by have := HZ.out; omega) HLN.out hrw2
            rw [e1, e2, e3] at hcon
            unfold tupV at hcon
            clear h0 e1 e2 e3
            go_wp2_with fail
            refine (show Calls Try.prog _ _ _ _ from hcon).mono ?_
            rintro e w6 ⟨rfl, hp⟩
            have HP2 := Lib.hid hp
            clear hrw2 hbl q0 q1 q2 q3 q4 q5 q6 q7 q8 q9 q10
            clear hcon hp HP1
            go_wp2_with fail
            go_meet
            exact ⟨rfl, rfl, HP2⟩
          · by_cases h1 : st.kind = 1
            · have e1 : (0 : Int) = dv := by have h := HDV.out; unfold Ab.doV at h; rwa [if_neg h0, if_pos h1] at h
              have e2 : A.atE st.slot = de := by have h := HDE.out; unfold Ab.doE at h; rwa [if_neg h0, if_pos h1] at h
              have e3 : A.kl st.slot st.a st.b = A' := by have h := HA'.out; unfold Ab.doA at h; rwa [if_neg h0, if_pos h1] at h
              have n0' : (st.kind == 0) = false := by simpa using h0
              have k1 : (st.kind == 1) = true := by simpa using h1
              subst e1
              have hd := below_drw w4
              have HPd := Lib.hid (HP1.out.below hd)
              have hk := par_kill HPd.out st.slot st.a st.b HLN.out HOK.out
              rw [e2, e3] at hk
              have HK := Lib.hid hk
              have HS0 : Hid (w4.drew.cell? ⟨sb, so + i * 11 + 8, none⟩ = some (.int .i64 st.slot) ∧ w4.drew.cell? ⟨sb, so + i * 11 + 9, none⟩ = some (.int .i64 st.a) ∧ w4.drew.cell? ⟨sb, so + i * 11 + 10, none⟩ = some (.int .i64 st.b) ∧ sb < w4.drew.heap.size) := Lib.hid ⟨by rw [hd.cell (p := ⟨sb, _, none⟩) hbl]; exact q8, by rw [hd.cell (p := ⟨sb, _, none⟩) hbl]; exact q9, by rw [hd.cell (p := ⟨sb, _, none⟩) hbl]; exact q10, Nat.lt_of_lt_of_le hbl hd.size⟩
              have mixed : Try.prog.follows Departure.mixedOrders = true := by kernel_rfl
              clear hd hk h0 h1 e2 e3
              go_upto_region 16 with (fail)
              clear hrw2 hbl q0 q1 q2 q3 q4 q5 q6 q7 q8 q9 q10
              clear HP1 HPd
              refine RX.wp_region_lastH 17 (fun W => W.cell? ⟨sb, so + i * 11 + 8, none⟩ = some (.int .i64 st.slot) ∧ W.cell? ⟨sb, so + i * 11 + 9, none⟩ = some (.int .i64 st.a) ∧ W.cell? ⟨sb, so + i * 11 + 10, none⟩ = some (.int .i64 st.b) ∧ sb < W.heap.size) mixed (by kernel_rfl) ?_
              simp only [List.take_succ_cons, List.take_zero, List.drop_succ_cons, List.drop_zero]
              refine wpAnyH_take (i := 0) (oi := _) (v := .pointer (some ⟨x, 0, none⟩)) rfl (by kernel_rfl) (by kernel_rfl) (by kernel_rfl) (fun _ _ _ h => h) (Or.inl ⟨by rfl, fun w' hw' => ?_⟩) (HS0.out) ?_
              · obtain ⟨j0, j1, j2, j3⟩ := hw'
                go_simp
                try first | with_reducible rfl | simp
              refine wpAnyH_take (i := 1) (oi := _) (v := .slice (some ⟨sb, so, none⟩) n0 c0) rfl (by kernel_rfl) (by kernel_rfl) (by kernel_rfl) (fun _ _ _ h => h) (Or.inl ⟨by rfl, fun w' hw' => ?_⟩) (HS0.out) ?_
              · obtain ⟨j0, j1, j2, j3⟩ := hw'
                go_simp
                try first | with_reducible rfl | simp
              refine wpAnyH_take (i := 2) (oi := _) (v := .int .i64 i) rfl (by kernel_rfl) (by kernel_rfl) (by kernel_rfl) (fun _ _ _ h => h) (Or.inl ⟨by rfl, fun w' hw' => ?_⟩) (HS0.out) ?_
              · obtain ⟨j0, j1, j2, j3⟩ := hw'
                go_simp
                try first | with_reducible rfl | simp
              refine wpAnyH_take (i := 3) (oi := _) (v := .pointer (some ⟨sb, so + i * 11, none⟩)) rfl (by kernel_rfl) (by kernel_rfl) (by kernel_rfl) (fun _ _ _ h => h) (Or.inl ⟨by rfl, fun w' hw' => ?_⟩) (HS0.out) ?_
              · obtain ⟨j0, j1, j2, j3⟩ := hw'
                go_simp
                try first | with_reducible rfl | simp
              refine wpAnyH_take (i := 4) (oi := _) (v := .pointer (some ⟨sb, so + i * 11 + 8, none⟩)) rfl (by kernel_rfl) (by kernel_rfl) (by kernel_rfl) (fun _ _ _ h => h) (Or.inl ⟨by rfl, fun w' hw' => ?_⟩) (HS0.out) ?_
              · obtain ⟨j0, j1, j2, j3⟩ := hw'
                go_simp
                try first | with_reducible rfl | simp
              refine wpAnyH_take (i := 5) (oi := _) (v := .int .i64 st.slot) rfl (by kernel_rfl) (by kernel_rfl) (by kernel_rfl) (fun _ _ _ h => h) (Or.inl ⟨by rfl, fun w' hw' => ?_⟩) (HS0.out) ?_
              · obtain ⟨j0, j1, j2, j3⟩ := hw'
                go_simp
                try first | with_reducible rfl | simp
              refine wpAnyH_take (i := 6) (oi := _) (v := .slice (some ⟨sb, so, none⟩) n0 c0) rfl (by kernel_rfl) (by kernel_rfl) (by kernel_rfl) (fun _ _ _ h => h) (Or.inl ⟨by rfl, fun w' hw' => ?_⟩) (HS0.out) ?_
              · obtain ⟨j0, j1, j2, j3⟩ := hw'
                go_simp
                try first | with_reducible rfl | simp
              refine wpAnyH_take (i := 7) (oi := _) (v := .int .i64 i) rfl (by kernel_rfl) (by kernel_rfl) (by kernel_rfl) (fun _ _ _ h => h) (Or.inl ⟨by rfl, fun w' hw' => ?_⟩) (HS0.out) ?_
              · obtain ⟨j0, j1, j2, j3⟩ := hw'
                go_simp
                try first | with_reducible rfl | simp
              refine wpAnyH_take (i := 8) (oi := _) (v := .pointer (some ⟨sb, so + i * 11, none⟩)) rfl (by kernel_rfl) (by kernel_rfl) (by kernel_rfl) (fun _ _ _ h => h) (Or.inl ⟨by rfl, fun w' hw' => ?_⟩) (HS0.out) ?_
              · obtain ⟨j0, j1, j2, j3⟩ := hw'
                go_simp
                try first | with_reducible rfl | simp
              refine wpAnyH_take (i := 9) (oi := _) (v := .pointer (some ⟨sb, so + i * 11 + 9, none⟩)) rfl (by kernel_rfl) (by kernel_rfl) (by kernel_rfl) (fun _ _ _ h => h) (Or.inl ⟨by rfl, fun w' hw' => ?_⟩) (HS0.out) ?_
              · obtain ⟨j0, j1, j2, j3⟩ := hw'
                go_simp
                try first | with_reducible rfl | simp
              refine wpAnyH_take (i := 10) (oi := _) (v := .int .i64 st.a) rfl (by kernel_rfl) (by kernel_rfl) (by kernel_rfl) (fun _ _ _ h => h) (Or.inl ⟨by rfl, fun w' hw' => ?_⟩) (HS0.out) ?_
              · obtain ⟨j0, j1, j2, j3⟩ := hw'
                go_simp
                try first | with_reducible rfl | simp
              refine wpAnyH_take (i := 11) (oi := _) (v := .slice (some ⟨sb, so, none⟩) n0 c0) rfl (by kernel_rfl) (by kernel_rfl) (by kernel_rfl) (fun _ _ _ h => h) (Or.inl ⟨by rfl, fun w' hw' => ?_⟩) (HS0.out) ?_
              · obtain ⟨j0, j1, j2, j3⟩ := hw'
                go_simp
                try first | with_reducible rfl | simp
              refine wpAnyH_take (i := 12) (oi := _) (v := .int .i64 i) rfl (by kernel_rfl) (by kernel_rfl) (by kernel_rfl) (fun _ _ _ h => h) (Or.inl ⟨by rfl, fun w' hw' => ?_⟩) (HS0.out) ?_
              · obtain ⟨j0, j1, j2, j3⟩ := hw'
                go_simp
                try first | with_reducible rfl | simp
              refine wpAnyH_take (i := 13) (oi := _) (v := .pointer (some ⟨sb, so + i * 11, none⟩)) rfl (by kernel_rfl) (by kernel_rfl) (by kernel_rfl) (fun _ _ _ h => h) (Or.inl ⟨by rfl, fun w' hw' => ?_⟩) (HS0.out) ?_
              · obtain ⟨j0, j1, j2, j3⟩ := hw'
                go_simp
                try first | with_reducible rfl | simp
              refine wpAnyH_take (i := 14) (oi := _) (v := .pointer (some ⟨sb, so + i * 11 + 10, none⟩)) rfl (by kernel_rfl) (by kernel_rfl) (by kernel_rfl) (fun _ _ _ h => h) (Or.inl ⟨by rfl, fun w' hw' => ?_⟩) (HS0.out) ?_
              · obtain ⟨j0, j1, j2, j3⟩ := hw'
                go_simp
                try first | with_reducible rfl | simp
              refine wpAnyH_take (i := 15) (oi := _) (v := .int .i64 st.b) rfl (by kernel_rfl) (by kernel_rfl) (by kernel_rfl) (fun _ _ _ h => h) (Or.inl ⟨by rfl, fun w' hw' => ?_⟩) (HS0.out) ?_
              · obtain ⟨j0, j1, j2, j3⟩ := hw'
                go_simp
                try first | with_reducible rfl | simp
              refine RX.anyH_call (i := 16) (f := 30) (args := #[.pointer (some ⟨x, 0, none⟩), .int .i64 st.slot, .int .i64 st.a, .int .i64 st.b]) (by kernel_rfl) rfl (by rfl) (by go_simp) ?_
              refine (show Calls Try.prog _ _ _ _ from HK.out).mono ?_
              rintro e w6 ⟨rfl, hp⟩
              have HP2 := Lib.hid hp
              obtain ⟨ra2, rc2, hrw2, -, ⟨hbl, -⟩, q0, q1, q2, q3, q4, q5, q6, q7, q8, q9, q10⟩ := step_re2 HS.out HP2.out.bel HST.out.1 HST.out.2.1
              have HS4 : Hid (w6.cell? ⟨sb, so + i * 11 + 8, none⟩ = some (.int .i64 st.slot) ∧ w6.cell? ⟨sb, so + i * 11 + 9, none⟩ = some (.int .i64 st.a) ∧ w6.cell? ⟨sb, so + i * 11 + 10, none⟩ = some (.int .i64 st.b) ∧ sb < w6.heap.size) := Lib.hid ⟨q8, q9, q10, hbl⟩
              clear hrw2 hbl q0 q1 q2 q3 q4 q5 q6 q7 q8 q9 q10
              clear hp HK HS0
              refine ⟨_, rfl, HS4.out, ?_⟩
              refine wpAnyH_done (by kernel_rfl) ?_ _
              unfold RX.lastQ
              go_wp2_with fail
              go_meet
              exact ⟨rfl, rfl, HP2⟩
            · by_cases h2 : st.kind = 2
              · have e1 : (0 : Int) = dv := by have h := HDV.out; unfold Ab.doV at h; rwa [if_neg h0, if_neg h1, if_pos h2] at h
                have e2 : A.atE st.slot = de := by have h := HDE.out; unfold Ab.doE at h; rwa [if_neg h0, if_neg h1, if_pos h2] at h
                have e3 : A.fe st.slot = A' := by have h := HA'.out; unfold Ab.doA at h; rwa [if_neg h0, if_neg h1, if_pos h2] at h
                have n0' : (st.kind == 0) = false := by simpa using h0
                have n1' : (st.kind == 1) = false := by simpa using h1
                have k2 : (st.kind == 2) = true := by simpa using h2
                subst e1
                have hcon := par_free HP1.out st.slot HLN.out HOK.out
                rw [e2, e3] at hcon
                clear h0 h1 h2 e2 e3
                go_wp2_with fail
                refine (show Calls Try.prog _ _ _ _ from hcon).mono ?_
                rintro e w6 ⟨rfl, hp⟩
                have HP2 := Lib.hid hp
                clear hrw2 hbl q0 q1 q2 q3 q4 q5 q6 q7 q8 q9 q10
                clear hcon hp HP1
                go_wp2_with fail
                go_meet
                exact ⟨rfl, rfl, HP2⟩
              · have e1 : A.nxV st.a = dv := by have h := HDV.out; unfold Ab.doV at h; rwa [if_neg h0, if_neg h1, if_neg h2] at h
                have e2 : (0 : Int) = de := by have h := HDE.out; unfold Ab.doE at h; rwa [if_neg h0, if_neg h1, if_neg h2] at h
                have e3 : A.nx st.a = A' := by have h := HA'.out; unfold Ab.doA at h; rwa [if_neg h0, if_neg h1, if_neg h2] at h
                have n0' : (st.kind == 0) = false := by simpa using h0
                have n1' : (st.kind == 1) = false := by simpa using h1
                have n2' : (st.kind == 2) = false := by simpa using h2
                subst e2
                have hcon := par_next HP1.out st.a (by have := HZ.out; omega) HOK.out
                rw [e1, e3] at hcon
                clear h0 h1 h2 e1 e3
                go_wp2_with fail
                refine (show Calls Try.prog _ _ _ _ from hcon).mono ?_
                rintro e w6 ⟨rfl, hp⟩
                have HP2 := Lib.hid hp
                clear hrw2 hbl q0 q1 q2 q3 q4 q5 q6 q7 q8 q9 q10
                clear hcon hp HP1 n0' n1' n2'
                go_wp2_with fail
                go_meet
                exact ⟨rfl, rfl, HP2⟩
        case rest =>
          obtain ⟨rfl, rfl, HP2⟩ := hcut
          clear hrw2 hbl q0 q1 q2 q3 q4 q5 q6 q7 q8 q9 q10 HP1
          obtain ⟨tt, htt⟩ : ∃ t, A'.atT st.slot = t := ⟨_, rfl⟩
          obtain ⟨vb, hvb⟩ : ∃ b, A'.atB st.slot = b := ⟨_, rfl⟩
          obtain ⟨tn, htn⟩ : ∃ n, tt.row.length = n := ⟨_, rfl⟩
          have HTT := Lib.hid htt
          have HVB := Lib.hid hvb
          have HTN := Lib.hid htn
          have HOK2 := Lib.hid HP2.out.ok
          have HLN2 : Hid (A'.pl.length ≤ 40000) := Lib.hid (by have := HP2.out.len; have := HZ.out; omega)
          clear htt hvb htn
          obtain ⟨ra2, rc2, hrw2, -, ⟨hbl, -⟩, q0, q1, q2, q3, q4, q5, q6, q7, q8, q9, q10⟩ := step_re2 HS.out HP2.out.bel HST.out.1 HST.out.2.1
          have hcon := par_at HP2.out st.slot (by have := HZ.out; omega) HTT.out HVB.out
          unfold tupV at hcon
          rw [HTN.out] at hcon
          go_wp2_with fail
          refine (show Calls Try.prog _ _ _ _ from hcon).mono ?_
          rintro e w7 ⟨va, vc, rfl, hb⟩
          obtain ⟨g, hg⟩ : ∃ g, w7.heap.size = g := ⟨_, rfl⟩
          obtain ⟨W1, hW1⟩ : ∃ W1, w7.alloc (.cells (tupC tt (.slice va tn vc)).toArray 28) = W1 := ⟨_, rfl⟩
          have l1 := Lit.new w7 28 (tupC tt (.slice va tn vc))
          have b1 := Below.allocs w7 (.cells (tupC tt (.slice va tn vc)).toArray 28)
          rw [hW1] at l1 b1
          rw [hg] at l1
          have HP4 := Lib.hid (HP2.out.below (below_tr hb b1))
          have HW1 := Lib.hid hW1
          have HG1 := Lib.hid hg
          unfold tupC at HW1
          clear hrw2 hbl q0 q1 q2 q3 q4 q5 q6 q7 q8 q9 q10
          clear hcon hb hW1 hg l1 b1 HP2
          go_upto_region 20 with (fail)
          rw [show w7.alloc _ = W1 from HW1.out, HG1.out]
          clear HW1 HG1
          obtain ⟨ra2, rc2, hrw2, -, ⟨hbl, -⟩, q0, q1, q2, q3, q4, q5, q6, q7, q8, q9, q10⟩ := step_re2 HS.out HP4.out.bel HST.out.1 HST.out.2.1
          have hcon := par_rat HP4.out st.slot HLN2.out HOK2.out HTT.out HVB.out
          unfold tupV at hcon
          rw [HTN.out] at hcon
          go_wp2_with fail
          refine (show Calls Try.prog _ _ _ _ from hcon).mono ?_
          rintro e w8 ⟨vd, ve, rfl, hb⟩
          have HP5 := Lib.hid (HP4.out.below hb)
          clear hrw2 hbl q0 q1 q2 q3 q4 q5 q6 q7 q8 q9 q10
          clear hcon hb HP4
          obtain ⟨g2, hg2⟩ : ∃ g, w8.heap.size = g := ⟨_, rfl⟩
          obtain ⟨W2, hW2⟩ : ∃ W, w8.alloc (.cells (tupC tt (.slice vd tn ve)).toArray 46) = W := ⟨_, rfl⟩
          have l2 := Lit.new w8 46 (tupC tt (.slice vd tn ve))
          have b2 := Below.allocs w8 (.cells (tupC tt (.slice vd tn ve)).toArray 46)
          rw [hW2] at l2 b2
          rw [hg2] at l2
          have HP6 := Lib.hid (HP5.out.below b2)
          have HW2 := Lib.hid hW2
          have HG2 := Lib.hid hg2
          unfold tupC at HW2
          clear hW2 hg2 l2 b2 HP5
          go_upto_region 21 with (fail)
          rw [show w8.alloc _ = W2 from HW2.out]
          try rw [HG2.out]
          clear HW2 HG2
          have HCS : Hid (∀ W', Below W2.heap.size W2 W' → sb < W'.heap.size ∧ W'.cell? ⟨sb, so + i * 11 + 9, none⟩ = some (.int .i64 st.a) ∧ W'.cell? ⟨sb, so + i * 11 + 10, none⟩ = some (.int .i64 st.b)) := Lib.hid (fun W' hb => by
            obtain ⟨ra2, rc2, -, -, ⟨e0, -⟩, -, -, -, -, -, -, -, -, -, e9, e10⟩ := step_re2 HS.out (HP6.out.below hb).bel HST.out.1 HST.out.2.1
            exact ⟨e0, e9, e10⟩)
          go_cut [174] (fun sx wx => sx = .bool false ∧ Hid (Par w wx h A' (z + 3) x A' (y + 1)))
          case first =>
            by_cases hm : i % 4 = 3
            · have hm1 : (i : Int).tmod 4 = 3 := by rw [Int.tmod_eq_emod_of_nonneg (by omega)]; omega
              have HM := Lib.hid hm1
              clear hm hm1
              have hdr := below_drw W2
              try simp only [List.append_eq, List.cons_append, List.nil_append]
              refine RX.wp_region_plan (fun w w' => Below w.heap.size w w') [.it (.int .i64 dv), .it (.int .i64 dv), .it (.bool false), .it (.bool false), .it (.int .i64 de), .it (.int .i64 de), .it (.bool false), .it (.bool false), .it (.bool false), .it (.bool vb), .it (.bool vb), .it (.bool false), .it (.bool false), .it (.bool false), .it (.int .i64 i), .it (.int .i64 3), .it (.bool true), .it (.bool true), .it (.pointer (some ⟨h, 0, none⟩)), .it (.pointer (some ⟨x, 0, none⟩)), .it (.bool true), .it (.bool false), .it (.bool false), .it (.bool false), .it (.bool false), .it (.pointer (some ⟨h, 0, none⟩)), .it (.slice (some ⟨sb, so, none⟩) n0 c0), .it (.int .i64 i), .it (.pointer (some ⟨sb, so + i * 11, none⟩)), .it (.pointer (some ⟨sb, so + i * 11 + 9, none⟩)), .it (.int .i64 st.a), .of ((fun w v => IdsR A' st.a w v)), .it (.pointer (some ⟨x, 0, none⟩)), .it (.slice (some ⟨sb, so, none⟩) n0 c0), .it (.int .i64 i), .it (.pointer (some ⟨sb, so + i * 11, none⟩)), .it (.pointer (some ⟨sb, so + i * 11 + 9, none⟩)), .it (.int .i64 st.a), .of ((fun w v => IdsR A' st.a w v)), .it (.bool true), .it (.bool false), .it (.bool false), .it (.bool false), .it (.pointer (some ⟨h, 0, none⟩)), .it (.slice (some ⟨sb, so, none⟩) n0 c0), .it (.int .i64 i), .it (.pointer (some ⟨sb, so + i * 11, none⟩)), .it (.pointer (some ⟨sb, so + i * 11 + 9, none⟩)), .it (.int .i64 st.a), .it (.slice (some ⟨sb, so, none⟩) n0 c0), .it (.int .i64 i), .it (.pointer (some ⟨sb, so + i * 11, none⟩)), .it (.pointer (some ⟨sb, so + i * 11 + 10, none⟩)), .it (.int .i64 st.b), .of ((fun w v => RowI w v (natI (A'.slots st.a st.b)))), .it (.pointer (some ⟨x, 0, none⟩)), .it (.slice (some ⟨sb, so, none⟩) n0 c0), .it (.int .i64 i), .it (.pointer (some ⟨sb, so + i * 11, none⟩)), .it (.pointer (some ⟨sb, so + i * 11 + 9, none⟩)), .it (.int .i64 st.a), .it (.slice (some ⟨sb, so, none⟩) n0 c0), .it (.int .i64 i), .it (.pointer (some ⟨sb, so + i * 11, none⟩)), .it (.pointer (some ⟨sb, so + i * 11 + 10, none⟩)), .it (.int .i64 st.b), .of ((fun w v => RowI w v (natI (A'.slots st.a st.b)))), .it (.bool true), .it (.bool false), .it (.bool false)] (by kernel_rfl) (by kernel_rfl) (fun _ => Below.refl _ _) (fun _ _ _ => below_tr) ?_
              refine RX.seqP_value (fun _ => Below.refl _ _) _ (by first | rfl | simp) (fun w' hw' hctx => by (go_simp); (try first | with_reducible rfl | simp)) ?_
              simp only [Act.put, List.setIfInBounds_toArray, List.set_cons_zero, List.set_cons_succ]
              refine RX.seqP_value (fun _ => Below.refl _ _) _ (by first | rfl | simp) (fun w' hw' hctx => by (go_simp); (try first | with_reducible rfl | simp)) ?_
              simp only [Act.put, List.setIfInBounds_toArray, List.set_cons_zero, List.set_cons_succ]
              refine RX.seqP_value (fun _ => Below.refl _ _) _ (by first | rfl | simp) (fun w' hw' hctx => by (go_simp); (try first | with_reducible rfl | simp)) ?_
              simp only [Act.put, List.setIfInBounds_toArray, List.set_cons_zero, List.set_cons_succ]
              refine RX.seqP_value (fun _ => Below.refl _ _) _ (by first | rfl | simp) (fun w' hw' hctx => by (go_simp); (try first | with_reducible rfl | simp)) ?_
              simp only [Act.put, List.setIfInBounds_toArray, List.set_cons_zero, List.set_cons_succ]
              refine RX.seqP_value (fun _ => Below.refl _ _) _ (by first | rfl | simp) (fun w' hw' hctx => by (go_simp); (try first | with_reducible rfl | simp)) ?_
              simp only [Act.put, List.setIfInBounds_toArray, List.set_cons_zero, List.set_cons_succ]
              refine RX.seqP_value (fun _ => Below.refl _ _) _ (by first | rfl | simp) (fun w' hw' hctx => by (go_simp); (try first | with_reducible rfl | simp)) ?_
              simp only [Act.put, List.setIfInBounds_toArray, List.set_cons_zero, List.set_cons_succ]
              refine RX.seqP_value (fun _ => Below.refl _ _) _ (by first | rfl | simp) (fun w' hw' hctx => by (go_simp); (try first | with_reducible rfl | simp)) ?_
              simp only [Act.put, List.setIfInBounds_toArray, List.set_cons_zero, List.set_cons_succ]
              refine RX.seqP_value (fun _ => Below.refl _ _) _ (by first | rfl | simp) (fun w' hw' hctx => by (go_simp); (try first | with_reducible rfl | simp)) ?_
              simp only [Act.put, List.setIfInBounds_toArray, List.set_cons_zero, List.set_cons_succ]
              refine RX.seqP_value (fun _ => Below.refl _ _) _ (by first | rfl | simp) (fun w' hw' hctx => by (go_simp); (try first | with_reducible rfl | simp)) ?_
              simp only [Act.put, List.setIfInBounds_toArray, List.set_cons_zero, List.set_cons_succ]
              refine RX.seqP_value (fun _ => Below.refl _ _) _ (by first | rfl | simp) (fun w' hw' hctx => by (go_simp); (try first | with_reducible rfl | simp)) ?_
              simp only [Act.put, List.setIfInBounds_toArray, List.set_cons_zero, List.set_cons_succ]
              refine RX.seqP_value (fun _ => Below.refl _ _) _ (by first | rfl | simp) (fun w' hw' hctx => by (go_simp); (try first | with_reducible rfl | simp)) ?_
              simp only [Act.put, List.setIfInBounds_toArray, List.set_cons_zero, List.set_cons_succ]
              refine RX.seqP_value (fun _ => Below.refl _ _) _ (by first | rfl | simp) (fun w' hw' hctx => by (go_simp); (try first | with_reducible rfl | simp)) ?_
              simp only [Act.put, List.setIfInBounds_toArray, List.set_cons_zero, List.set_cons_succ]
              refine RX.seqP_value (fun _ => Below.refl _ _) _ (by first | rfl | simp) (fun w' hw' hctx => by (go_simp); (try first | with_reducible rfl | simp)) ?_
              simp only [Act.put, List.setIfInBounds_toArray, List.set_cons_zero, List.set_cons_succ]
              refine RX.seqP_value (fun _ => Below.refl _ _) _ (by first | rfl | simp) (fun w' hw' hctx => by (go_simp); (try first | with_reducible rfl | simp)) ?_
              simp only [Act.put, List.setIfInBounds_toArray, List.set_cons_zero, List.set_cons_succ]
              refine RX.seqP_value (fun _ => Below.refl _ _) _ (by first | rfl | simp) (fun w' hw' hctx => by (go_simp); (try first | with_reducible rfl | simp)) ?_
              simp only [Act.put, List.setIfInBounds_toArray, List.set_cons_zero, List.set_cons_succ]
              refine RX.seqP_value (fun _ => Below.refl _ _) _ (by first | rfl | simp) (fun w' hw' hctx => ?_) ?_
              · have hm9 := HM.out
                go_simp
                try first | with_reducible rfl | simp
              simp only [Act.put, List.setIfInBounds_toArray, List.set_cons_zero, List.set_cons_succ]
              refine RX.seqP_value (fun _ => Below.refl _ _) _ (by first | rfl | simp) (fun w' hw' hctx => by (go_simp); (try first | with_reducible rfl | simp)) ?_
              simp only [Act.put, List.setIfInBounds_toArray, List.set_cons_zero, List.set_cons_succ]
              refine RX.seqP_value (fun _ => Below.refl _ _) _ (by first | rfl | simp) (fun w' hw' hctx => by (go_simp); (try first | with_reducible rfl | simp)) ?_
              simp only [Act.put, List.setIfInBounds_toArray, List.set_cons_zero, List.set_cons_succ]
              refine RX.seqP_value (fun _ => Below.refl _ _) _ (by first | rfl | simp) (fun w' hw' hctx => by (go_simp); (try first | with_reducible rfl | simp)) ?_
              simp only [Act.put, List.setIfInBounds_toArray, List.set_cons_zero, List.set_cons_succ]
              refine RX.seqP_value (fun _ => Below.refl _ _) _ (by first | rfl | simp) (fun w' hw' hctx => by (go_simp); (try first | with_reducible rfl | simp)) ?_
              simp only [Act.put, List.setIfInBounds_toArray, List.set_cons_zero, List.set_cons_succ]
              refine RX.seqP_call (34) #[.pointer (some ⟨h, 0, none⟩), .pointer (some ⟨x, 0, none⟩)] (.bool true) (by first | rfl | simp) (fun w' hw' hctx => ?_) (fun w' hw' hctx => par_same (HP6.out.below (below_tr hdr hw')) (by have := HZ.out; omega)) ?_
              · go_simp
              simp only [Act.put, List.setIfInBounds_toArray, List.set_cons_zero, List.set_cons_succ]
              refine RX.seqP_value (fun _ => Below.refl _ _) _ (by first | rfl | simp) (fun w' hw' hctx => by (go_simp); (try first | with_reducible rfl | simp)) ?_
              simp only [Act.put, List.setIfInBounds_toArray, List.set_cons_zero, List.set_cons_succ]
              refine RX.seqP_value (fun _ => Below.refl _ _) _ (by first | rfl | simp) (fun w' hw' hctx => by (go_simp); (try first | with_reducible rfl | simp)) ?_
              simp only [Act.put, List.setIfInBounds_toArray, List.set_cons_zero, List.set_cons_succ]
              refine RX.seqP_value (fun _ => Below.refl _ _) _ (by first | rfl | simp) (fun w' hw' hctx => by (go_simp); (try first | with_reducible rfl | simp)) ?_
              simp only [Act.put, List.setIfInBounds_toArray, List.set_cons_zero, List.set_cons_succ]
              refine RX.seqP_value (fun _ => Below.refl _ _) _ (by first | rfl | simp) (fun w' hw' hctx => by (go_simp); (try first | with_reducible rfl | simp)) ?_
              simp only [Act.put, List.setIfInBounds_toArray, List.set_cons_zero, List.set_cons_succ]
              refine RX.seqP_value (fun _ => Below.refl _ _) _ (by first | rfl | simp) (fun w' hw' hctx => by (go_simp); (try first | with_reducible rfl | simp)) ?_
              simp only [Act.put, List.setIfInBounds_toArray, List.set_cons_zero, List.set_cons_succ]
              refine RX.seqP_value (fun _ => Below.refl _ _) _ (by first | rfl | simp) (fun w' hw' hctx => by (go_simp); (try first | with_reducible rfl | simp)) ?_
              simp only [Act.put, List.setIfInBounds_toArray, List.set_cons_zero, List.set_cons_succ]
              refine RX.seqP_value (fun _ => Below.refl _ _) _ (by first | rfl | simp) (fun w' hw' hctx => by (go_simp); (try first | with_reducible rfl | simp)) ?_
              simp only [Act.put, List.setIfInBounds_toArray, List.set_cons_zero, List.set_cons_succ]
              refine RX.seqP_value (fun _ => Below.refl _ _) _ (by first | rfl | simp) (fun w' hw' hctx => by (go_simp); (try first | with_reducible rfl | simp)) ?_
              simp only [Act.put, List.setIfInBounds_toArray, List.set_cons_zero, List.set_cons_succ]
              refine RX.seqP_value (fun _ => Below.refl _ _) _ (by first | rfl | simp) (fun w' hw' hctx => by (go_simp); (try first | with_reducible rfl | simp)) ?_
              simp only [Act.put, List.setIfInBounds_toArray, List.set_cons_zero, List.set_cons_succ]
              refine RX.seqP_value (fun _ => Below.refl _ _) _ (by first | rfl | simp) (fun w' hw' hctx => ?_) ?_
              · obtain ⟨e1, e2, e3⟩ := HCS.out w' (below_tr hdr hw')
                go_simp
                try first | with_reducible rfl | simp
              simp only [Act.put, List.setIfInBounds_toArray, List.set_cons_zero, List.set_cons_succ]
              refine RX.seqP_callOf (18) #[.pointer (some ⟨h, 0, none⟩), .int .i64 st.a] ((fun w v => IdsR A' st.a w v)) (fun w w' v hb h => h.below hb) (by first | rfl | simp) (fun w' hw' hctx => ?_) (fun w' hw' hctx => ((par_ids (HP6.out.below (below_tr hdr hw')) st.a HST.out.2.2.1.a (by have := HZ.out; omega)).mono fun e w2 ⟨v, he, l, hr, hi, hb⟩ => ⟨v, he, hb, l, hr, hi⟩)) (fun u31 => ?_)
              · go_simp
              simp only [Act.put, List.setIfInBounds_toArray, List.set_cons_zero, List.set_cons_succ]
              refine RX.seqP_value (fun _ => Below.refl _ _) _ (by first | rfl | simp) (fun w' hw' hctx => by (go_simp); (try first | with_reducible rfl | simp)) ?_
              simp only [Act.put, List.setIfInBounds_toArray, List.set_cons_zero, List.set_cons_succ]
              refine RX.seqP_value (fun _ => Below.refl _ _) _ (by first | rfl | simp) (fun w' hw' hctx => by (go_simp); (try first | with_reducible rfl | simp)) ?_
              simp only [Act.put, List.setIfInBounds_toArray, List.set_cons_zero, List.set_cons_succ]
              refine RX.seqP_value (fun _ => Below.refl _ _) _ (by first | rfl | simp) (fun w' hw' hctx => by (go_simp); (try first | with_reducible rfl | simp)) ?_
              simp only [Act.put, List.setIfInBounds_toArray, List.set_cons_zero, List.set_cons_succ]
              refine RX.seqP_value (fun _ => Below.refl _ _) _ (by first | rfl | simp) (fun w' hw' hctx => by (go_simp); (try first | with_reducible rfl | simp)) ?_
              simp only [Act.put, List.setIfInBounds_toArray, List.set_cons_zero, List.set_cons_succ]
              refine RX.seqP_value (fun _ => Below.refl _ _) _ (by first | rfl | simp) (fun w' hw' hctx => by (go_simp); (try first | with_reducible rfl | simp)) ?_
              simp only [Act.put, List.setIfInBounds_toArray, List.set_cons_zero, List.set_cons_succ]
              refine RX.seqP_value (fun _ => Below.refl _ _) _ (by first | rfl | simp) (fun w' hw' hctx => ?_) ?_
              · obtain ⟨e1, e2, e3⟩ := HCS.out w' (below_tr hdr hw')
                go_simp
                try first | with_reducible rfl | simp
              simp only [Act.put, List.setIfInBounds_toArray, List.set_cons_zero, List.set_cons_succ]
              refine RX.seqP_callOf (35) #[.pointer (some ⟨x, 0, none⟩), .int .i64 st.a] ((fun w v => IdsR A' st.a w v)) (fun w w' v hb h => h.below hb) (by first | rfl | simp) (fun w' hw' hctx => ?_) (fun w' hw' hctx => ((par_rids (HP6.out.below (below_tr hdr hw')) st.a HLN2.out).mono fun e w2 ⟨v, he, l, hr, hi, hb⟩ => ⟨v, he, hb, l, hr, hi⟩)) (fun u38 => ?_)
              · go_simp
              simp only [Act.put, List.setIfInBounds_toArray, List.set_cons_zero, List.set_cons_succ]
              refine RX.seqP_call (25) #[u31, u38] (.bool true) (by first | rfl | simp) (fun w' hw' hctx => ?_) (fun w' hw' hctx => ints_ids hctx.2.1 hctx.1) ?_
              · go_simp
              simp only [Act.put, List.setIfInBounds_toArray, List.set_cons_zero, List.set_cons_succ]
              refine RX.seqP_value (fun _ => Below.refl _ _) _ (by first | rfl | simp) (fun w' hw' hctx => by (go_simp); (try first | with_reducible rfl | simp)) ?_
              simp only [Act.put, List.setIfInBounds_toArray, List.set_cons_zero, List.set_cons_succ]
              refine RX.seqP_value (fun _ => Below.refl _ _) _ (by first | rfl | simp) (fun w' hw' hctx => by (go_simp); (try first | with_reducible rfl | simp)) ?_
              simp only [Act.put, List.setIfInBounds_toArray, List.set_cons_zero, List.set_cons_succ]
              refine RX.seqP_value (fun _ => Below.refl _ _) _ (by first | rfl | simp) (fun w' hw' hctx => by (go_simp); (try first | with_reducible rfl | simp)) ?_
              simp only [Act.put, List.setIfInBounds_toArray, List.set_cons_zero, List.set_cons_succ]
              refine RX.seqP_value (fun _ => Below.refl _ _) _ (by first | rfl | simp) (fun w' hw' hctx => by (go_simp); (try first | with_reducible rfl | simp)) ?_
              simp only [Act.put, List.setIfInBounds_toArray, List.set_cons_zero, List.set_cons_succ]
              refine RX.seqP_value (fun _ => Below.refl _ _) _ (by first | rfl | simp) (fun w' hw' hctx => by (go_simp); (try first | with_reducible rfl | simp)) ?_
              simp only [Act.put, List.setIfInBounds_toArray, List.set_cons_zero, List.set_cons_succ]
              refine RX.seqP_value (fun _ => Below.refl _ _) _ (by first | rfl | simp) (fun w' hw' hctx => by (go_simp); (try first | with_reducible rfl | simp)) ?_
              simp only [Act.put, List.setIfInBounds_toArray, List.set_cons_zero, List.set_cons_succ]
              refine RX.seqP_value (fun _ => Below.refl _ _) _ (by first | rfl | simp) (fun w' hw' hctx => by (go_simp); (try first | with_reducible rfl | simp)) ?_
              simp only [Act.put, List.setIfInBounds_toArray, List.set_cons_zero, List.set_cons_succ]
              refine RX.seqP_value (fun _ => Below.refl _ _) _ (by first | rfl | simp) (fun w' hw' hctx => by (go_simp); (try first | with_reducible rfl | simp)) ?_
              simp only [Act.put, List.setIfInBounds_toArray, List.set_cons_zero, List.set_cons_succ]
              refine RX.seqP_value (fun _ => Below.refl _ _) _ (by first | rfl | simp) (fun w' hw' hctx => ?_) ?_
              · obtain ⟨e1, e2, e3⟩ := HCS.out w' (below_tr hdr hw')
                go_simp
                try first | with_reducible rfl | simp
              simp only [Act.put, List.setIfInBounds_toArray, List.set_cons_zero, List.set_cons_succ]
              refine RX.seqP_value (fun _ => Below.refl _ _) _ (by first | rfl | simp) (fun w' hw' hctx => by (go_simp); (try first | with_reducible rfl | simp)) ?_
              simp only [Act.put, List.setIfInBounds_toArray, List.set_cons_zero, List.set_cons_succ]
              refine RX.seqP_value (fun _ => Below.refl _ _) _ (by first | rfl | simp) (fun w' hw' hctx => by (go_simp); (try first | with_reducible rfl | simp)) ?_
              simp only [Act.put, List.setIfInBounds_toArray, List.set_cons_zero, List.set_cons_succ]
              refine RX.seqP_value (fun _ => Below.refl _ _) _ (by first | rfl | simp) (fun w' hw' hctx => by (go_simp); (try first | with_reducible rfl | simp)) ?_
              simp only [Act.put, List.setIfInBounds_toArray, List.set_cons_zero, List.set_cons_succ]
              refine RX.seqP_value (fun _ => Below.refl _ _) _ (by first | rfl | simp) (fun w' hw' hctx => by (go_simp); (try first | with_reducible rfl | simp)) ?_
              simp only [Act.put, List.setIfInBounds_toArray, List.set_cons_zero, List.set_cons_succ]
              refine RX.seqP_value (fun _ => Below.refl _ _) _ (by first | rfl | simp) (fun w' hw' hctx => ?_) ?_
              · obtain ⟨e1, e2, e3⟩ := HCS.out w' (below_tr hdr hw')
                go_simp
                try first | with_reducible rfl | simp
              simp only [Act.put, List.setIfInBounds_toArray, List.set_cons_zero, List.set_cons_succ]
              refine RX.seqP_callOf (17) #[.pointer (some ⟨h, 0, none⟩), .int .i64 st.a, .int .i64 st.b] ((fun w v => RowI w v (natI (A'.slots st.a st.b)))) (fun w w' v hb h => h.below hb) (by first | rfl | simp) (fun w' hw' hctx => ?_) (fun w' hw' hctx => ((par_slots (HP6.out.below (below_tr hdr hw')) st.a st.b HST.out.2.2.1.a HST.out.2.2.1.b (by have := HZ.out; omega)).mono fun e w2 ⟨v, he, hr, hb⟩ => ⟨v, he, hb, hr⟩)) (fun u54 => ?_)
              · go_simp
              simp only [Act.put, List.setIfInBounds_toArray, List.set_cons_zero, List.set_cons_succ]
              refine RX.seqP_value (fun _ => Below.refl _ _) _ (by first | rfl | simp) (fun w' hw' hctx => by (go_simp); (try first | with_reducible rfl | simp)) ?_
              simp only [Act.put, List.setIfInBounds_toArray, List.set_cons_zero, List.set_cons_succ]
              refine RX.seqP_value (fun _ => Below.refl _ _) _ (by first | rfl | simp) (fun w' hw' hctx => by (go_simp); (try first | with_reducible rfl | simp)) ?_
              simp only [Act.put, List.setIfInBounds_toArray, List.set_cons_zero, List.set_cons_succ]
              refine RX.seqP_value (fun _ => Below.refl _ _) _ (by first | rfl | simp) (fun w' hw' hctx => by (go_simp); (try first | with_reducible rfl | simp)) ?_
              simp only [Act.put, List.setIfInBounds_toArray, List.set_cons_zero, List.set_cons_succ]
              refine RX.seqP_value (fun _ => Below.refl _ _) _ (by first | rfl | simp) (fun w' hw' hctx => by (go_simp); (try first | with_reducible rfl | simp)) ?_
              simp only [Act.put, List.setIfInBounds_toArray, List.set_cons_zero, List.set_cons_succ]
              refine RX.seqP_value (fun _ => Below.refl _ _) _ (by first | rfl | simp) (fun w' hw' hctx => by (go_simp); (try first | with_reducible rfl | simp)) ?_
              simp only [Act.put, List.setIfInBounds_toArray, List.set_cons_zero, List.set_cons_succ]
              refine RX.seqP_value (fun _ => Below.refl _ _) _ (by first | rfl | simp) (fun w' hw' hctx => ?_) ?_
              · obtain ⟨e1, e2, e3⟩ := HCS.out w' (below_tr hdr hw')
                go_simp
                try first | with_reducible rfl | simp
              simp only [Act.put, List.setIfInBounds_toArray, List.set_cons_zero, List.set_cons_succ]
              refine RX.seqP_value (fun _ => Below.refl _ _) _ (by first | rfl | simp) (fun w' hw' hctx => by (go_simp); (try first | with_reducible rfl | simp)) ?_
              simp only [Act.put, List.setIfInBounds_toArray, List.set_cons_zero, List.set_cons_succ]
              refine RX.seqP_value (fun _ => Below.refl _ _) _ (by first | rfl | simp) (fun w' hw' hctx => by (go_simp); (try first | with_reducible rfl | simp)) ?_
              simp only [Act.put, List.setIfInBounds_toArray, List.set_cons_zero, List.set_cons_succ]
              refine RX.seqP_value (fun _ => Below.refl _ _) _ (by first | rfl | simp) (fun w' hw' hctx => by (go_simp); (try first | with_reducible rfl | simp)) ?_
              simp only [Act.put, List.setIfInBounds_toArray, List.set_cons_zero, List.set_cons_succ]
              refine RX.seqP_value (fun _ => Below.refl _ _) _ (by first | rfl | simp) (fun w' hw' hctx => by (go_simp); (try first | with_reducible rfl | simp)) ?_
              simp only [Act.put, List.setIfInBounds_toArray, List.set_cons_zero, List.set_cons_succ]
              refine RX.seqP_value (fun _ => Below.refl _ _) _ (by first | rfl | simp) (fun w' hw' hctx => ?_) ?_
              · obtain ⟨e1, e2, e3⟩ := HCS.out w' (below_tr hdr hw')
                go_simp
                try first | with_reducible rfl | simp
              simp only [Act.put, List.setIfInBounds_toArray, List.set_cons_zero, List.set_cons_succ]
              refine RX.seqP_callOf (36) #[.pointer (some ⟨x, 0, none⟩), .int .i64 st.a, .int .i64 st.b] ((fun w v => RowI w v (natI (A'.slots st.a st.b)))) (fun w w' v hb h => h.below hb) (by first | rfl | simp) (fun w' hw' hctx => ?_) (fun w' hw' hctx => ((par_rslots (HP6.out.below (below_tr hdr hw')) st.a st.b HLN2.out).mono fun e w2 ⟨v, he, hr, hb⟩ => ⟨v, he, hb, hr⟩)) (fun u66 => ?_)
              · go_simp
              simp only [Act.put, List.setIfInBounds_toArray, List.set_cons_zero, List.set_cons_succ]
              refine RX.seqP_call (25) #[u54, u66] (.bool true) (by first | rfl | simp) (fun w' hw' hctx => ?_) (fun w' hw' hctx => ints_is u54 u66 _ _ true (by simp) w' hctx.2.1 hctx.1) ?_
              · go_simp
              simp only [Act.put, List.setIfInBounds_toArray, List.set_cons_zero, List.set_cons_succ]
              refine RX.seqP_value (fun _ => Below.refl _ _) _ (by first | rfl | simp) (fun w' hw' hctx => by (go_simp); (try first | with_reducible rfl | simp)) ?_
              simp only [Act.put, List.setIfInBounds_toArray, List.set_cons_zero, List.set_cons_succ]
              refine RX.seqP_value (fun _ => Below.refl _ _) _ (by first | rfl | simp) (fun w' hw' hctx => by (go_simp); (try first | with_reducible rfl | simp)) ?_
              simp only [Act.put, List.setIfInBounds_toArray, List.set_cons_zero, List.set_cons_succ]
              refine RX.seqP_nil (fun v5 hR hctx _ => ?_)
              have hv5 := below_tr hdr hR
              clear hctx hR
              have HP7 := Lib.hid (HP6.out.below hv5)
              clear hv5 hdr
              go_wp2_with fail
              go_meet
              exact ⟨rfl, HP7⟩
            · obtain ⟨mv, hmv⟩ : ∃ mv, (i : Int).tmod 4 = mv := ⟨_, rfl⟩
              have hm1 : (mv == 3) = false := by rw [← hmv, beq_eq_false_iff_ne, Int.tmod_eq_emod_of_nonneg (by omega)]; omega
              have HM := Lib.hid hmv
              have HM1 := Lib.hid hm1
              clear hm hm1 hmv
              have hdr := below_drw W2
              try simp only [List.append_eq, List.cons_append, List.nil_append]
              refine RX.wp_region_plan (fun w w' => Below w.heap.size w w') [.it (.int .i64 dv), .it (.int .i64 dv), .it (.bool false), .it (.bool false), .it (.int .i64 de), .it (.int .i64 de), .it (.bool false), .it (.bool false), .it (.bool false), .it (.bool vb), .it (.bool vb), .it (.bool false), .it (.bool false), .it (.bool false), .it (.int .i64 i), .it (.int .i64 mv), .it (.bool false), .it (.bool false), .it undef, .it undef, .it undef, .it undef, .it (.bool false), .it (.bool false), .it (.bool false), .it (.pointer (some ⟨h, 0, none⟩)), .it (.slice (some ⟨sb, so, none⟩) n0 c0), .it (.int .i64 i), .it (.pointer (some ⟨sb, so + i * 11, none⟩)), .it (.pointer (some ⟨sb, so + i * 11 + 9, none⟩)), .it (.int .i64 st.a), .of ((fun w v => IdsR A' st.a w v)), .it (.pointer (some ⟨x, 0, none⟩)), .it (.slice (some ⟨sb, so, none⟩) n0 c0), .it (.int .i64 i), .it (.pointer (some ⟨sb, so + i * 11, none⟩)), .it (.pointer (some ⟨sb, so + i * 11 + 9, none⟩)), .it (.int .i64 st.a), .of ((fun w v => IdsR A' st.a w v)), .it (.bool true), .it (.bool false), .it (.bool false), .it (.bool false), .it (.pointer (some ⟨h, 0, none⟩)), .it (.slice (some ⟨sb, so, none⟩) n0 c0), .it (.int .i64 i), .it (.pointer (some ⟨sb, so + i * 11, none⟩)), .it (.pointer (some ⟨sb, so + i * 11 + 9, none⟩)), .it (.int .i64 st.a), .it (.slice (some ⟨sb, so, none⟩) n0 c0), .it (.int .i64 i), .it (.pointer (some ⟨sb, so + i * 11, none⟩)), .it (.pointer (some ⟨sb, so + i * 11 + 10, none⟩)), .it (.int .i64 st.b), .of ((fun w v => RowI w v (natI (A'.slots st.a st.b)))), .it (.pointer (some ⟨x, 0, none⟩)), .it (.slice (some ⟨sb, so, none⟩) n0 c0), .it (.int .i64 i), .it (.pointer (some ⟨sb, so + i * 11, none⟩)), .it (.pointer (some ⟨sb, so + i * 11 + 9, none⟩)), .it (.int .i64 st.a), .it (.slice (some ⟨sb, so, none⟩) n0 c0), .it (.int .i64 i), .it (.pointer (some ⟨sb, so + i * 11, none⟩)), .it (.pointer (some ⟨sb, so + i * 11 + 10, none⟩)), .it (.int .i64 st.b), .of ((fun w v => RowI w v (natI (A'.slots st.a st.b)))), .it (.bool true), .it (.bool false), .it (.bool false)] (by kernel_rfl) (by kernel_rfl) (fun _ => Below.refl _ _) (fun _ _ _ => below_tr) ?_
              refine RX.seqP_value (fun _ => Below.refl _ _) _ (by first | rfl | simp) (fun w' hw' hctx => by (go_simp); (try first | with_reducible rfl | simp)) ?_
              simp only [Act.put, List.setIfInBounds_toArray, List.set_cons_zero, List.set_cons_succ]
              refine RX.seqP_value (fun _ => Below.refl _ _) _ (by first | rfl | simp) (fun w' hw' hctx => by (go_simp); (try first | with_reducible rfl | simp)) ?_
              simp only [Act.put, List.setIfInBounds_toArray, List.set_cons_zero, List.set_cons_succ]
              refine RX.seqP_value (fun _ => Below.refl _ _) _ (by first | rfl | simp) (fun w' hw' hctx => by (go_simp); (try first | with_reducible rfl | simp)) ?_
              simp only [Act.put, List.setIfInBounds_toArray, List.set_cons_zero, List.set_cons_succ]
              refine RX.seqP_value (fun _ => Below.refl _ _) _ (by first | rfl | simp) (fun w' hw' hctx => by (go_simp); (try first | with_reducible rfl | simp)) ?_
              simp only [Act.put, List.setIfInBounds_toArray, List.set_cons_zero, List.set_cons_succ]
              refine RX.seqP_value (fun _ => Below.refl _ _) _ (by first | rfl | simp) (fun w' hw' hctx => by (go_simp); (try first | with_reducible rfl | simp)) ?_
              simp only [Act.put, List.setIfInBounds_toArray, List.set_cons_zero, List.set_cons_succ]
              refine RX.seqP_value (fun _ => Below.refl _ _) _ (by first | rfl | simp) (fun w' hw' hctx => by (go_simp); (try first | with_reducible rfl | simp)) ?_
              simp only [Act.put, List.setIfInBounds_toArray, List.set_cons_zero, List.set_cons_succ]
              refine RX.seqP_value (fun _ => Below.refl _ _) _ (by first | rfl | simp) (fun w' hw' hctx => by (go_simp); (try first | with_reducible rfl | simp)) ?_
              simp only [Act.put, List.setIfInBounds_toArray, List.set_cons_zero, List.set_cons_succ]
              refine RX.seqP_value (fun _ => Below.refl _ _) _ (by first | rfl | simp) (fun w' hw' hctx => by (go_simp); (try first | with_reducible rfl | simp)) ?_
              simp only [Act.put, List.setIfInBounds_toArray, List.set_cons_zero, List.set_cons_succ]
              refine RX.seqP_value (fun _ => Below.refl _ _) _ (by first | rfl | simp) (fun w' hw' hctx => by (go_simp); (try first | with_reducible rfl | simp)) ?_
              simp only [Act.put, List.setIfInBounds_toArray, List.set_cons_zero, List.set_cons_succ]
              refine RX.seqP_value (fun _ => Below.refl _ _) _ (by first | rfl | simp) (fun w' hw' hctx => by (go_simp); (try first | with_reducible rfl | simp)) ?_
              simp only [Act.put, List.setIfInBounds_toArray, List.set_cons_zero, List.set_cons_succ]
              refine RX.seqP_value (fun _ => Below.refl _ _) _ (by first | rfl | simp) (fun w' hw' hctx => by (go_simp); (try first | with_reducible rfl | simp)) ?_
              simp only [Act.put, List.setIfInBounds_toArray, List.set_cons_zero, List.set_cons_succ]
              refine RX.seqP_value (fun _ => Below.refl _ _) _ (by first | rfl | simp) (fun w' hw' hctx => by (go_simp); (try first | with_reducible rfl | simp)) ?_
              simp only [Act.put, List.setIfInBounds_toArray, List.set_cons_zero, List.set_cons_succ]
              refine RX.seqP_value (fun _ => Below.refl _ _) _ (by first | rfl | simp) (fun w' hw' hctx => by (go_simp); (try first | with_reducible rfl | simp)) ?_
              simp only [Act.put, List.setIfInBounds_toArray, List.set_cons_zero, List.set_cons_succ]
              refine RX.seqP_value (fun _ => Below.refl _ _) _ (by first | rfl | simp) (fun w' hw' hctx => by (go_simp); (try first | with_reducible rfl | simp)) ?_
              simp only [Act.put, List.setIfInBounds_toArray, List.set_cons_zero, List.set_cons_succ]
              refine RX.seqP_value (fun _ => Below.refl _ _) _ (by first | rfl | simp) (fun w' hw' hctx => by (go_simp); (try first | with_reducible rfl | simp)) ?_
              simp only [Act.put, List.setIfInBounds_toArray, List.set_cons_zero, List.set_cons_succ]
              refine RX.seqP_value (fun _ => Below.refl _ _) _ (by first | rfl | simp) (fun w' hw' hctx => ?_) ?_
              · have hm9 := HM.out
                go_simp
                try first | with_reducible rfl | simp
              simp only [Act.put, List.setIfInBounds_toArray, List.set_cons_zero, List.set_cons_succ]
              refine RX.seqP_value (fun _ => Below.refl _ _) _ (by first | rfl | simp) (fun w' hw' hctx => ?_) ?_
              · have hm9 := HM1.out
                go_simp
                try first | with_reducible rfl | simp
              simp only [Act.put, List.setIfInBounds_toArray, List.set_cons_zero, List.set_cons_succ]
              refine RX.seqP_value (fun _ => Below.refl _ _) _ (by first | rfl | simp) (fun w' hw' hctx => by (go_simp); (try first | with_reducible rfl | simp)) ?_
              simp only [Act.put, List.setIfInBounds_toArray, List.set_cons_zero, List.set_cons_succ]
              refine RX.seqP_skip (by first | rfl | simp) ?_
              simp only [Act.put, List.setIfInBounds_toArray, List.set_cons_zero, List.set_cons_succ]
              refine RX.seqP_skip (by first | rfl | simp) ?_
              simp only [Act.put, List.setIfInBounds_toArray, List.set_cons_zero, List.set_cons_succ]
              refine RX.seqP_skip (by first | rfl | simp) ?_
              simp only [Act.put, List.setIfInBounds_toArray, List.set_cons_zero, List.set_cons_succ]
              refine RX.seqP_skip (by first | rfl | simp) ?_
              simp only [Act.put, List.setIfInBounds_toArray, List.set_cons_zero, List.set_cons_succ]
              refine RX.seqP_value (fun _ => Below.refl _ _) _ (by first | rfl | simp) (fun w' hw' hctx => by (go_simp); (try first | with_reducible rfl | simp)) ?_
              simp only [Act.put, List.setIfInBounds_toArray, List.set_cons_zero, List.set_cons_succ]
              refine RX.seqP_value (fun _ => Below.refl _ _) _ (by first | rfl | simp) (fun w' hw' hctx => by (go_simp); (try first | with_reducible rfl | simp)) ?_
              simp only [Act.put, List.setIfInBounds_toArray, List.set_cons_zero, List.set_cons_succ]
              refine RX.seqP_value (fun _ => Below.refl _ _) _ (by first | rfl | simp) (fun w' hw' hctx => by (go_simp); (try first | with_reducible rfl | simp)) ?_
              simp only [Act.put, List.setIfInBounds_toArray, List.set_cons_zero, List.set_cons_succ]
              refine RX.seqP_value (fun _ => Below.refl _ _) _ (by first | rfl | simp) (fun w' hw' hctx => by (go_simp); (try first | with_reducible rfl | simp)) ?_
              simp only [Act.put, List.setIfInBounds_toArray, List.set_cons_zero, List.set_cons_succ]
              refine RX.seqP_value (fun _ => Below.refl _ _) _ (by first | rfl | simp) (fun w' hw' hctx => by (go_simp); (try first | with_reducible rfl | simp)) ?_
              simp only [Act.put, List.setIfInBounds_toArray, List.set_cons_zero, List.set_cons_succ]
              refine RX.seqP_value (fun _ => Below.refl _ _) _ (by first | rfl | simp) (fun w' hw' hctx => by (go_simp); (try first | with_reducible rfl | simp)) ?_
              simp only [Act.put, List.setIfInBounds_toArray, List.set_cons_zero, List.set_cons_succ]
              refine RX.seqP_value (fun _ => Below.refl _ _) _ (by first | rfl | simp) (fun w' hw' hctx => by (go_simp); (try first | with_reducible rfl | simp)) ?_
              simp only [Act.put, List.setIfInBounds_toArray, List.set_cons_zero, List.set_cons_succ]
              refine RX.seqP_value (fun _ => Below.refl _ _) _ (by first | rfl | simp) (fun w' hw' hctx => by (go_simp); (try first | with_reducible rfl | simp)) ?_
              simp only [Act.put, List.setIfInBounds_toArray, List.set_cons_zero, List.set_cons_succ]
              refine RX.seqP_value (fun _ => Below.refl _ _) _ (by first | rfl | simp) (fun w' hw' hctx => ?_) ?_
              · obtain ⟨e1, e2, e3⟩ := HCS.out w' (below_tr hdr hw')
                go_simp
                try first | with_reducible rfl | simp
              simp only [Act.put, List.setIfInBounds_toArray, List.set_cons_zero, List.set_cons_succ]
              refine RX.seqP_callOf (18) #[.pointer (some ⟨h, 0, none⟩), .int .i64 st.a] ((fun w v => IdsR A' st.a w v)) (fun w w' v hb h => h.below hb) (by first | rfl | simp) (fun w' hw' hctx => ?_) (fun w' hw' hctx => ((par_ids (HP6.out.below (below_tr hdr hw')) st.a HST.out.2.2.1.a (by have := HZ.out; omega)).mono fun e w2 ⟨v, he, l, hr, hi, hb⟩ => ⟨v, he, hb, l, hr, hi⟩)) (fun u31 => ?_)
              · go_simp
              simp only [Act.put, List.setIfInBounds_toArray, List.set_cons_zero, List.set_cons_succ]
              refine RX.seqP_value (fun _ => Below.refl _ _) _ (by first | rfl | simp) (fun w' hw' hctx => by (go_simp); (try first | with_reducible rfl | simp)) ?_
              simp only [Act.put, List.setIfInBounds_toArray, List.set_cons_zero, List.set_cons_succ]
              refine RX.seqP_value (fun _ => Below.refl _ _) _ (by first | rfl | simp) (fun w' hw' hctx => by (go_simp); (try first | with_reducible rfl | simp)) ?_
              simp only [Act.put, List.setIfInBounds_toArray, List.set_cons_zero, List.set_cons_succ]
              refine RX.seqP_value (fun _ => Below.refl _ _) _ (by first | rfl | simp) (fun w' hw' hctx => by (go_simp); (try first | with_reducible rfl | simp)) ?_
              simp only [Act.put, List.setIfInBounds_toArray, List.set_cons_zero, List.set_cons_succ]
              refine RX.seqP_value (fun _ => Below.refl _ _) _ (by first | rfl | simp) (fun w' hw' hctx => by (go_simp); (try first | with_reducible rfl | simp)) ?_
              simp only [Act.put, List.setIfInBounds_toArray, List.set_cons_zero, List.set_cons_succ]
              refine RX.seqP_value (fun _ => Below.refl _ _) _ (by first | rfl | simp) (fun w' hw' hctx => by (go_simp); (try first | with_reducible rfl | simp)) ?_
              simp only [Act.put, List.setIfInBounds_toArray, List.set_cons_zero, List.set_cons_succ]
              refine RX.seqP_value (fun _ => Below.refl _ _) _ (by first | rfl | simp) (fun w' hw' hctx => ?_) ?_
              · obtain ⟨e1, e2, e3⟩ := HCS.out w' (below_tr hdr hw')
                go_simp
                try first | with_reducible rfl | simp
              simp only [Act.put, List.setIfInBounds_toArray, List.set_cons_zero, List.set_cons_succ]
              refine RX.seqP_callOf (35) #[.pointer (some ⟨x, 0, none⟩), .int .i64 st.a] ((fun w v => IdsR A' st.a w v)) (fun w w' v hb h => h.below hb) (by first | rfl | simp) (fun w' hw' hctx => ?_) (fun w' hw' hctx => ((par_rids (HP6.out.below (below_tr hdr hw')) st.a HLN2.out).mono fun e w2 ⟨v, he, l, hr, hi, hb⟩ => ⟨v, he, hb, l, hr, hi⟩)) (fun u38 => ?_)
              · go_simp
              simp only [Act.put, List.setIfInBounds_toArray, List.set_cons_zero, List.set_cons_succ]
              refine RX.seqP_call (25) #[u31, u38] (.bool true) (by first | rfl | simp) (fun w' hw' hctx => ?_) (fun w' hw' hctx => ints_ids hctx.2.1 hctx.1) ?_
              · go_simp
              simp only [Act.put, List.setIfInBounds_toArray, List.set_cons_zero, List.set_cons_succ]
              refine RX.seqP_value (fun _ => Below.refl _ _) _ (by first | rfl | simp) (fun w' hw' hctx => by (go_simp); (try first | with_reducible rfl | simp)) ?_
              simp only [Act.put, List.setIfInBounds_toArray, List.set_cons_zero, List.set_cons_succ]
              refine RX.seqP_value (fun _ => Below.refl _ _) _ (by first | rfl | simp) (fun w' hw' hctx => by (go_simp); (try first | with_reducible rfl | simp)) ?_
              simp only [Act.put, List.setIfInBounds_toArray, List.set_cons_zero, List.set_cons_succ]
              refine RX.seqP_value (fun _ => Below.refl _ _) _ (by first | rfl | simp) (fun w' hw' hctx => by (go_simp); (try first | with_reducible rfl | simp)) ?_
              simp only [Act.put, List.setIfInBounds_toArray, List.set_cons_zero, List.set_cons_succ]
              refine RX.seqP_value (fun _ => Below.refl _ _) _ (by first | rfl | simp) (fun w' hw' hctx => by (go_simp); (try first | with_reducible rfl | simp)) ?_
              simp only [Act.put, List.setIfInBounds_toArray, List.set_cons_zero, List.set_cons_succ]
              refine RX.seqP_value (fun _ => Below.refl _ _) _ (by first | rfl | simp) (fun w' hw' hctx => by (go_simp); (try first | with_reducible rfl | simp)) ?_
              simp only [Act.put, List.setIfInBounds_toArray, List.set_cons_zero, List.set_cons_succ]
              refine RX.seqP_value (fun _ => Below.refl _ _) _ (by first | rfl | simp) (fun w' hw' hctx => by (go_simp); (try first | with_reducible rfl | simp)) ?_
              simp only [Act.put, List.setIfInBounds_toArray, List.set_cons_zero, List.set_cons_succ]
              refine RX.seqP_value (fun _ => Below.refl _ _) _ (by first | rfl | simp) (fun w' hw' hctx => by (go_simp); (try first | with_reducible rfl | simp)) ?_
              simp only [Act.put, List.setIfInBounds_toArray, List.set_cons_zero, List.set_cons_succ]
              refine RX.seqP_value (fun _ => Below.refl _ _) _ (by first | rfl | simp) (fun w' hw' hctx => by (go_simp); (try first | with_reducible rfl | simp)) ?_
              simp only [Act.put, List.setIfInBounds_toArray, List.set_cons_zero, List.set_cons_succ]
              refine RX.seqP_value (fun _ => Below.refl _ _) _ (by first | rfl | simp) (fun w' hw' hctx => ?_) ?_
              · obtain ⟨e1, e2, e3⟩ := HCS.out w' (below_tr hdr hw')
                go_simp
                try first | with_reducible rfl | simp
              simp only [Act.put, List.setIfInBounds_toArray, List.set_cons_zero, List.set_cons_succ]
              refine RX.seqP_value (fun _ => Below.refl _ _) _ (by first | rfl | simp) (fun w' hw' hctx => by (go_simp); (try first | with_reducible rfl | simp)) ?_
              simp only [Act.put, List.setIfInBounds_toArray, List.set_cons_zero, List.set_cons_succ]
              refine RX.seqP_value (fun _ => Below.refl _ _) _ (by first | rfl | simp) (fun w' hw' hctx => by (go_simp); (try first | with_reducible rfl | simp)) ?_
              simp only [Act.put, List.setIfInBounds_toArray, List.set_cons_zero, List.set_cons_succ]
              refine RX.seqP_value (fun _ => Below.refl _ _) _ (by first | rfl | simp) (fun w' hw' hctx => by (go_simp); (try first | with_reducible rfl | simp)) ?_
              simp only [Act.put, List.setIfInBounds_toArray, List.set_cons_zero, List.set_cons_succ]
              refine RX.seqP_value (fun _ => Below.refl _ _) _ (by first | rfl | simp) (fun w' hw' hctx => by (go_simp); (try first | with_reducible rfl | simp)) ?_
              simp only [Act.put, List.setIfInBounds_toArray, List.set_cons_zero, List.set_cons_succ]
              refine RX.seqP_value (fun _ => Below.refl _ _) _ (by first | rfl | simp) (fun w' hw' hctx => ?_) ?_
              · obtain ⟨e1, e2, e3⟩ := HCS.out w' (below_tr hdr hw')
                go_simp
                try first | with_reducible rfl | simp
              simp only [Act.put, List.setIfInBounds_toArray, List.set_cons_zero, List.set_cons_succ]
              refine RX.seqP_callOf (17) #[.pointer (some ⟨h, 0, none⟩), .int .i64 st.a, .int .i64 st.b] ((fun w v => RowI w v (natI (A'.slots st.a st.b)))) (fun w w' v hb h => h.below hb) (by first | rfl | simp) (fun w' hw' hctx => ?_) (fun w' hw' hctx => ((par_slots (HP6.out.below (below_tr hdr hw')) st.a st.b HST.out.2.2.1.a HST.out.2.2.1.b (by have := HZ.out; omega)).mono fun e w2 ⟨v, he, hr, hb⟩ => ⟨v, he, hb, hr⟩)) (fun u54 => ?_)
              · go_simp
              simp only [Act.put, List.setIfInBounds_toArray, List.set_cons_zero, List.set_cons_succ]
              refine RX.seqP_value (fun _ => Below.refl _ _) _ (by first | rfl | simp) (fun w' hw' hctx => by (go_simp); (try first | with_reducible rfl | simp)) ?_
              simp only [Act.put, List.setIfInBounds_toArray, List.set_cons_zero, List.set_cons_succ]
              refine RX.seqP_value (fun _ => Below.refl _ _) _ (by first | rfl | simp) (fun w' hw' hctx => by (go_simp); (try first | with_reducible rfl | simp)) ?_
              simp only [Act.put, List.setIfInBounds_toArray, List.set_cons_zero, List.set_cons_succ]
              refine RX.seqP_value (fun _ => Below.refl _ _) _ (by first | rfl | simp) (fun w' hw' hctx => by (go_simp); (try first | with_reducible rfl | simp)) ?_
              simp only [Act.put, List.setIfInBounds_toArray, List.set_cons_zero, List.set_cons_succ]
              refine RX.seqP_value (fun _ => Below.refl _ _) _ (by first | rfl | simp) (fun w' hw' hctx => by (go_simp); (try first | with_reducible rfl | simp)) ?_
              simp only [Act.put, List.setIfInBounds_toArray, List.set_cons_zero, List.set_cons_succ]
              refine RX.seqP_value (fun _ => Below.refl _ _) _ (by first | rfl | simp) (fun w' hw' hctx => by (go_simp); (try first | with_reducible rfl | simp)) ?_
              simp only [Act.put, List.setIfInBounds_toArray, List.set_cons_zero, List.set_cons_succ]
              refine RX.seqP_value (fun _ => Below.refl _ _) _ (by first | rfl | simp) (fun w' hw' hctx => ?_) ?_
              · obtain ⟨e1, e2, e3⟩ := HCS.out w' (below_tr hdr hw')
                go_simp
                try first | with_reducible rfl | simp
              simp only [Act.put, List.setIfInBounds_toArray, List.set_cons_zero, List.set_cons_succ]
              refine RX.seqP_value (fun _ => Below.refl _ _) _ (by first | rfl | simp) (fun w' hw' hctx => by (go_simp); (try first | with_reducible rfl | simp)) ?_
              simp only [Act.put, List.setIfInBounds_toArray, List.set_cons_zero, List.set_cons_succ]
              refine RX.seqP_value (fun _ => Below.refl _ _) _ (by first | rfl | simp) (fun w' hw' hctx => by (go_simp); (try first | with_reducible rfl | simp)) ?_
              simp only [Act.put, List.setIfInBounds_toArray, List.set_cons_zero, List.set_cons_succ]
              refine RX.seqP_value (fun _ => Below.refl _ _) _ (by first | rfl | simp) (fun w' hw' hctx => by (go_simp); (try first | with_reducible rfl | simp)) ?_
              simp only [Act.put, List.setIfInBounds_toArray, List.set_cons_zero, List.set_cons_succ]
              refine RX.seqP_value (fun _ => Below.refl _ _) _ (by first | rfl | simp) (fun w' hw' hctx => by (go_simp); (try first | with_reducible rfl | simp)) ?_
              simp only [Act.put, List.setIfInBounds_toArray, List.set_cons_zero, List.set_cons_succ]
              refine RX.seqP_value (fun _ => Below.refl _ _) _ (by first | rfl | simp) (fun w' hw' hctx => ?_) ?_
              · obtain ⟨e1, e2, e3⟩ := HCS.out w' (below_tr hdr hw')
                go_simp
                try first | with_reducible rfl | simp
              simp only [Act.put, List.setIfInBounds_toArray, List.set_cons_zero, List.set_cons_succ]
              refine RX.seqP_callOf (36) #[.pointer (some ⟨x, 0, none⟩), .int .i64 st.a, .int .i64 st.b] ((fun w v => RowI w v (natI (A'.slots st.a st.b)))) (fun w w' v hb h => h.below hb) (by first | rfl | simp) (fun w' hw' hctx => ?_) (fun w' hw' hctx => ((par_rslots (HP6.out.below (below_tr hdr hw')) st.a st.b HLN2.out).mono fun e w2 ⟨v, he, hr, hb⟩ => ⟨v, he, hb, hr⟩)) (fun u66 => ?_)
              · go_simp
              simp only [Act.put, List.setIfInBounds_toArray, List.set_cons_zero, List.set_cons_succ]
              refine RX.seqP_call (25) #[u54, u66] (.bool true) (by first | rfl | simp) (fun w' hw' hctx => ?_) (fun w' hw' hctx => ints_is u54 u66 _ _ true (by simp) w' hctx.2.1 hctx.1) ?_
              · go_simp
              simp only [Act.put, List.setIfInBounds_toArray, List.set_cons_zero, List.set_cons_succ]
              refine RX.seqP_value (fun _ => Below.refl _ _) _ (by first | rfl | simp) (fun w' hw' hctx => by (go_simp); (try first | with_reducible rfl | simp)) ?_
              simp only [Act.put, List.setIfInBounds_toArray, List.set_cons_zero, List.set_cons_succ]
              refine RX.seqP_value (fun _ => Below.refl _ _) _ (by first | rfl | simp) (fun w' hw' hctx => by (go_simp); (try first | with_reducible rfl | simp)) ?_
              simp only [Act.put, List.setIfInBounds_toArray, List.set_cons_zero, List.set_cons_succ]
              refine RX.seqP_nil (fun v5 hR hctx _ => ?_)
              have hv5 := below_tr hdr hR
              clear hctx hR
              have HP7 := Lib.hid (HP6.out.below hv5)
              clear hv5 hdr
              go_wp2_with fail
              go_meet
              exact ⟨rfl, HP7⟩
          case rest =>
            obtain ⟨rfl, HP7⟩ := hcut
            clear HP6 HCS
            go_wp2_with fail
            go_roundg (n0 - (i + 1))
            case measure => have := HL.out; omega
            case rel => exact ⟨A', z + 3, y + 1, i + 1, by go_num, by have := HL.out; omega, Nat.le_refl _, Lib.hid ⟨by have := HI.out.1; omega, by have := HI.out.2; omega⟩, HP7⟩
      · have hltz : ¬ (i : Int) < (n0 : Int) := by omega
        have HZ : Hid (z ≤ 400) := Lib.hid (by have e1 := HI.out; omega)
        clear HI hgg hin hlt
        have hcon := par_same HP.out (by have := HZ.out; omega)
        go_wp2_with fail
        refine (show Calls Try.prog _ _ _ _ from hcon).mono ?_
        rintro e wa ⟨rfl, hb⟩
        have HPa := Lib.hid (HP.out.below hb)
        clear hcon hb HP 
        have hcon := par_same HPa.out (by have := HZ.out; omega)
        go_wp2_with fail
        refine (show Calls Try.prog _ _ _ _ from hcon).mono ?_
        rintro e wb ⟨rfl, hb⟩
        have HPb := Lib.hid (HPa.out.below hb)
        clear hcon hb HPa 
        have hcon := par_copy HPb.out (by have := HZ.out; omega)
        go_wp2_with fail
        refine (show Calls Try.prog _ _ _ _ from hcon).mono ?_
        rintro e wd ⟨c, rfl, hp, -⟩
        have HPc := Lib.hid hp
        clear hcon hp HPb
        have hcon := par_same HPc.out (by have := HZ.out; omega)
        go_wp2_with fail
        refine (show Calls Try.prog _ _ _ _ from hcon).mono ?_
        rintro e we ⟨rfl, hb⟩
        have HPd := Lib.hid (HPc.out.below hb)
        clear hcon hb HPc 
        go_wp2_with fail
        go_ret
        exact ⟨rfl, HPd.out.bel⟩

end Go.Proofs.Ytkedkeelbbfmkaa
