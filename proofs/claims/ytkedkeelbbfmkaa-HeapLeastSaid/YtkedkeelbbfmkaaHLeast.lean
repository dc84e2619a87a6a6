/-
  The law HeapLeast, walked.
-/
import Derived.Test.YtkedkeelbbfmkaaHMore
import Derived.Test.YtkedkeelbbfmkaaHLarge
namespace Go.Proofs.Ytkedkeelbbfmkaa
open Go.RowKit
set_option linter.unusedVariables false

set_option maxRecDepth 100000 in
set_option maxHeartbeats 8000000 in
theorem least_law (a0 : Option Addr) (c0 n0 : Nat) (l0 : List Stp) (hn0 : l0.length = n0) (w : World) (hs0 : SlSt w a0 c0 l0) :
    Calls Try.prog 6 #[.slice a0 n0 c0] w fun e w' => e = .returned (.bool true) ∧ Below w.heap.size w w' := by
  have HS := Lib.hid hs0
  have HN := Lib.hid hn0
  clear hs0 hn0
  go_enter Try.func6, Try.ntmps6
  have hcon := works_is w
  go_wp2_with fail
  refine (show Calls Try.prog _ _ _ _ from hcon).mono ?_
  rintro e w1 ⟨rfl, hb⟩
  have HB1 := Lib.hid hb
  clear hcon hb
  have hcon := large_is w1 a0 c0 n0 l0 HN.out (HS.out.below HB1.out)
  go_wp2_with fail
  refine (show Calls Try.prog _ _ _ _ from hcon).mono ?_
  rintro e w1b ⟨v, rfl, hv, rfl⟩
  clear hcon 
  rcases hv with rfl | ⟨rfl, hf⟩
  · have hcon := works_is w1b
    go_wp2_with fail
    refine (show Calls Try.prog _ _ _ _ from hcon).mono ?_
    rintro e w2 ⟨rfl, hb⟩
    have HB2 := Lib.hid (below_tr HB1.out hb)
    clear hcon hb
    go_wp2_with fail
    go_ret
    exact ⟨rfl, HB2.out⟩
  · have HF := Lib.hid hf
    clear hf
    have hcon := one_new (X := fun _ => False) (w0 := w) HB1.out (fun _ h => h.elim)
    go_wp2_with fail
    refine (show Calls Try.prog _ _ _ _ from hcon).mono ?_
    rintro e w2 ⟨h, rfl, ho⟩
    have HO0 := Lib.hid ho
    clear hcon ho HB1
    have h120 : n0 ≤ 120 := by have e1 := HF.out.1; have e2 := HN.out; omega
    go_wp2_with fail
    go_loopg [4, 5] n0 (fun gg s4 s5 wr => ∃ (A : Ab) (z M i : Nat), s4 = .int .i64 M ∧ s5 = .int .i64 i ∧ i ≤ n0 ∧ n0 - i ≤ gg ∧ Hid (z ≤ 3 * i ∧ M ≤ i ∧ A.pl.length ≤ M ∧ ∀ s ∈ A.used, s < M) ∧ Hid (One (fun _ => False) w wr h A z))
    case atStart => exact ⟨Ab.new, 0, 0, 0, rfl, rfl, Nat.zero_le _, by omega, Lib.hid ⟨Nat.le_refl _, Nat.le_refl _, Nat.le_refl _, fun s hs => by cases hs⟩, HO0⟩
    case round =>
      obtain ⟨A, z, M, i, rfl, rfl, hin, hgg, HI, HO⟩ := hrel
      clear HO0
      by_cases hlt : i < n0
      · have hltz : (i : Int) < (n0 : Int) := by omega
        have HL := Lib.hid (And.intro hlt (And.intro hin hgg))
        have HZ : Hid (z ≤ 400) := Lib.hid (by have e1 := HI.out.1; omega)
        have hcon := one_at (t := A.atT 0) (b := A.atB 0) HO.out 0 (by have := HZ.out; omega) rfl rfl
        go_wp2_with fail
        refine (show Calls Try.prog _ _ _ _ from hcon).mono ?_
        rintro e w3 ⟨ss, rfl, hr, -, ho, -⟩
        obtain ⟨sa, sc, rfl, -, -⟩ := hr.form
        clear hr
        have HO1 := Lib.hid ho
        unfold tupV
        clear hcon ho HO
        obtain ⟨u, hu⟩ : ∃ u, A.pl.length = u := ⟨_, rfl⟩
        have HU := Lib.hid hu
        have hu9 : u ≤ 120 := by have := HI.out.2.2.1; have := HI.out.2.1; omega
        clear hgg hin hlt hu
        go_wp2_with fail
        go_loopg [6, 8] (u + 1) (fun gk s6 s8 wq => ∃ m : Nat, s6 = .int .i64 m ∧ s8 = .bool (A.atB m) ∧ m ≤ u ∧ u + 1 - m ≤ gk ∧ Hid (∀ j, j < m → j ∈ A.used) ∧ Hid (One (fun _ => False) w wq h A z))
        case atStart => exact ⟨0, rfl, rfl, Nat.zero_le _, by omega, Lib.hid (fun j hj => absurd hj (Nat.not_lt_zero j)), Lib.hid (HO1.out.below (Below.allocs _ _))⟩
        case round =>
          obtain ⟨m, rfl, rfl, hmu, hgk, HJ, HOq⟩ := hrel
          clear HO1
          cases hb : A.atB m
          · have HM : Hid ((A.slot : Int) = (m : Int)) := Lib.hid (by rw [leastN_eq (fun h => by rw [atB_used.2 h] at hb; cases hb) HJ.out]; rfl)
            have hlt := HL.out.1
            clear hb hgk
            obtain ⟨st, sb, so, ra, rc, rn, hst, hmem, hrn, rfl, hrw, hwf, hbl, q0, q1, q2, q3, q4, q5, q6, q7, q8, q9, q10⟩ := step_at HS.out HOq.out.bel HN.out hlt
            have HST := Lib.hid (And.intro hst (And.intro hrn (And.intro hwf (HF.out.2 st hmem))))
            have hcon := one_do HOq.out st ra rc rn hrn (by have := HF.out.2 st hmem; omega) hwf hrw (by have := HZ.out; omega)
            unfold stpV at hcon
            clear hst hmem hrn hwf hrw
            obtain ⟨dv, hdv⟩ : ∃ dv, A.doV st = dv := ⟨_, rfl⟩
            obtain ⟨de, hde⟩ : ∃ de, A.doE st = de := ⟨_, rfl⟩
            rw [hdv, hde] at hcon
            have HDV := Lib.hid hdv
            have HDE := Lib.hid hde
            clear hdv hde
            go_wp2_with fail
            refine (show Calls Try.prog _ _ _ _ from hcon).mono ?_
            rintro e w4 ⟨rfl, ho, -⟩
            have HO2 := Lib.hid ho
            clear hcon ho q1 q2 q3 q4 q5 q6 q7 q8 q9 q10 hlt
            have q0' : w4.cell? ⟨sb, so + i * 11, none⟩ = some (.int .u8 st.kind) := by
              obtain ⟨st2, sb2, so2, ra2, rc2, rn2, hst2, -, -, e2, -, -, -, q, -⟩ := step_at HS.out HO2.out.bel HN.out HL.out.1
              cases e2
              rw [HST.out.1] at hst2
              cases hst2
              exact q
            clear q0 HOq
            obtain ⟨A', hA'⟩ : ∃ A', A.doA st = A' := ⟨_, rfl⟩
            obtain ⟨M2, hM2⟩ : ∃ M2 : Nat, max (M : Int) (A'.pl.length : Int) = M2 := ⟨max M A'.pl.length, by omega⟩
            have HI3 : Hid (A'.pl.length ≤ M2 ∧ M2 ≤ i + 1 ∧ (∀ s ∈ A'.used, s < M2) ∧ z + 3 ≤ 3 * (i + 1)) := Lib.hid (by
              have e1 := do_len A st
              rw [hA'] at e1
              have e2 := HI.out
              refine ⟨by omega, by omega, fun s hs => ?_, by omega⟩
              rw [← hA'] at hs
              rcases do_used hs with e | e
              · have := e2.2.2.2 s e; omega
              · rw [hA'] at e; omega)
            have HO2' : Hid (One (fun _ => False) w w4 h A' (z + 3)) := Lib.hid (by rw [← hA']; exact HO2.out)
            have HLL := HL
            have hcases : (st.kind = 0 ∧ de = 0 ∧ dv = (m : Int)) ∨ (st.kind == 0) = false ∨ (st.kind = 0 ∧ (de == 0) = false) := by
              by_cases hk : st.kind = 0
              · by_cases he : de = 0
                · refine .inl ⟨hk, he, ?_⟩
                  rw [← HDV.out, ← HM.out]
                  have e1 := HDE.out
                  rw [he] at e1
                  unfold Ab.doE at e1
                  rw [if_pos hk] at e1
                  unfold Ab.doV
                  rw [if_pos hk]
                  unfold Ab.ptV
                  unfold Ab.ptE at e1
                  split at e1
                  · rename_i hg; rw [if_pos hg]
                  · cases e1
                · exact .inr (.inr ⟨hk, by simpa using he⟩)
              · exact .inr (.inl (by simpa using hk))
            have HLEN : Hid ((A'.pl.length : Int) = (A'.pl.length : Int)) := Lib.hid rfl
            obtain ⟨ln, hln⟩ : ∃ ln : Int, (A'.pl.length : Int) = ln := ⟨_, rfl⟩
            rw [hln] at hM2
            have HLN := Lib.hid hln
            clear hA' HO2 HI HM HDV HDE HJ HU hmu hu9 hln HL HLEN HST
            rcases hcases with ⟨hk, rfl, rfl⟩ | hk | ⟨hk, he⟩
            · rw [hk] at q0'
              clear hk
              have hcon := one_len (n := ln) HO2'.out (by have := HZ.out; omega) HLN.out
              go_wp2_with fail
              refine (show Calls Try.prog _ _ _ _ from hcon).mono ?_
              rintro e w6 ⟨rfl, ho, -⟩
              have HO3 := Lib.hid ho
              clear hcon ho HO2'
              go_wp2_with fail
              go_loopg [11, 12] (n0 + 4) (fun gk s11 s12 wq => ∃ k : Int, s11 = .int .i64 (cntU A'.used k : Int) ∧ s12 = .int .i64 k ∧ -2 ≤ k ∧ k ≤ n0 + 2 ∧ ((n0 : Int) + 2 - k).toNat ≤ gk ∧ Hid (One (fun _ => False) w wq h A' (z + 3)))
              case atStart => exact ⟨-2, by rw [cntU_lo _ (by omega)]; rfl, rfl, by omega, by omega, by omega, HO3⟩
              case round =>
                obtain ⟨k, rfl, rfl, hk2, hkn, hgk, HOk⟩ := hrel
                clear HO3
                obtain ⟨cn, hcn⟩ : ∃ cn, cntU A'.used k = cn := ⟨_, rfl⟩
                have HCN := Lib.hid hcn
                rw [hcn]
                have hcn9 : cn ≤ 200 := by rw [← hcn]; refine Nat.le_trans (cntU_le _ _) ?_; rw [used_len]; have e1 := HI3.out.1; have e2 := HI3.out.2.1; have e3 := HLL.out; omega
                clear hcn
                by_cases hkk : k ≤ (n0 : Int) + 1
                · cases hb : A'.atB k
                  · have HB := Lib.hid hb
                    clear hb
                    have hcon := one_at (t := A'.atT k) (b := false) HOk.out k (by have := HZ.out; omega) rfl HB.out
                    go_wp2_with fail
                    refine (show Calls Try.prog _ _ _ _ from hcon).mono ?_
                    rintro e w7 ⟨ss, rfl, hr, -, ho, -⟩
                    obtain ⟨sa, sc, rfl, -, -⟩ := hr.form
                    clear hr
                    have HO4 := Lib.hid ho
                    unfold tupV
                    clear hcon ho HOk
                    go_wp2_with fail
                    go_roundg ((n0 : Int) + 2 - (k + 1)).toNat
                    case measure => omega
                    case rel => exact ⟨k + 1, by rw [cntU_out (atB_not HB.out), HCN.out], by go_num, by omega, by omega, Nat.le_refl _, Lib.hid (HO4.out.below (Below.allocs _ _))⟩
                  · have HB := Lib.hid hb
                    have hkM : 0 ≤ k ∧ k < (M2 : Int) := by
                      obtain ⟨j, rfl, hj⟩ := atB_is hb
                      have := HI3.out.2.2.1 j hj
                      omega
                    have hk0 := hkM.1
                    have hk1 := hkM.2
                    clear hb hkM
                    have hcon := one_at (t := A'.atT k) (b := true) HOk.out k (by have := HZ.out; omega) rfl HB.out
                    go_wp2_with fail
                    refine (show Calls Try.prog _ _ _ _ from hcon).mono ?_
                    rintro e w7 ⟨ss, rfl, hr, -, ho, -⟩
                    obtain ⟨sa, sc, rfl, -, -⟩ := hr.form
                    clear hr
                    have HO4 := Lib.hid ho
                    unfold tupV
                    clear hcon ho HOk
                    go_wp2_with fail
                    go_roundg ((n0 : Int) + 2 - (k + 1)).toNat
                    case measure => omega
                    case rel =>
                      refine ⟨k + 1, ?_, by go_num, by omega, by omega, Nat.le_refl _, Lib.hid (HO4.out.below (Below.allocs _ _))⟩
                      obtain ⟨j, rfl, hj⟩ := atB_is HB.out
                      rw [cntU_in (by have := HO4.out.ok.nd; exact this) hj, HCN.out]
                      go_num
                · have hcl : cn = A'.pl.length := by
                    rw [← HCN.out, ← used_len]
                    exact cntU_hi fun s hs => by have := HI3.out.2.2.1 s hs; have := HI3.out.2.1; have := HLL.out; omega
                  subst hcl
                  clear hcn9
                  have hcon := one_len (n := A'.pl.length) HOk.out (by have := HZ.out; omega) rfl
                  go_wp2_with fail
                  refine (show Calls Try.prog _ _ _ _ from hcon).mono ?_
                  rintro e w8 ⟨rfl, ho, -⟩
                  have HO5 := Lib.hid ho
                  clear hcon ho HOk
                  go_wp2_with fail
                  go_roundg (n0 - (i + 1))
                  case measure => have := HLL.out; omega
                  case rel => exact ⟨A', z + 3, M2, i + 1, rfl, by go_num, by have := HLL.out; omega, Nat.le_refl _, Lib.hid ⟨by have := HI3.out.2.2.2; omega, HI3.out.2.1, HI3.out.1, HI3.out.2.2.1⟩, HO5⟩
            · 
              have hcon := one_len (n := ln) HO2'.out (by have := HZ.out; omega) HLN.out
              go_wp2_with fail
              refine (show Calls Try.prog _ _ _ _ from hcon).mono ?_
              rintro e w6 ⟨rfl, ho, -⟩
              have HO3 := Lib.hid ho
              clear hcon ho HO2'
              go_wp2_with fail
              go_loopg [11, 12] (n0 + 4) (fun gk s11 s12 wq => ∃ k : Int, s11 = .int .i64 (cntU A'.used k : Int) ∧ s12 = .int .i64 k ∧ -2 ≤ k ∧ k ≤ n0 + 2 ∧ ((n0 : Int) + 2 - k).toNat ≤ gk ∧ Hid (One (fun _ => False) w wq h A' (z + 3)))
              case atStart => exact ⟨-2, by rw [cntU_lo _ (by omega)]; rfl, rfl, by omega, by omega, by omega, HO3⟩
              case round =>
                obtain ⟨k, rfl, rfl, hk2, hkn, hgk, HOk⟩ := hrel
                clear HO3
                obtain ⟨cn, hcn⟩ : ∃ cn, cntU A'.used k = cn := ⟨_, rfl⟩
                have HCN := Lib.hid hcn
                rw [hcn]
                have hcn9 : cn ≤ 200 := by rw [← hcn]; refine Nat.le_trans (cntU_le _ _) ?_; rw [used_len]; have e1 := HI3.out.1; have e2 := HI3.out.2.1; have e3 := HLL.out; omega
                clear hcn
                by_cases hkk : k ≤ (n0 : Int) + 1
                · cases hb : A'.atB k
                  · have HB := Lib.hid hb
                    clear hb
                    have hcon := one_at (t := A'.atT k) (b := false) HOk.out k (by have := HZ.out; omega) rfl HB.out
                    go_wp2_with fail
                    refine (show Calls Try.prog _ _ _ _ from hcon).mono ?_
                    rintro e w7 ⟨ss, rfl, hr, -, ho, -⟩
                    obtain ⟨sa, sc, rfl, -, -⟩ := hr.form
                    clear hr
                    have HO4 := Lib.hid ho
                    unfold tupV
                    clear hcon ho HOk
                    go_wp2_with fail
                    go_roundg ((n0 : Int) + 2 - (k + 1)).toNat
                    case measure => omega
                    case rel => exact ⟨k + 1, by rw [cntU_out (atB_not HB.out), HCN.out], by go_num, by omega, by omega, Nat.le_refl _, Lib.hid (HO4.out.below (Below.allocs _ _))⟩
                  · have HB := Lib.hid hb
                    have hkM : 0 ≤ k ∧ k < (M2 : Int) := by
                      obtain ⟨j, rfl, hj⟩ := atB_is hb
                      have := HI3.out.2.2.1 j hj
                      omega
                    have hk0 := hkM.1
                    have hk1 := hkM.2
                    clear hb hkM
                    have hcon := one_at (t := A'.atT k) (b := true) HOk.out k (by have := HZ.out; omega) rfl HB.out
                    go_wp2_with fail
                    refine (show Calls Try.prog _ _ _ _ from hcon).mono ?_
                    rintro e w7 ⟨ss, rfl, hr, -, ho, -⟩
                    obtain ⟨sa, sc, rfl, -, -⟩ := hr.form
                    clear hr
                    have HO4 := Lib.hid ho
                    unfold tupV
                    clear hcon ho HOk
                    go_wp2_with fail
                    go_roundg ((n0 : Int) + 2 - (k + 1)).toNat
                    case measure => omega
                    case rel =>
                      refine ⟨k + 1, ?_, by go_num, by omega, by omega, Nat.le_refl _, Lib.hid (HO4.out.below (Below.allocs _ _))⟩
                      obtain ⟨j, rfl, hj⟩ := atB_is HB.out
                      rw [cntU_in (by have := HO4.out.ok.nd; exact this) hj, HCN.out]
                      go_num
                · have hcl : cn = A'.pl.length := by
                    rw [← HCN.out, ← used_len]
                    exact cntU_hi fun s hs => by have := HI3.out.2.2.1 s hs; have := HI3.out.2.1; have := HLL.out; omega
                  subst hcl
                  clear hcn9
                  have hcon := one_len (n := A'.pl.length) HOk.out (by have := HZ.out; omega) rfl
                  go_wp2_with fail
                  refine (show Calls Try.prog _ _ _ _ from hcon).mono ?_
                  rintro e w8 ⟨rfl, ho, -⟩
                  have HO5 := Lib.hid ho
                  clear hcon ho HOk
                  go_wp2_with fail
                  go_roundg (n0 - (i + 1))
                  case measure => have := HLL.out; omega
                  case rel => exact ⟨A', z + 3, M2, i + 1, rfl, by go_num, by have := HLL.out; omega, Nat.le_refl _, Lib.hid ⟨by have := HI3.out.2.2.2; omega, HI3.out.2.1, HI3.out.1, HI3.out.2.2.1⟩, HO5⟩
            · rw [hk] at q0'
              clear hk
              have hcon := one_len (n := ln) HO2'.out (by have := HZ.out; omega) HLN.out
              go_wp2_with fail
              refine (show Calls Try.prog _ _ _ _ from hcon).mono ?_
              rintro e w6 ⟨rfl, ho, -⟩
              have HO3 := Lib.hid ho
              clear hcon ho HO2'
              go_wp2_with fail
              go_loopg [11, 12] (n0 + 4) (fun gk s11 s12 wq => ∃ k : Int, s11 = .int .i64 (cntU A'.used k : Int) ∧ s12 = .int .i64 k ∧ -2 ≤ k ∧ k ≤ n0 + 2 ∧ ((n0 : Int) + 2 - k).toNat ≤ gk ∧ Hid (One (fun _ => False) w wq h A' (z + 3)))
              case atStart => exact ⟨-2, by rw [cntU_lo _ (by omega)]; rfl, rfl, by omega, by omega, by omega, HO3⟩
              case round =>
                obtain ⟨k, rfl, rfl, hk2, hkn, hgk, HOk⟩ := hrel
                clear HO3
                obtain ⟨cn, hcn⟩ : ∃ cn, cntU A'.used k = cn := ⟨_, rfl⟩
                have HCN := Lib.hid hcn
                rw [hcn]
                have hcn9 : cn ≤ 200 := by rw [← hcn]; refine Nat.le_trans (cntU_le _ _) ?_; rw [used_len]; have e1 := HI3.out.1; have e2 := HI3.out.2.1; have e3 := HLL.out; omega
                clear hcn
                by_cases hkk : k ≤ (n0 : Int) + 1
                · cases hb : A'.atB k
                  · have HB := Lib.hid hb
                    clear hb
                    have hcon := one_at (t := A'.atT k) (b := false) HOk.out k (by have := HZ.out; omega) rfl HB.out
                    go_wp2_with fail
                    refine (show Calls Try.prog _ _ _ _ from hcon).mono ?_
                    rintro e w7 ⟨ss, rfl, hr, -, ho, -⟩
                    obtain ⟨sa, sc, rfl, -, -⟩ := hr.form
                    clear hr
                    have HO4 := Lib.hid ho
                    unfold tupV
                    clear hcon ho HOk
                    go_wp2_with fail
                    go_roundg ((n0 : Int) + 2 - (k + 1)).toNat
                    case measure => omega
                    case rel => exact ⟨k + 1, by rw [cntU_out (atB_not HB.out), HCN.out], by go_num, by omega, by omega, Nat.le_refl _, Lib.hid (HO4.out.below (Below.allocs _ _))⟩
                  · have HB := Lib.hid hb
                    have hkM : 0 ≤ k ∧ k < (M2 : Int) := by
                      obtain ⟨j, rfl, hj⟩ := atB_is hb
                      have := HI3.out.2.2.1 j hj
                      omega
                    have hk0 := hkM.1
                    have hk1 := hkM.2
                    clear hb hkM
                    have hcon := one_at (t := A'.atT k) (b := true) HOk.out k (by have := HZ.out; omega) rfl HB.out
                    go_wp2_with fail
                    refine (show Calls Try.prog _ _ _ _ from hcon).mono ?_
                    rintro e w7 ⟨ss, rfl, hr, -, ho, -⟩
                    obtain ⟨sa, sc, rfl, -, -⟩ := hr.form
                    clear hr
                    have HO4 := Lib.hid ho
                    unfold tupV
                    clear hcon ho HOk
                    go_wp2_with fail
                    go_roundg ((n0 : Int) + 2 - (k + 1)).toNat
                    case measure => omega
                    case rel =>
                      refine ⟨k + 1, ?_, by go_num, by omega, by omega, Nat.le_refl _, Lib.hid (HO4.out.below (Below.allocs _ _))⟩
                      obtain ⟨j, rfl, hj⟩ := atB_is HB.out
                      rw [cntU_in (by have := HO4.out.ok.nd; exact this) hj, HCN.out]
                      go_num
                · have hcl : cn = A'.pl.length := by
                    rw [← HCN.out, ← used_len]
                    exact cntU_hi fun s hs => by have := HI3.out.2.2.1 s hs; have := HI3.out.2.1; have := HLL.out; omega
                  subst hcl
                  clear hcn9
                  have hcon := one_len (n := A'.pl.length) HOk.out (by have := HZ.out; omega) rfl
                  go_wp2_with fail
                  refine (show Calls Try.prog _ _ _ _ from hcon).mono ?_
                  rintro e w8 ⟨rfl, ho, -⟩
                  have HO5 := Lib.hid ho
                  clear hcon ho HOk
                  go_wp2_with fail
                  go_roundg (n0 - (i + 1))
                  case measure => have := HLL.out; omega
                  case rel => exact ⟨A', z + 3, M2, i + 1, rfl, by go_num, by have := HLL.out; omega, Nat.le_refl _, Lib.hid ⟨by have := HI3.out.2.2.2; omega, HI3.out.2.1, HI3.out.1, HI3.out.2.2.1⟩, HO5⟩
          · have hmm : m ∈ A.used := atB_used.1 hb
            have h1 : m + 1 ≤ u := by
              have := pigeon (m + 1) A.used (fun j hj => by
                by_cases e : j = m
                · rw [e]; exact hmm
                · exact HJ.out j (by omega))
              rw [used_len, HU.out] at this
              exact this
            clear hb
            have hcon := one_at (t := A.atT ((m : Int) + 1)) (b := A.atB ((m : Int) + 1)) HOq.out ((m : Int) + 1) (by have := HZ.out; omega) rfl rfl
            go_wp2_with fail
            refine (show Calls Try.prog _ _ _ _ from hcon).mono ?_
            rintro e w5 ⟨ss, rfl, hr, -, ho, -⟩
            obtain ⟨sa, sc, rfl, -, -⟩ := hr.form
            clear hr
            have HO2 := Lib.hid ho
            unfold tupV
            clear hcon ho HOq
            go_wp2_with fail
            go_roundg (u + 1 - (m + 1))
            case measure => omega
            case rel => exact ⟨m + 1, by go_num, rfl, h1, Nat.le_refl _, Lib.hid (fun j hj => by
              by_cases e : j = m
              · rw [e]; exact hmm
              · exact HJ.out j (by omega)), HO2⟩
      · have hltz : ¬ (i : Int) < (n0 : Int) := by omega
        go_wp2_with fail
        go_ret
        exact ⟨rfl, HO.out.bel⟩

end Go.Proofs.Ytkedkeelbbfmkaa
