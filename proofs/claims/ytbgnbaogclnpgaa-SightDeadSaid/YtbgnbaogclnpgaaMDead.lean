/-
  The law SightDead, walked.
-/
import Derived.Test.YtbgnbaogclnpgaaMAwake
namespace Go.Proofs.Ytbgnbaogclnpgaa
open Go.RowKit
set_option linter.unusedVariables false

set_option maxRecDepth 100000 in
set_option maxHeartbeats 8000000 in
theorem long_is (w : World) (a : Option Addr) (n c : Nat) (b : Bool) (hb : decide (120 < n) = b) (hn : n ≤ maxLen) : Calls Try.prog 15 #[.slice a n c] w fun e w' => e = .returned (.bool b) ∧ Below w.heap.size w w' := by
  have hbz : decide ((120 : Int) < (n : Int)) = b := by rw [← hb]; by_cases h : 120 < n <;> simp [h] <;> omega
  go_enter Try.func15, Try.ntmps15
  go_wp2_with fail
  go_ret
  exact ⟨by first | rfl | rw [hbz], Below.refl _ _⟩

theorem later_le {e2 e3 la : Int} (hy : 0 ≤ e2) (hx : e2 ≤ 1000) (h : wrap64 (e2 + wrap64 ((IntKind.u64.wrap e3).tmod 10)) = la) : e2 ≤ la := by
  have h1 : 0 ≤ IntKind.u64.wrap e3 := by rw [IntKind.wrap_u64]; omega
  have h2 := Int.tmod_nonneg 10 h1
  have h3 := Int.tmod_lt_of_pos (IntKind.u64.wrap e3) (show (0 : Int) < 10 by omega)
  rw [wrOk (n := (IntKind.u64.wrap e3).tmod 10) (by omega), wrOk (by omega)] at h
  omega

set_option maxRecDepth 100000 in
set_option maxHeartbeats 8000000 in
theorem dead_large (a0 : Option Addr) (c0 n0 : Nat) (l0 : List Stq) (hn0 : l0.length = n0) (e1 e2 e3 : Int) (i1 : I64 e1) (i2 : I64 e2) (i3 : I64 e3) (w : World) (hs0 : SlQ w a0 c0 l0) (hz : 120 < n0) :
    Calls Try.prog 4 #[.slice a0 n0 c0, .int .i64 e1, .int .i64 e2, .int .i64 e3] w fun e w' => e = .returned (.bool true) ∧ Below w.heap.size w w' := by
  have HS := Lib.hid hs0
  have HN := Lib.hid hn0
  have hmx : n0 ≤ maxLen := by rw [← hn0]; exact Nat.le_trans hs0.lc hs0.cm
  clear hs0 hn0
  go_enter Try.func4, Try.ntmps4
  have hcon := long_is w a0 n0 c0 true (by simp; omega) hmx
  go_wp2_with fail
  refine (show Calls Try.prog _ _ _ _ from hcon).mono ?_
  rintro e w1b ⟨rfl, hb⟩
  have HB1 := Lib.hid hb
  clear hcon hb
  have hcon := awake_is w1b
  go_wp2_with fail
  refine (show Calls Try.prog _ _ _ _ from hcon).mono ?_
  rintro e wz ⟨rfl, hb⟩
  have HBZ := Lib.hid (below_tr HB1.out hb)
  clear hcon hb
  go_wp2_with fail
  go_ret
  exact ⟨rfl, HBZ.out⟩

set_option maxRecDepth 100000 in
set_option maxHeartbeats 8000000 in
theorem dead_below (a0 : Option Addr) (c0 n0 : Nat) (l0 : List Stq) (hn0 : l0.length = n0) (e1 e2 e3 : Int) (i1 : I64 e1) (i2 : I64 e2) (i3 : I64 e3) (w : World) (hs0 : SlQ w a0 c0 l0) (hz : n0 ≤ 120) (hy : e2 < 0) :
    Calls Try.prog 4 #[.slice a0 n0 c0, .int .i64 e1, .int .i64 e2, .int .i64 e3] w fun e w' => e = .returned (.bool true) ∧ Below w.heap.size w w' := by
  have HS := Lib.hid hs0
  have HN := Lib.hid hn0
  have hmx : n0 ≤ maxLen := by rw [← hn0]; exact Nat.le_trans hs0.lc hs0.cm
  clear hs0 hn0
  go_enter Try.func4, Try.ntmps4
  have hcon := long_is w a0 n0 c0 false (by simp; omega) hmx
  go_wp2_with fail
  refine (show Calls Try.prog _ _ _ _ from hcon).mono ?_
  rintro e w1b ⟨rfl, hb⟩
  have HB1 := Lib.hid hb
  clear hcon hb
  have hcon := awake_is w1b
  go_wp2_with fail
  refine (show Calls Try.prog _ _ _ _ from hcon).mono ?_
  rintro e wz ⟨rfl, hb⟩
  have HBZ := Lib.hid (below_tr HB1.out hb)
  clear hcon hb
  go_wp2_with fail
  go_ret
  exact ⟨rfl, HBZ.out⟩

set_option maxRecDepth 100000 in
set_option maxHeartbeats 8000000 in
theorem dead_above (a0 : Option Addr) (c0 n0 : Nat) (l0 : List Stq) (hn0 : l0.length = n0) (e1 e2 e3 : Int) (i1 : I64 e1) (i2 : I64 e2) (i3 : I64 e3) (w : World) (hs0 : SlQ w a0 c0 l0) (hz : n0 ≤ 120) (hy : 1000 < e2) :
    Calls Try.prog 4 #[.slice a0 n0 c0, .int .i64 e1, .int .i64 e2, .int .i64 e3] w fun e w' => e = .returned (.bool true) ∧ Below w.heap.size w w' := by
  have HS := Lib.hid hs0
  have HN := Lib.hid hn0
  have hmx : n0 ≤ maxLen := by rw [← hn0]; exact Nat.le_trans hs0.lc hs0.cm
  clear hs0 hn0
  have hy2 : ¬ e2 < 0 := by omega
  go_enter Try.func4, Try.ntmps4
  have hcon := long_is w a0 n0 c0 false (by simp; omega) hmx
  go_wp2_with fail
  refine (show Calls Try.prog _ _ _ _ from hcon).mono ?_
  rintro e w1b ⟨rfl, hb⟩
  have HB1 := Lib.hid hb
  clear hcon hb
  have hcon := awake_is w1b
  go_wp2_with fail
  refine (show Calls Try.prog _ _ _ _ from hcon).mono ?_
  rintro e wz ⟨rfl, hb⟩
  have HBZ := Lib.hid (below_tr HB1.out hb)
  clear hcon hb
  go_wp2_with fail
  go_ret
  exact ⟨rfl, HBZ.out⟩

set_option maxRecDepth 100000 in
set_option maxHeartbeats 8000000 in
theorem dead_main (a0 : Option Addr) (c0 n0 : Nat) (l0 : List Stq) (hn0 : l0.length = n0) (e1 e2 e3 : Int) (i1 : I64 e1) (i2 : I64 e2) (i3 : I64 e3) (w : World) (hs0 : SlQ w a0 c0 l0) (hz : n0 ≤ 120) (hy : 0 ≤ e2) (hx : e2 ≤ 1000) :
    Calls Try.prog 4 #[.slice a0 n0 c0, .int .i64 e1, .int .i64 e2, .int .i64 e3] w fun e w' => e = .returned (.bool true) ∧ Below w.heap.size w w' := by
  have HS := Lib.hid hs0
  have HN := Lib.hid hn0
  have hmx : n0 ≤ maxLen := by rw [← hn0]; exact Nat.le_trans hs0.lc hs0.cm
  have HZ := Lib.hid hz
  have hy2 : ¬ e2 < 0 := by omega
  have hx2 : ¬ 1000 < e2 := by omega
  clear hs0 hn0
  go_enter Try.func4, Try.ntmps4
  have hcon := long_is w a0 n0 c0 false (by simp; omega) hmx
  go_wp2_with fail
  refine (show Calls Try.prog _ _ _ _ from hcon).mono ?_
  rintro e w1b ⟨rfl, hb⟩
  have HB1 := Lib.hid hb
  clear hcon hb
  have hcon := awake_is w1b
  go_wp2_with fail
  refine (show Calls Try.prog _ _ _ _ from hcon).mono ?_
  rintro e w1c ⟨rfl, hb⟩
  have HB2 := Lib.hid (below_tr HB1.out hb)
  clear hcon hb HB1
  have HB1 := HB2
  clear HB2
  have hcon := heap_new (w0 := w) (fun _ => False) HB1.out (fun _ h => h.elim)
  go_wp2_with fail
  refine (show Calls Try.prog _ _ _ _ from hcon).mono ?_
  rintro e w2 ⟨h, rfl, Fh, h1, h2, h3, hb1⟩
  have HH := Lib.hid (And.intro h1 (And.intro h2 (And.intro h3 (below_tr HB1.out hb1))))
  clear hcon h1 h2 h3 hb1
  have hcon := duo_new (w0 := w) (fun _ => False) HH.out.1 HH.out.2.1 HH.out.2.2.1 HH.out.2.2.2 (fun _ h => h.elim)
  go_wp2_with fail
  refine (show Calls Try.prog _ _ _ _ from hcon).mono ?_
  rintro e w3 ⟨t, rfl, hd, -⟩
  have HD0 := Lib.hid hd
  clear hcon hd HH HB1
  go_wp2_with fail
  go_loopg [11] n0 (fun gg sx wr => ∃ i : Nat, sx = .int .i64 i ∧ i ≤ n0 ∧ n0 - i ≤ gg ∧ Hid (Duo (fun _ => False) w wr h (Ab.new.sts (l0.take i)) (3 * i) t (Tb.new.sts (l0.take i))))
  case atStart => exact ⟨0, rfl, Nat.zero_le _, by omega, HD0⟩
  case round =>
    obtain ⟨i, rfl, hin, hgg, HD⟩ := hrel
    clear HD0
    have hsm := sts_small (i := i) (C := 120) HN.out (by have := HZ.out; omega)
    by_cases hlt : i < n0
    · have hltz : (i : Int) < (n0 : Int) := by omega
      have z1 : ¬ n0 ≤ i := by omega
      obtain ⟨st, sb, so, hst, hwf, rfl, sl, q0, q1, q2, q3, q4⟩ := stq_at HS.out HD.out.bel HN.out hlt
      have hrun := sts_take (A := Ab.new) (T := Tb.new) hst
      have hcon := step_is HD.out (by have := hsm.1; omega) (by have := hsm.2; omega) (by have := HZ.out; omega) st hwf
      rw [← hrun.1, ← hrun.2] at hcon
      have HCON := Lib.hid hcon
      clear hrun hst hsm hcon hwf
      go_wp2_with fail
      refine HCON.out.mono ?_
      rintro e w3 ⟨rfl, hd, -⟩
      have HD2 := Lib.hid (hd.more (show 3 * i + 3 ≤ 3 * (i + 1) by omega))
      clear HCON hd q0 q1 q2 q3 q4 sl HD
      go_wp2_with fail
      go_roundg (n0 - (i + 1))
      case measure => omega
      case rel => exact ⟨i + 1, by go_num, by omega, Nat.le_refl _, HD2⟩
    · have hltz : ¬ (i : Int) < (n0 : Int) := by omega
      obtain rfl : n0 = i := by omega
      have hfull : l0.take n0 = l0 := List.take_of_length_le (by rw [HN.out]; exact Nat.le_refl _)
      rw [hfull] at HD hsm
      clear hfull
      obtain ⟨A, hA⟩ : ∃ A, Ab.new.sts l0 = A := ⟨_, rfl⟩
      obtain ⟨T, hT⟩ : ∃ T, Tb.new.sts l0 = T := ⟨_, rfl⟩
      obtain ⟨z, hz⟩ : ∃ z, 3 * n0 = z := ⟨_, rfl⟩
      rw [hA, hT, hz] at HD
      rw [hT] at hsm
      have HSM : Hid (T.n ≤ 1000 ∧ z ≤ 80000) := Lib.hid ⟨by have := hsm.1; omega, by have := HZ.out; omega⟩
      clear hsm hA hT hz hlt hgg hin
      obtain ⟨la, hla⟩ : ∃ la : Int, wrap64 (e2 + wrap64 ((IntKind.u64.wrap e3).tmod 10)) = la := ⟨_, rfl⟩
      have hl2 : e2 ≤ la := later_le hy hx hla
      have HA := HD.out.aok
      obtain ⟨u, hu⟩ : ∃ u, A.atT e1 = u := ⟨_, rfl⟩
      obtain ⟨is, his⟩ : ∃ b, A.atB e1 = b := ⟨_, rfl⟩
      have hti : A.tupI e1 = if is then some u else none := by
        rw [← hu, ← his]
        unfold Ab.atT Ab.atB
        cases A.tupI e1 <;> rfl
      have hwf : is = true → u.wf ∧ A.tupI e1 = some u := fun h1 => by
        rw [h1] at hti
        have h2 : A.tupI e1 = some u := hti
        refine ⟨?_, h2⟩
        unfold Ab.tupI at h2
        by_cases h0 : 0 ≤ e1
        · rw [if_pos h0] at h2
          exact (HA.wf _ ((HA.tup _ _).1 h2)).1
        · rw [if_neg h0] at h2; cases h2
      obtain ⟨d1, hd1⟩ : ∃ b, deadB T A e2 e1 = b := ⟨_, rfl⟩
      have hd1' : d1 = (is && deadT T e2 u) := by
        rw [← hd1]
        unfold deadB
        rw [hti]
        cases is <;> rfl
      have hat := duo_at (u := u) (b := is) HD.out e1 (by have := HSM.out.2; omega) hu his
      unfold tupV at hat
      have HAT := Lib.hid hat
      have HLA := Lib.hid hl2
      have HWF := Lib.hid hwf
      have HD1 := Lib.hid hd1
      have HD1' := Lib.hid hd1'
      have HI1 := Lib.hid i1
      clear hl2 HA hu his hti hwf hd1 hd1' hat
      go_upto_region 9 with (fail)
      rw [hla]
      clear hla
      go_wp2_with fail
      refine HAT.out.mono ?_
      rintro e w4 ⟨sl, rfl, hr4, -, hb4⟩
      obtain ⟨ra, rc, hsf, -, -⟩ := hr4.form
      subst hsf
      obtain ⟨rn, hrn⟩ : ∃ rn, u.row.length = rn := ⟨_, rfl⟩
      rw [hrn]
      obtain ⟨W5, hW5⟩ : ∃ W5, w4.alloc (.cells #[.int .i64 u.no, .int .i64 u.id, .int .i64 u.mn, .int .i64 u.cm, .int .i64 u.mx, .int .i64 u.cx, .slice ra rn rc] 61) = W5 := ⟨_, rfl⟩
      obtain ⟨g5, hg5⟩ : ∃ g, w4.heap.size = g := ⟨_, rfl⟩
      have hl5 : Lit W5 g5 61 [.int .i64 u.no, .int .i64 u.id, .int .i64 u.mn, .int .i64 u.cm, .int .i64 u.mx, .int .i64 u.cx, .slice ra rn rc] := by rw [← hW5, ← hg5]; exact Lit.new w4 _ _
      have hb5 : Below w4.heap.size w4 W5 := by rw [← hW5]; exact Below.allocs _ _
      have HL5 := Lib.hid hl5
      have HD5 := Lib.hid ((HD.out.below hb4).below hb5)
      clear hr4 hb4 hb5 hl5 hrn HAT HD
      cases is with
      | false =>
        have hdf : d1 = false := by rw [HD1'.out]; rfl
        subst hdf
        have hcon := duo_dead HD5.out HSM.out.1 (by have := HSM.out.2; omega) e2 e1 false HD1.out
        have HCON := Lib.hid hcon
        clear hcon
        go_wp2_with fail
        refine HCON.out.mono ?_
        rintro e w6 ⟨rfl, hb6⟩
        have HB6 := Lib.hid (HD5.out.bel.trans (hb6.mono HD5.out.bel.size))
        clear hb6 HCON hW5 hg5
        go_wp2_with fail
        go_ret
        exact ⟨rfl, HB6.out⟩
      | true =>
        have HWT : Hid (u.wf ∧ A.tupI e1 = some u) := Lib.hid (HWF.out (by first | rfl | trivial))
        have hcon := duo_dead HD5.out HSM.out.1 (by have := HSM.out.2; omega) e2 e1 d1 HD1.out
        have HCON := Lib.hid hcon
        clear hcon HWF
        go_wp2_with fail
        refine HCON.out.mono ?_
        rintro e w6 ⟨rfl, hb6⟩
        have HD6 := Lib.hid (HD5.out.below hb6)
        have HL6 := Lib.hid (HL5.out.below hb6)
        clear hb6 HCON hW5 hg5 HD5 HL5
        cases d1 with
        | false =>
          go_wp2_with fail
          go_ret
          exact ⟨rfl, HD6.out.bel⟩
        | true =>
          have HDT : Hid (deadT T e2 u = true) := Lib.hid (by have := HD1'.out; rw [Bool.true_and] at this; exact this.symm)
          obtain ⟨sb, hsb⟩ : ∃ b, seenB T A la 0 u.no u.id = b := ⟨_, rfl⟩
          obtain ⟨sv, hsv⟩ : ∃ b, seenV T A la 0 u.no u.id = b := ⟨_, rfl⟩
          have hdl : deadT T la u = true := dead_mono HD6.out.tok HLA.out HDT.out
          have hns := dead_seen HD6.out.tok HD6.out.aok HWT.out.2 hdl
          rw [hsb, hsv] at hns
          have hd2 : deadB T A la e1 = true := by unfold deadB; rw [HWT.out.2]; exact hdl
          have HSB := Lib.hid hsb
          have HSV := Lib.hid hsv
          have HNS := Lib.hid hns
          have HD2 := Lib.hid hd2
          obtain ⟨W7, hW7⟩ : ∃ W7, w6.alloc (.cells #[.int .i64 la, .int .i64 0] 34) = W7 := ⟨_, rfl⟩
          obtain ⟨g7, hg7⟩ : ∃ g, w6.heap.size = g := ⟨_, rfl⟩
          have hl7 : Lit W7 g7 34 [.int .i64 la, .int .i64 0] := by rw [← hW7, ← hg7]; exact Lit.new w6 _ _
          have hb7 : Below w6.heap.size w6 W7 := by rw [← hW7]; exact Below.allocs _ _
          have HD7 := Lib.hid (HD6.out.below hb7)
          have HL7 := Lib.hid (HL6.out.below hb7)
          have HV7 := Lib.hid hl7
          have HW7 := Lib.hid hW7
          have HG7 := Lib.hid hg7
          clear hsb hsv hdl hns hd2 hW7 hg7 hl7 hb7 HL6
          go_upto_region 15 with (fail)
          rw [HW7.out, HG7.out]
          clear HW7 HG7
          have v0 := HV7.out.cell (o := 0) rfl
          have v1 := HV7.out.cell (o := 1) rfl
          have vl := HV7.out.lt
          have d0 := HL7.out.cell (o := 0) rfl
          have d1 := HL7.out.cell (o := 1) rfl
          have dl := HL7.out.lt
          have hcon := duo_seen HD7.out HSM.out.1 (by have := HSM.out.2; omega) la 0 u.no u.id HWT.out.1.no HWT.out.1.id sb sv HSB.out HSV.out
          have HCON := Lib.hid hcon
          clear hcon
          go_wp2_with fail
          refine HCON.out.mono ?_
          rintro e w8 ⟨rfl, hb8⟩
          have HD8 := Lib.hid (HD7.out.below hb8)
          clear hb8 HCON v0 v1 vl d0 d1 dl
          have hcon := duo_dead HD8.out HSM.out.1 (by have := HSM.out.2; omega) la e1 true HD2.out
          have HCON := Lib.hid hcon
          clear hcon
          go_wp2_with fail
          refine HCON.out.mono ?_
          rintro e w9 ⟨rfl, hb9⟩
          have HB9 := Lib.hid (HD8.out.below hb9).bel
          clear hb9 HCON
          cases sb with
          | false =>
            go_wp2_with fail
            go_ret
            exact ⟨rfl, HB9.out⟩
          | true =>
            have hne : (sv == e1) = false := by
              have h1 := HNS.out
              by_cases h2 : sv = e1
              · exact absurd ⟨by first | rfl | trivial, h2⟩ h1
              · simpa using h2
            go_wp2_with fail
            go_ret
            exact ⟨rfl, HB9.out⟩

set_option maxRecDepth 100000 in
set_option maxHeartbeats 8000000 in
theorem dead_law (a0 : Option Addr) (c0 n0 : Nat) (l0 : List Stq) (hn0 : l0.length = n0) (e1 e2 e3 : Int) (i1 : I64 e1) (i2 : I64 e2) (i3 : I64 e3) (w : World) (hs0 : SlQ w a0 c0 l0) :
    Calls Try.prog 4 #[.slice a0 n0 c0, .int .i64 e1, .int .i64 e2, .int .i64 e3] w fun e w' => e = .returned (.bool true) ∧ Below w.heap.size w w' := by
  have HS := Lib.hid hs0
  have HN := Lib.hid hn0
  have hmx : n0 ≤ maxLen := by rw [← hn0]; exact Nat.le_trans hs0.lc hs0.cm
  by_cases hz : n0 ≤ 120
  · by_cases hy : 0 ≤ e2
    · by_cases hx : e2 ≤ 1000
      · exact dead_main a0 c0 n0 l0 hn0 e1 e2 e3 i1 i2 i3 w hs0 hz hy hx
      · exact dead_above a0 c0 n0 l0 hn0 e1 e2 e3 i1 i2 i3 w hs0 hz (by omega)
    · exact dead_below a0 c0 n0 l0 hn0 e1 e2 e3 i1 i2 i3 w hs0 hz (by omega)
  · exact dead_large a0 c0 n0 l0 hn0 e1 e2 e3 i1 i2 i3 w hs0 (by omega)

end Go.Proofs.Ytbgnbaogclnpgaa
