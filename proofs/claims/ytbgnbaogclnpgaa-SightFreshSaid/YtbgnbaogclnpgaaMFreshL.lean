/-
  The law SightFresh, walked.
-/
import Derived.Test.YtbgnbaogclnpgaaMDead
namespace Go.Proofs.Ytbgnbaogclnpgaa
open Go.RowKit
set_option linter.unusedVariables false

set_option maxRecDepth 100000 in
set_option maxHeartbeats 8000000 in
theorem fresh_large (a0 : Option Addr) (c0 n0 : Nat) (l0 : List Stq) (hn0 : l0.length = n0) (e1 e2 e3 e4 : Int) (i1 : I64 e1) (i2 : I64 e2) (i3 : I64 e3) (i4 : I64 e4) (w : World) (hs0 : SlQ w a0 c0 l0) (hz : 120 < n0) :
    Calls Try.prog 5 #[.slice a0 n0 c0, .int .i64 e1, .int .i64 e2, .int .i64 e3, .int .i64 e4] w fun e w' => e = .returned (.bool true) ∧ Below w.heap.size w w' := by
  have HS := Lib.hid hs0
  have HN := Lib.hid hn0
  have hmx : n0 ≤ maxLen := by rw [← hn0]; exact Nat.le_trans hs0.lc hs0.cm
  clear hs0 hn0
  go_enter Try.func5, Try.ntmps5
  have hcon := long_is w a0 n0 c0 true (by simp; omega) hmx
  go_wp2_with fail
  refine (show Calls Try.prog _ _ _ _ from hcon).mono ?_
  rintro e w1b ⟨rfl, hb⟩
  have HB1 := Lib.hid hb
  clear hcon hb
  have hcon := awake_is w1b
  go_wp2_with fail
  refine (show Calls Try.prog _ _ _ _ from hcon).mono ?_
  rintro e wz ⟨rfl, hb⟩
  have HBZ := Lib.hid (below_tr HB1.out hb)
  clear hcon hb
  go_wp2_with fail
  go_ret
  exact ⟨rfl, HBZ.out⟩

set_option maxRecDepth 100000 in
set_option maxHeartbeats 16000000 in
theorem fresh_main (a0 : Option Addr) (c0 n0 : Nat) (l0 : List Stq) (hn0 : l0.length = n0) (e1 e2 e3 e4 : Int) (i1 : I64 e1) (i2 : I64 e2) (i3 : I64 e3) (i4 : I64 e4) (w : World) (hs0 : SlQ w a0 c0 l0) (hz : n0 ≤ 120) :
    Calls Try.prog 5 #[.slice a0 n0 c0, .int .i64 e1, .int .i64 e2, .int .i64 e3, .int .i64 e4] w fun e w' => e = .returned (.bool true) ∧ Below w.heap.size w w' := by
  have HS := Lib.hid hs0
  have HN := Lib.hid hn0
  have hmx : n0 ≤ maxLen := by rw [← hn0]; exact Nat.le_trans hs0.lc hs0.cm
  have HZ := Lib.hid hz
  clear hs0 hn0
  have mixed : Try.prog.follows Departure.mixedOrders = true := by kernel_rfl
  go_enter Try.func5, Try.ntmps5
  have hcon := long_is w a0 n0 c0 false (by simp; omega) hmx
  go_wp2_with fail
  refine (show Calls Try.prog _ _ _ _ from hcon).mono ?_
  rintro e w1b ⟨rfl, hb⟩
  have HB1 := Lib.hid hb
  clear hcon hb
  have hcon := awake_is w1b
  go_wp2_with fail
  refine (show Calls Try.prog _ _ _ _ from hcon).mono ?_
  rintro e w1c ⟨rfl, hb⟩
  have HB2 := Lib.hid (below_tr HB1.out hb)
  clear hcon hb HB1
  have HB1 := HB2
  clear HB2
  have hcon := heap_new (w0 := w) (fun _ => False) HB1.out (fun _ h => h.elim)
  go_wp2_with fail
  refine (show Calls Try.prog _ _ _ _ from hcon).mono ?_
  rintro e w2 ⟨h, rfl, Fh, h1, h2, h3, hb1⟩
  have HH := Lib.hid (And.intro h1 (And.intro h2 (And.intro h3 (below_tr HB1.out hb1))))
  clear hcon h1 h2 h3 hb1
  have hcon := duo_new (w0 := w) (fun _ => False) HH.out.1 HH.out.2.1 HH.out.2.2.1 HH.out.2.2.2 (fun _ h => h.elim)
  go_wp2_with fail
  refine (show Calls Try.prog _ _ _ _ from hcon).mono ?_
  rintro e w3 ⟨t, rfl, hd, -⟩
  have HD0 := Lib.hid hd
  clear hcon hd HH HB1
  go_wp2_with fail
  go_loopg [13] n0 (fun gg sx wr => ∃ i : Nat, sx = .int .i64 i ∧ i ≤ n0 ∧ n0 - i ≤ gg ∧ Hid (Duo (fun _ => False) w wr h (Ab.new.sts (l0.take i)) (3 * i) t (Tb.new.sts (l0.take i))))
  case atStart => exact ⟨0, rfl, Nat.zero_le _, by omega, HD0⟩
  case round =>
    obtain ⟨i, rfl, hin, hgg, HD⟩ := hrel
    clear HD0
    have hsm := sts_small (i := i) (C := 120) HN.out (by have := HZ.out; omega)
    by_cases hlt : i < n0
    · have hltz : (i : Int) < (n0 : Int) := by omega
      have z1 : ¬ n0 ≤ i := by omega
      obtain ⟨st, sb, so, hst, hwf, rfl, sl, q0, q1, q2, q3, q4⟩ := stq_at HS.out HD.out.bel HN.out hlt
      have hrun := sts_take (A := Ab.new) (T := Tb.new) hst
      have hcon := step_is HD.out (by have := hsm.1; omega) (by have := hsm.2; omega) (by have := HZ.out; omega) st hwf
      rw [← hrun.1, ← hrun.2] at hcon
      have HCON := Lib.hid hcon
      clear hrun hst hsm hcon hwf
      go_wp2_with fail
      refine HCON.out.mono ?_
      rintro e w3 ⟨rfl, hd, -⟩
      have HD2 := Lib.hid (hd.more (show 3 * i + 3 ≤ 3 * (i + 1) by omega))
      clear HCON hd q0 q1 q2 q3 q4 sl HD
      go_wp2_with fail
      go_roundg (n0 - (i + 1))
      case measure => omega
      case rel => exact ⟨i + 1, by go_num, by omega, Nat.le_refl _, HD2⟩
    · have hltz : ¬ (i : Int) < (n0 : Int) := by omega
      obtain rfl : n0 = i := by omega
      have hfull : l0.take n0 = l0 := List.take_of_length_le (by rw [HN.out]; exact Nat.le_refl _)
      rw [hfull] at HD hsm
      clear hfull
      obtain ⟨A, hA⟩ : ∃ A, Ab.new.sts l0 = A := ⟨_, rfl⟩
      obtain ⟨T, hT⟩ : ∃ T, Tb.new.sts l0 = T := ⟨_, rfl⟩
      obtain ⟨z, hz⟩ : ∃ z, 3 * n0 = z := ⟨_, rfl⟩
      rw [hA, hT, hz] at HD
      rw [hT] at hsm
      have HSM : Hid (T.n ≤ 1000 ∧ z ≤ 80000) := Lib.hid ⟨by have := hsm.1; omega, by have := HZ.out; omega⟩
      clear hsm hA hT hz hlt hgg hin
      have HI := Lib.hid (And.intro i3 i4)
      have HZZ : Hid (z ≤ 90000) := Lib.hid (by have := HSM.out.2; omega)
      obtain ⟨W6, hW6⟩ : ∃ W6, wr.alloc (.cells #[.int .i64 e1, .int .i64 e2] 34) = W6 := ⟨_, rfl⟩
      obtain ⟨g6, hg6⟩ : ∃ g, wr.heap.size = g := ⟨_, rfl⟩
      have hl6 : Lit W6 g6 34 [.int .i64 e1, .int .i64 e2] := by rw [← hW6, ← hg6]; exact Lit.new wr _ _
      have hb6 : Below wr.heap.size wr W6 := by rw [← hW6]; exact Below.allocs _ _
      have HD6 := Lib.hid (HD.out.below hb6)
      have HV := Lib.hid hl6
      have HW6 := Lib.hid hW6
      have HG6 := Lib.hid hg6
      have htok := HD.out.tok
      obtain ⟨la, hla⟩ : ∃ la : Int, (T.last : Int) = la := ⟨_, rfl⟩
      have hf0 : freshB T A la 0 e3 e4 = true := by rw [← hla]; exact fresh_none A htok e3 e4
      obtain ⟨ow, how⟩ : ∃ o, ownR T e2 (A.vs e3 e4) = o := ⟨_, rfl⟩
      obtain ⟨sb, hsb⟩ : ∃ o, seenB T A e1 e2 e3 e4 = o := ⟨_, rfl⟩
      obtain ⟨sv, hsv⟩ : ∃ o, seenV T A e1 e2 e3 e4 = o := ⟨_, rfl⟩
      obtain ⟨nb, hnb⟩ : ∃ o, seenB T A T.last 0 e3 e4 = o := ⟨_, rfl⟩
      obtain ⟨nv, hnv⟩ : ∃ o, seenV T A T.last 0 e3 e4 = o := ⟨_, rfl⟩
      have hnow : la = e1 → freshB T A e1 e2 e3 e4 = true := fun h1 => by rw [← h1, ← hla]; exact fresh_now A htok e2 e3 e4
      have HLA := Lib.hid hla
      have HF0 := Lib.hid hf0
      have HSB := Lib.hid hsb
      have HSV := Lib.hid hsv
      have HNB := Lib.hid hnb
      have HNV := Lib.hid hnv
      have HNOW := Lib.hid hnow
      clear hW6 hg6 hl6 hb6 HD htok hla hf0 hsb hsv hnb hnv hnow
      go_upto_region 9 with (fail)
      rw [HW6.out, HG6.out]
      clear HW6 HG6
      cases ow with
      | true =>
        have HFV : Hid (freshB T A e1 e2 e3 e4 = true) := Lib.hid (fresh_own how)
        have HOW := Lib.hid how
        clear how
        have hdr := below_drw W6
        try simp only [List.append_eq, List.cons_append, List.nil_append]
        refine RX.wp_region_plan (fun w w' => Below w.heap.size w w') [.it (.pointer (some ⟨h, 0, none⟩)), .it (.pointer (some ⟨t, 0, none⟩)), .it (.pointer (some ⟨t, 0, none⟩)), .it (.agg #[.int .i64 la, .int .i64 0]), .it (.int .i64 e3), .it (.int .i64 e4), .it (.bool true), .it (.bool false), .it (.bool false), .it (.pointer (some ⟨h, 0, none⟩)), .it (.pointer (some ⟨t, 0, none⟩)), .it (.agg #[.int .i64 e1, .int .i64 e2]), .it (.int .i64 e3), .it (.int .i64 e4), .it (.bool true), .it (.bool true), .it (.pointer (some ⟨h, 0, none⟩)), .it (.pointer (some ⟨t, 0, none⟩)), .it (.agg #[.int .i64 e1, .int .i64 e2]), .it (.int .i64 e3), .it (.int .i64 e4), .it (.bool true), .it (.bool false), .it (.bool false), .it (.bool false), .it (.bool false), .it (.pointer (some ⟨h, 0, none⟩)), .it (.pointer (some ⟨t, 0, none⟩)), .it (.agg #[.int .i64 e1, .int .i64 e2]), .it (.int .i64 e3), .it (.int .i64 e4), .it (.bool true), .it (.bool false), .it (.bool false), .it undef, .it undef, .it undef, .it undef, .it undef, .it (.bool false), .it (.bool false), .it undef, .it undef, .it undef, .it undef, .it undef, .it undef, .it undef, .it (.bool false), .it (.bool false)] (by kernel_rfl) (by kernel_rfl) (fun _ => Below.refl _ _) (fun _ _ _ => below_tr) ?_
        refine RX.seqP_value (fun _ => Below.refl _ _) _ (by first | rfl | simp) (fun w' hw' hctx => by (go_simp); (try first | with_reducible rfl | simp)) ?_
        simp only [Act.put, List.setIfInBounds_toArray, List.set_cons_zero, List.set_cons_succ]
        refine RX.seqP_value (fun _ => Below.refl _ _) _ (by first | rfl | simp) (fun w' hw' hctx => by (go_simp); (try first | with_reducible rfl | simp)) ?_
        simp only [Act.put, List.setIfInBounds_toArray, List.set_cons_zero, List.set_cons_succ]
        refine RX.seqP_value (fun _ => Below.refl _ _) _ (by first | rfl | simp) (fun w' hw' hctx => by (go_simp); (try first | with_reducible rfl | simp)) ?_
        simp only [Act.put, List.setIfInBounds_toArray, List.set_cons_zero, List.set_cons_succ]
        refine RX.seqP_call (9) #[.pointer (some ⟨t, 0, none⟩), .int .i64 0] (.agg #[.int .i64 la, .int .i64 0]) (by first | rfl | simp) (fun w' hw' hctx => ?_) (fun w' hw' hctx => duo_now (HD6.out.below (below_tr hdr hw')) HSM.out.1 0 la HLA.out) ?_
        · go_simp
        simp only [Act.put, List.setIfInBounds_toArray, List.set_cons_zero, List.set_cons_succ]
        refine RX.seqP_value (fun _ => Below.refl _ _) _ (by first | rfl | simp) (fun w' hw' hctx => by (go_simp); (try first | with_reducible rfl | simp)) ?_
        simp only [Act.put, List.setIfInBounds_toArray, List.set_cons_zero, List.set_cons_succ]
        refine RX.seqP_value (fun _ => Below.refl _ _) _ (by first | rfl | simp) (fun w' hw' hctx => by (go_simp); (try first | with_reducible rfl | simp)) ?_
        simp only [Act.put, List.setIfInBounds_toArray, List.set_cons_zero, List.set_cons_succ]
        refine RX.seqP_call (20) #[.pointer (some ⟨h, 0, none⟩), .pointer (some ⟨t, 0, none⟩), .agg #[.int .i64 la, .int .i64 0], .int .i64 e3, .int .i64 e4] (.bool true) (by first | rfl | simp) (fun w' hw' hctx => ?_) (fun w' hw' hctx => duo_fresh (HD6.out.below (below_tr hdr hw')) HSM.out.1 HZZ.out la 0 e3 e4 HI.out.1 HI.out.2 true HF0.out) ?_
        · go_simp
        simp only [Act.put, List.setIfInBounds_toArray, List.set_cons_zero, List.set_cons_succ]
        refine RX.seqP_value (fun _ => Below.refl _ _) _ (by first | rfl | simp) (fun w' hw' hctx => by (go_simp); (try first | with_reducible rfl | simp)) ?_
        simp only [Act.put, List.setIfInBounds_toArray, List.set_cons_zero, List.set_cons_succ]
        refine RX.seqP_value (fun _ => Below.refl _ _) _ (by first | rfl | simp) (fun w' hw' hctx => by (go_simp); (try first | with_reducible rfl | simp)) ?_
        simp only [Act.put, List.setIfInBounds_toArray, List.set_cons_zero, List.set_cons_succ]
        refine RX.seqP_value (fun _ => Below.refl _ _) _ (by first | rfl | simp) (fun w' hw' hctx => by (go_simp); (try first | with_reducible rfl | simp)) ?_
        simp only [Act.put, List.setIfInBounds_toArray, List.set_cons_zero, List.set_cons_succ]
        refine RX.seqP_value (fun _ => Below.refl _ _) _ (by first | rfl | simp) (fun w' hw' hctx => by (go_simp); (try first | with_reducible rfl | simp)) ?_
        simp only [Act.put, List.setIfInBounds_toArray, List.set_cons_zero, List.set_cons_succ]
        refine RX.seqP_value (fun _ => Below.refl _ _) _ (by first | rfl | simp) (fun w' hw' hctx => ?_) ?_
        · have v0 := (HV.out.below (below_tr hdr hw')).cell (o := 0) rfl
          have v1 := (HV.out.below (below_tr hdr hw')).cell (o := 1) rfl
          have vl := (HV.out.below (below_tr hdr hw')).lt
          go_simp
          try first | with_reducible rfl | simp
        simp only [Act.put, List.setIfInBounds_toArray, List.set_cons_zero, List.set_cons_succ]
        refine RX.seqP_value (fun _ => Below.refl _ _) _ (by first | rfl | simp) (fun w' hw' hctx => by (go_simp); (try first | with_reducible rfl | simp)) ?_
        simp only [Act.put, List.setIfInBounds_toArray, List.set_cons_zero, List.set_cons_succ]
        refine RX.seqP_value (fun _ => Below.refl _ _) _ (by first | rfl | simp) (fun w' hw' hctx => by (go_simp); (try first | with_reducible rfl | simp)) ?_
        simp only [Act.put, List.setIfInBounds_toArray, List.set_cons_zero, List.set_cons_succ]
        refine RX.seqP_call (21) #[.pointer (some ⟨h, 0, none⟩), .pointer (some ⟨t, 0, none⟩), .agg #[.int .i64 e1, .int .i64 e2], .int .i64 e3, .int .i64 e4] (.bool true) (by first | rfl | simp) (fun w' hw' hctx => ?_) (fun w' hw' hctx => duo_own (HD6.out.below (below_tr hdr hw')) HSM.out.1 HZZ.out e1 e2 e3 e4 HI.out.1 HI.out.2 true HOW.out) ?_
        · go_simp
        simp only [Act.put, List.setIfInBounds_toArray, List.set_cons_zero, List.set_cons_succ]
        refine RX.seqP_value (fun _ => Below.refl _ _) _ (by first | rfl | simp) (fun w' hw' hctx => by (go_simp); (try first | with_reducible rfl | simp)) ?_
        simp only [Act.put, List.setIfInBounds_toArray, List.set_cons_zero, List.set_cons_succ]
        refine RX.seqP_value (fun _ => Below.refl _ _) _ (by first | rfl | simp) (fun w' hw' hctx => by (go_simp); (try first | with_reducible rfl | simp)) ?_
        simp only [Act.put, List.setIfInBounds_toArray, List.set_cons_zero, List.set_cons_succ]
        refine RX.seqP_value (fun _ => Below.refl _ _) _ (by first | rfl | simp) (fun w' hw' hctx => by (go_simp); (try first | with_reducible rfl | simp)) ?_
        simp only [Act.put, List.setIfInBounds_toArray, List.set_cons_zero, List.set_cons_succ]
        refine RX.seqP_value (fun _ => Below.refl _ _) _ (by first | rfl | simp) (fun w' hw' hctx => ?_) ?_
        · have v0 := (HV.out.below (below_tr hdr hw')).cell (o := 0) rfl
          have v1 := (HV.out.below (below_tr hdr hw')).cell (o := 1) rfl
          have vl := (HV.out.below (below_tr hdr hw')).lt
          go_simp
          try first | with_reducible rfl | simp
        simp only [Act.put, List.setIfInBounds_toArray, List.set_cons_zero, List.set_cons_succ]
        refine RX.seqP_value (fun _ => Below.refl _ _) _ (by first | rfl | simp) (fun w' hw' hctx => by (go_simp); (try first | with_reducible rfl | simp)) ?_
        simp only [Act.put, List.setIfInBounds_toArray, List.set_cons_zero, List.set_cons_succ]
        refine RX.seqP_value (fun _ => Below.refl _ _) _ (by first | rfl | simp) (fun w' hw' hctx => by (go_simp); (try first | with_reducible rfl | simp)) ?_
        simp only [Act.put, List.setIfInBounds_toArray, List.set_cons_zero, List.set_cons_succ]
        refine RX.seqP_call (20) #[.pointer (some ⟨h, 0, none⟩), .pointer (some ⟨t, 0, none⟩), .agg #[.int .i64 e1, .int .i64 e2], .int .i64 e3, .int .i64 e4] (.bool true) (by first | rfl | simp) (fun w' hw' hctx => ?_) (fun w' hw' hctx => duo_fresh (HD6.out.below (below_tr hdr hw')) HSM.out.1 HZZ.out e1 e2 e3 e4 HI.out.1 HI.out.2 true HFV.out) ?_
        · go_simp
        simp only [Act.put, List.setIfInBounds_toArray, List.set_cons_zero, List.set_cons_succ]
        refine RX.seqP_value (fun _ => Below.refl _ _) _ (by first | rfl | simp) (fun w' hw' hctx => by (go_simp); (try first | with_reducible rfl | simp)) ?_
        simp only [Act.put, List.setIfInBounds_toArray, List.set_cons_zero, List.set_cons_succ]
        refine RX.seqP_value (fun _ => Below.refl _ _) _ (by first | rfl | simp) (fun w' hw' hctx => by (go_simp); (try first | with_reducible rfl | simp)) ?_
        simp only [Act.put, List.setIfInBounds_toArray, List.set_cons_zero, List.set_cons_succ]
        refine RX.seqP_value (fun _ => Below.refl _ _) _ (by first | rfl | simp) (fun w' hw' hctx => by (go_simp); (try first | with_reducible rfl | simp)) ?_
        simp only [Act.put, List.setIfInBounds_toArray, List.set_cons_zero, List.set_cons_succ]
        refine RX.seqP_value (fun _ => Below.refl _ _) _ (by first | rfl | simp) (fun w' hw' hctx => by (go_simp); (try first | with_reducible rfl | simp)) ?_
        simp only [Act.put, List.setIfInBounds_toArray, List.set_cons_zero, List.set_cons_succ]
        refine RX.seqP_value (fun _ => Below.refl _ _) _ (by first | rfl | simp) (fun w' hw' hctx => by (go_simp); (try first | with_reducible rfl | simp)) ?_
        simp only [Act.put, List.setIfInBounds_toArray, List.set_cons_zero, List.set_cons_succ]
        refine RX.seqP_value (fun _ => Below.refl _ _) _ (by first | rfl | simp) (fun w' hw' hctx => by (go_simp); (try first | with_reducible rfl | simp)) ?_
        simp only [Act.put, List.setIfInBounds_toArray, List.set_cons_zero, List.set_cons_succ]
        refine RX.seqP_value (fun _ => Below.refl _ _) _ (by first | rfl | simp) (fun w' hw' hctx => ?_) ?_
        · have v0 := (HV.out.below (below_tr hdr hw')).cell (o := 0) rfl
          have v1 := (HV.out.below (below_tr hdr hw')).cell (o := 1) rfl
          have vl := (HV.out.below (below_tr hdr hw')).lt
          go_simp
          try first | with_reducible rfl | simp
        simp only [Act.put, List.setIfInBounds_toArray, List.set_cons_zero, List.set_cons_succ]
        refine RX.seqP_value (fun _ => Below.refl _ _) _ (by first | rfl | simp) (fun w' hw' hctx => by (go_simp); (try first | with_reducible rfl | simp)) ?_
        simp only [Act.put, List.setIfInBounds_toArray, List.set_cons_zero, List.set_cons_succ]
        refine RX.seqP_value (fun _ => Below.refl _ _) _ (by first | rfl | simp) (fun w' hw' hctx => by (go_simp); (try first | with_reducible rfl | simp)) ?_
        simp only [Act.put, List.setIfInBounds_toArray, List.set_cons_zero, List.set_cons_succ]
        refine RX.seqP_call (21) #[.pointer (some ⟨h, 0, none⟩), .pointer (some ⟨t, 0, none⟩), .agg #[.int .i64 e1, .int .i64 e2], .int .i64 e3, .int .i64 e4] (.bool true) (by first | rfl | simp) (fun w' hw' hctx => ?_) (fun w' hw' hctx => duo_own (HD6.out.below (below_tr hdr hw')) HSM.out.1 HZZ.out e1 e2 e3 e4 HI.out.1 HI.out.2 true HOW.out) ?_
        · go_simp
        simp only [Act.put, List.setIfInBounds_toArray, List.set_cons_zero, List.set_cons_succ]
        refine RX.seqP_value (fun _ => Below.refl _ _) _ (by first | rfl | simp) (fun w' hw' hctx => by (go_simp); (try first | with_reducible rfl | simp)) ?_
        simp only [Act.put, List.setIfInBounds_toArray, List.set_cons_zero, List.set_cons_succ]
        refine RX.seqP_value (fun _ => Below.refl _ _) _ (by first | rfl | simp) (fun w' hw' hctx => by (go_simp); (try first | with_reducible rfl | simp)) ?_
        simp only [Act.put, List.setIfInBounds_toArray, List.set_cons_zero, List.set_cons_succ]
        refine RX.seqP_skip (by first | rfl | simp) ?_
        simp only [Act.put, List.setIfInBounds_toArray, List.set_cons_zero, List.set_cons_succ]
        refine RX.seqP_skip (by first | rfl | simp) ?_
        simp only [Act.put, List.setIfInBounds_toArray, List.set_cons_zero, List.set_cons_succ]
        refine RX.seqP_skip (by first | rfl | simp) ?_
        simp only [Act.put, List.setIfInBounds_toArray, List.set_cons_zero, List.set_cons_succ]
        refine RX.seqP_skip (by first | rfl | simp) ?_
        simp only [Act.put, List.setIfInBounds_toArray, List.set_cons_zero, List.set_cons_succ]
        refine RX.seqP_skip (by first | rfl | simp) ?_
        simp only [Act.put, List.setIfInBounds_toArray, List.set_cons_zero, List.set_cons_succ]
        refine RX.seqP_value (fun _ => Below.refl _ _) _ (by first | rfl | simp) (fun w' hw' hctx => by (go_simp); (try first | with_reducible rfl | simp)) ?_
        simp only [Act.put, List.setIfInBounds_toArray, List.set_cons_zero, List.set_cons_succ]
        refine RX.seqP_value (fun _ => Below.refl _ _) _ (by first | rfl | simp) (fun w' hw' hctx => by (go_simp); (try first | with_reducible rfl | simp)) ?_
        simp only [Act.put, List.setIfInBounds_toArray, List.set_cons_zero, List.set_cons_succ]
        refine RX.seqP_skip (by first | rfl | simp) ?_
        simp only [Act.put, List.setIfInBounds_toArray, List.set_cons_zero, List.set_cons_succ]
        refine RX.seqP_skip (by first | rfl | simp) ?_
        simp only [Act.put, List.setIfInBounds_toArray, List.set_cons_zero, List.set_cons_succ]
        refine RX.seqP_skip (by first | rfl | simp) ?_
        simp only [Act.put, List.setIfInBounds_toArray, List.set_cons_zero, List.set_cons_succ]
        refine RX.seqP_skip (by first | rfl | simp) ?_
        simp only [Act.put, List.setIfInBounds_toArray, List.set_cons_zero, List.set_cons_succ]
        refine RX.seqP_skip (by first | rfl | simp) ?_
        simp only [Act.put, List.setIfInBounds_toArray, List.set_cons_zero, List.set_cons_succ]
        refine RX.seqP_skip (by first | rfl | simp) ?_
        simp only [Act.put, List.setIfInBounds_toArray, List.set_cons_zero, List.set_cons_succ]
        refine RX.seqP_skip (by first | rfl | simp) ?_
        simp only [Act.put, List.setIfInBounds_toArray, List.set_cons_zero, List.set_cons_succ]
        refine RX.seqP_value (fun _ => Below.refl _ _) _ (by first | rfl | simp) (fun w' hw' hctx => by (go_simp); (try first | with_reducible rfl | simp)) ?_
        simp only [Act.put, List.setIfInBounds_toArray, List.set_cons_zero, List.set_cons_succ]
        refine RX.seqP_value (fun _ => Below.refl _ _) _ (by first | rfl | simp) (fun w' hw' hctx => by (go_simp); (try first | with_reducible rfl | simp)) ?_
        simp only [Act.put, List.setIfInBounds_toArray, List.set_cons_zero, List.set_cons_succ]
        refine RX.seqP_nil (fun w7 hR hctx _ => ?_)
        have hb7 := below_tr hdr hR
        clear hctx hR
        have HD7 := Lib.hid (HD6.out.below hb7)
        have HV7 := Lib.hid (HV.out.below hb7)
        clear hb7 hdr HD6 HV
        have v0 := HV7.out.cell (o := 0) rfl
        have v1 := HV7.out.cell (o := 1) rfl
        have vl := HV7.out.lt
        have hcon := duo_seen HD7.out HSM.out.1 HZZ.out e1 e2 e3 e4 HI.out.1 HI.out.2 sb sv HSB.out HSV.out
        have HCON := Lib.hid hcon
        clear hcon
        go_wp2_with fail
        refine HCON.out.mono ?_
        rintro e w8 ⟨rfl, hb8⟩
        have HD8 := Lib.hid (HD7.out.below hb8)
        have HV8 := Lib.hid (HV7.out.below hb8)
        clear hb8 HD7 HV7 HCON v0 v1 vl
        have hcon := duo_newest HD8.out HSM.out.1 HZZ.out e3 e4 HI.out.1 HI.out.2 nb nv HNB.out HNV.out
        have HCON := Lib.hid hcon
        clear hcon
        go_wp2_with fail
        refine HCON.out.mono ?_
        rintro e w9 ⟨rfl, hb9⟩
        have HD9 := Lib.hid (HD8.out.below hb9)
        have HV9 := Lib.hid (HV8.out.below hb9)
        clear hb9 HD8 HV8 HCON
        have v0 := HV9.out.cell (o := 0) rfl
        have v1 := HV9.out.cell (o := 1) rfl
        have vl := HV9.out.lt
        have hcon := duo_own HD9.out HSM.out.1 HZZ.out e1 e2 e3 e4 HI.out.1 HI.out.2 true HOW.out
        have HCON := Lib.hid hcon
        clear hcon
        go_wp2_with fail
        refine HCON.out.mono ?_
        rintro e w10 ⟨rfl, hb10⟩
        have HD10 := Lib.hid (HD9.out.below hb10)
        have HV10 := Lib.hid (HV9.out.below hb10)
        clear hb10 HD9 HV9 HCON v0 v1 vl
        go_wp2_with fail
        go_ret
        exact ⟨rfl, HD10.out.bel⟩
      | false =>
        have HOW := Lib.hid how
        clear how
        by_cases hq : la = e1
        · have HQ := Lib.hid hq
          have HFV := Lib.hid (HNOW.out hq)
          clear hq
          have hdr := below_drw W6
          try simp only [List.append_eq, List.cons_append, List.nil_append]
          refine RX.wp_region_plan (fun w w' => Below w.heap.size w w') [.it (.pointer (some ⟨h, 0, none⟩)), .it (.pointer (some ⟨t, 0, none⟩)), .it (.pointer (some ⟨t, 0, none⟩)), .it (.agg #[.int .i64 la, .int .i64 0]), .it (.int .i64 e3), .it (.int .i64 e4), .it (.bool true), .it (.bool false), .it (.bool false), .it (.pointer (some ⟨h, 0, none⟩)), .it (.pointer (some ⟨t, 0, none⟩)), .it (.agg #[.int .i64 e1, .int .i64 e2]), .it (.int .i64 e3), .it (.int .i64 e4), .it (.bool false), .it (.bool false), .it undef, .it undef, .it undef, .it undef, .it undef, .it undef, .it undef, .it (.bool false), .it (.bool false), .it (.bool false), .it (.pointer (some ⟨h, 0, none⟩)), .it (.pointer (some ⟨t, 0, none⟩)), .it (.agg #[.int .i64 e1, .int .i64 e2]), .it (.int .i64 e3), .it (.int .i64 e4), .it (.bool false), .it (.bool true), .it (.bool true), .it (.pointer (some ⟨t, 0, none⟩)), .it (.int .i64 e2), .it (.agg #[.int .i64 la, .int .i64 e2]), .it (.agg #[.int .i64 e1, .int .i64 e2]), .it (.bool true), .it (.bool true), .it (.bool true), .it (.pointer (some ⟨h, 0, none⟩)), .it (.pointer (some ⟨t, 0, none⟩)), .it (.agg #[.int .i64 e1, .int .i64 e2]), .it (.int .i64 e3), .it (.int .i64 e4), .it (.bool true), .it (.bool false), .it (.bool false), .it (.bool false)] (by kernel_rfl) (by kernel_rfl) (fun _ => Below.refl _ _) (fun _ _ _ => below_tr) ?_
          refine RX.seqP_value (fun _ => Below.refl _ _) _ (by first | rfl | simp) (fun w' hw' hctx => by (go_simp); (try first | with_reducible rfl | simp)) ?_
          simp only [Act.put, List.setIfInBounds_toArray, List.set_cons_zero, List.set_cons_succ]
          refine RX.seqP_value (fun _ => Below.refl _ _) _ (by first | rfl | simp) (fun w' hw' hctx => by (go_simp); (try first | with_reducible rfl | simp)) ?_
          simp only [Act.put, List.setIfInBounds_toArray, List.set_cons_zero, List.set_cons_succ]
          refine RX.seqP_value (fun _ => Below.refl _ _) _ (by first | rfl | simp) (fun w' hw' hctx => by (go_simp); (try first | with_reducible rfl | simp)) ?_
          simp only [Act.put, List.setIfInBounds_toArray, List.set_cons_zero, List.set_cons_succ]
          refine RX.seqP_call (9) #[.pointer (some ⟨t, 0, none⟩), .int .i64 0] (.agg #[.int .i64 la, .int .i64 0]) (by first | rfl | simp) (fun w' hw' hctx => ?_) (fun w' hw' hctx => duo_now (HD6.out.below (below_tr hdr hw')) HSM.out.1 0 la HLA.out) ?_
          · go_simp
          simp only [Act.put, List.setIfInBounds_toArray, List.set_cons_zero, List.set_cons_succ]
          refine RX.seqP_value (fun _ => Below.refl _ _) _ (by first | rfl | simp) (fun w' hw' hctx => by (go_simp); (try first | with_reducible rfl | simp)) ?_
          simp only [Act.put, List.setIfInBounds_toArray, List.set_cons_zero, List.set_cons_succ]
          refine RX.seqP_value (fun _ => Below.refl _ _) _ (by first | rfl | simp) (fun w' hw' hctx => by (go_simp); (try first | with_reducible rfl | simp)) ?_
          simp only [Act.put, List.setIfInBounds_toArray, List.set_cons_zero, List.set_cons_succ]
          refine RX.seqP_call (20) #[.pointer (some ⟨h, 0, none⟩), .pointer (some ⟨t, 0, none⟩), .agg #[.int .i64 la, .int .i64 0], .int .i64 e3, .int .i64 e4] (.bool true) (by first | rfl | simp) (fun w' hw' hctx => ?_) (fun w' hw' hctx => duo_fresh (HD6.out.below (below_tr hdr hw')) HSM.out.1 HZZ.out la 0 e3 e4 HI.out.1 HI.out.2 true HF0.out) ?_
          · go_simp
          simp only [Act.put, List.setIfInBounds_toArray, List.set_cons_zero, List.set_cons_succ]
          refine RX.seqP_value (fun _ => Below.refl _ _) _ (by first | rfl | simp) (fun w' hw' hctx => by (go_simp); (try first | with_reducible rfl | simp)) ?_
          simp only [Act.put, List.setIfInBounds_toArray, List.set_cons_zero, List.set_cons_succ]
          refine RX.seqP_value (fun _ => Below.refl _ _) _ (by first | rfl | simp) (fun w' hw' hctx => by (go_simp); (try first | with_reducible rfl | simp)) ?_
          simp only [Act.put, List.setIfInBounds_toArray, List.set_cons_zero, List.set_cons_succ]
          refine RX.seqP_value (fun _ => Below.refl _ _) _ (by first | rfl | simp) (fun w' hw' hctx => by (go_simp); (try first | with_reducible rfl | simp)) ?_
          simp only [Act.put, List.setIfInBounds_toArray, List.set_cons_zero, List.set_cons_succ]
          refine RX.seqP_value (fun _ => Below.refl _ _) _ (by first | rfl | simp) (fun w' hw' hctx => by (go_simp); (try first | with_reducible rfl | simp)) ?_
          simp only [Act.put, List.setIfInBounds_toArray, List.set_cons_zero, List.set_cons_succ]
          refine RX.seqP_value (fun _ => Below.refl _ _) _ (by first | rfl | simp) (fun w' hw' hctx => ?_) ?_
          · have v0 := (HV.out.below (below_tr hdr hw')).cell (o := 0) rfl
            have v1 := (HV.out.below (below_tr hdr hw')).cell (o := 1) rfl
            have vl := (HV.out.below (below_tr hdr hw')).lt
            go_simp
            try first | with_reducible rfl | simp
          simp only [Act.put, List.setIfInBounds_toArray, List.set_cons_zero, List.set_cons_succ]
          refine RX.seqP_value (fun _ => Below.refl _ _) _ (by first | rfl | simp) (fun w' hw' hctx => by (go_simp); (try first | with_reducible rfl | simp)) ?_
          simp only [Act.put, List.setIfInBounds_toArray, List.set_cons_zero, List.set_cons_succ]
          refine RX.seqP_value (fun _ => Below.refl _ _) _ (by first | rfl | simp) (fun w' hw' hctx => by (go_simp); (try first | with_reducible rfl | simp)) ?_
          simp only [Act.put, List.setIfInBounds_toArray, List.set_cons_zero, List.set_cons_succ]
          refine RX.seqP_call (21) #[.pointer (some ⟨h, 0, none⟩), .pointer (some ⟨t, 0, none⟩), .agg #[.int .i64 e1, .int .i64 e2], .int .i64 e3, .int .i64 e4] (.bool false) (by first | rfl | simp) (fun w' hw' hctx => ?_) (fun w' hw' hctx => duo_own (HD6.out.below (below_tr hdr hw')) HSM.out.1 HZZ.out e1 e2 e3 e4 HI.out.1 HI.out.2 false HOW.out) ?_
          · go_simp
          simp only [Act.put, List.setIfInBounds_toArray, List.set_cons_zero, List.set_cons_succ]
          refine RX.seqP_value (fun _ => Below.refl _ _) _ (by first | rfl | simp) (fun w' hw' hctx => by (go_simp); (try first | with_reducible rfl | simp)) ?_
          simp only [Act.put, List.setIfInBounds_toArray, List.set_cons_zero, List.set_cons_succ]
          refine RX.seqP_skip (by first | rfl | simp) ?_
          simp only [Act.put, List.setIfInBounds_toArray, List.set_cons_zero, List.set_cons_succ]
          refine RX.seqP_skip (by first | rfl | simp) ?_
          simp only [Act.put, List.setIfInBounds_toArray, List.set_cons_zero, List.set_cons_succ]
          refine RX.seqP_skip (by first | rfl | simp) ?_
          simp only [Act.put, List.setIfInBounds_toArray, List.set_cons_zero, List.set_cons_succ]
          refine RX.seqP_skip (by first | rfl | simp) ?_
          simp only [Act.put, List.setIfInBounds_toArray, List.set_cons_zero, List.set_cons_succ]
          refine RX.seqP_skip (by first | rfl | simp) ?_
          simp only [Act.put, List.setIfInBounds_toArray, List.set_cons_zero, List.set_cons_succ]
          refine RX.seqP_skip (by first | rfl | simp) ?_
          simp only [Act.put, List.setIfInBounds_toArray, List.set_cons_zero, List.set_cons_succ]
          refine RX.seqP_skip (by first | rfl | simp) ?_
          simp only [Act.put, List.setIfInBounds_toArray, List.set_cons_zero, List.set_cons_succ]
          refine RX.seqP_value (fun _ => Below.refl _ _) _ (by first | rfl | simp) (fun w' hw' hctx => by (go_simp); (try first | with_reducible rfl | simp)) ?_
          simp only [Act.put, List.setIfInBounds_toArray, List.set_cons_zero, List.set_cons_succ]
          refine RX.seqP_value (fun _ => Below.refl _ _) _ (by first | rfl | simp) (fun w' hw' hctx => by (go_simp); (try first | with_reducible rfl | simp)) ?_
          simp only [Act.put, List.setIfInBounds_toArray, List.set_cons_zero, List.set_cons_succ]
          refine RX.seqP_value (fun _ => Below.refl _ _) _ (by first | rfl | simp) (fun w' hw' hctx => by (go_simp); (try first | with_reducible rfl | simp)) ?_
          simp only [Act.put, List.setIfInBounds_toArray, List.set_cons_zero, List.set_cons_succ]
          refine RX.seqP_value (fun _ => Below.refl _ _) _ (by first | rfl | simp) (fun w' hw' hctx => by (go_simp); (try first | with_reducible rfl | simp)) ?_
          simp only [Act.put, List.setIfInBounds_toArray, List.set_cons_zero, List.set_cons_succ]
          refine RX.seqP_value (fun _ => Below.refl _ _) _ (by first | rfl | simp) (fun w' hw' hctx => by (go_simp); (try first | with_reducible rfl | simp)) ?_
          simp only [Act.put, List.setIfInBounds_toArray, List.set_cons_zero, List.set_cons_succ]
          refine RX.seqP_value (fun _ => Below.refl _ _) _ (by first | rfl | simp) (fun w' hw' hctx => ?_) ?_
          · have v0 := (HV.out.below (below_tr hdr hw')).cell (o := 0) rfl
            have v1 := (HV.out.below (below_tr hdr hw')).cell (o := 1) rfl
            have vl := (HV.out.below (below_tr hdr hw')).lt
            go_simp
            try first | with_reducible rfl | simp
          simp only [Act.put, List.setIfInBounds_toArray, List.set_cons_zero, List.set_cons_succ]
          refine RX.seqP_value (fun _ => Below.refl _ _) _ (by first | rfl | simp) (fun w' hw' hctx => by (go_simp); (try first | with_reducible rfl | simp)) ?_
          simp only [Act.put, List.setIfInBounds_toArray, List.set_cons_zero, List.set_cons_succ]
          refine RX.seqP_value (fun _ => Below.refl _ _) _ (by first | rfl | simp) (fun w' hw' hctx => by (go_simp); (try first | with_reducible rfl | simp)) ?_
          simp only [Act.put, List.setIfInBounds_toArray, List.set_cons_zero, List.set_cons_succ]
          refine RX.seqP_call (21) #[.pointer (some ⟨h, 0, none⟩), .pointer (some ⟨t, 0, none⟩), .agg #[.int .i64 e1, .int .i64 e2], .int .i64 e3, .int .i64 e4] (.bool false) (by first | rfl | simp) (fun w' hw' hctx => ?_) (fun w' hw' hctx => duo_own (HD6.out.below (below_tr hdr hw')) HSM.out.1 HZZ.out e1 e2 e3 e4 HI.out.1 HI.out.2 false HOW.out) ?_
          · go_simp
          simp only [Act.put, List.setIfInBounds_toArray, List.set_cons_zero, List.set_cons_succ]
          refine RX.seqP_value (fun _ => Below.refl _ _) _ (by first | rfl | simp) (fun w' hw' hctx => by (go_simp); (try first | with_reducible rfl | simp)) ?_
          simp only [Act.put, List.setIfInBounds_toArray, List.set_cons_zero, List.set_cons_succ]
          refine RX.seqP_value (fun _ => Below.refl _ _) _ (by first | rfl | simp) (fun w' hw' hctx => by (go_simp); (try first | with_reducible rfl | simp)) ?_
          simp only [Act.put, List.setIfInBounds_toArray, List.set_cons_zero, List.set_cons_succ]
          refine RX.seqP_value (fun _ => Below.refl _ _) _ (by first | rfl | simp) (fun w' hw' hctx => by (go_simp); (try first | with_reducible rfl | simp)) ?_
          simp only [Act.put, List.setIfInBounds_toArray, List.set_cons_zero, List.set_cons_succ]
          refine RX.seqP_value (fun _ => Below.refl _ _) _ (by first | rfl | simp) (fun w' hw' hctx => by (go_simp); (try first | with_reducible rfl | simp)) ?_
          simp only [Act.put, List.setIfInBounds_toArray, List.set_cons_zero, List.set_cons_succ]
          refine RX.seqP_call (9) #[.pointer (some ⟨t, 0, none⟩), .int .i64 e2] (.agg #[.int .i64 la, .int .i64 e2]) (by first | rfl | simp) (fun w' hw' hctx => ?_) (fun w' hw' hctx => duo_now (HD6.out.below (below_tr hdr hw')) HSM.out.1 e2 la HLA.out) ?_
          · go_simp
          simp only [Act.put, List.setIfInBounds_toArray, List.set_cons_zero, List.set_cons_succ]
          refine RX.seqP_value (fun _ => Below.refl _ _) _ (by first | rfl | simp) (fun w' hw' hctx => ?_) ?_
          · have v0 := (HV.out.below (below_tr hdr hw')).cell (o := 0) rfl
            have v1 := (HV.out.below (below_tr hdr hw')).cell (o := 1) rfl
            have vl := (HV.out.below (below_tr hdr hw')).lt
            go_simp
            try first | with_reducible rfl | simp
          simp only [Act.put, List.setIfInBounds_toArray, List.set_cons_zero, List.set_cons_succ]
          refine RX.seqP_value (fun _ => Below.refl _ _) _ (by first | rfl | simp) (fun w' hw' hctx => ?_) ?_
          · have hq := HQ.out
            go_simp
            try first | with_reducible rfl | simp
          simp only [Act.put, List.setIfInBounds_toArray, List.set_cons_zero, List.set_cons_succ]
          refine RX.seqP_value (fun _ => Below.refl _ _) _ (by first | rfl | simp) (fun w' hw' hctx => by (go_simp); (try first | with_reducible rfl | simp)) ?_
          simp only [Act.put, List.setIfInBounds_toArray, List.set_cons_zero, List.set_cons_succ]
          refine RX.seqP_value (fun _ => Below.refl _ _) _ (by first | rfl | simp) (fun w' hw' hctx => by (go_simp); (try first | with_reducible rfl | simp)) ?_
          simp only [Act.put, List.setIfInBounds_toArray, List.set_cons_zero, List.set_cons_succ]
          refine RX.seqP_value (fun _ => Below.refl _ _) _ (by first | rfl | simp) (fun w' hw' hctx => by (go_simp); (try first | with_reducible rfl | simp)) ?_
          simp only [Act.put, List.setIfInBounds_toArray, List.set_cons_zero, List.set_cons_succ]
          refine RX.seqP_value (fun _ => Below.refl _ _) _ (by first | rfl | simp) (fun w' hw' hctx => by (go_simp); (try first | with_reducible rfl | simp)) ?_
          simp only [Act.put, List.setIfInBounds_toArray, List.set_cons_zero, List.set_cons_succ]
          refine RX.seqP_value (fun _ => Below.refl _ _) _ (by first | rfl | simp) (fun w' hw' hctx => ?_) ?_
          · have v0 := (HV.out.below (below_tr hdr hw')).cell (o := 0) rfl
            have v1 := (HV.out.below (below_tr hdr hw')).cell (o := 1) rfl
            have vl := (HV.out.below (below_tr hdr hw')).lt
            go_simp
            try first | with_reducible rfl | simp
          simp only [Act.put, List.setIfInBounds_toArray, List.set_cons_zero, List.set_cons_succ]
          refine RX.seqP_value (fun _ => Below.refl _ _) _ (by first | rfl | simp) (fun w' hw' hctx => by (go_simp); (try first | with_reducible rfl | simp)) ?_
          simp only [Act.put, List.setIfInBounds_toArray, List.set_cons_zero, List.set_cons_succ]
          refine RX.seqP_value (fun _ => Below.refl _ _) _ (by first | rfl | simp) (fun w' hw' hctx => by (go_simp); (try first | with_reducible rfl | simp)) ?_
          simp only [Act.put, List.setIfInBounds_toArray, List.set_cons_zero, List.set_cons_succ]
          refine RX.seqP_call (20) #[.pointer (some ⟨h, 0, none⟩), .pointer (some ⟨t, 0, none⟩), .agg #[.int .i64 e1, .int .i64 e2], .int .i64 e3, .int .i64 e4] (.bool true) (by first | rfl | simp) (fun w' hw' hctx => ?_) (fun w' hw' hctx => duo_fresh (HD6.out.below (below_tr hdr hw')) HSM.out.1 HZZ.out e1 e2 e3 e4 HI.out.1 HI.out.2 true HFV.out) ?_
          · go_simp
          simp only [Act.put, List.setIfInBounds_toArray, List.set_cons_zero, List.set_cons_succ]
          refine RX.seqP_value (fun _ => Below.refl _ _) _ (by first | rfl | simp) (fun w' hw' hctx => by (go_simp); (try first | with_reducible rfl | simp)) ?_
          simp only [Act.put, List.setIfInBounds_toArray, List.set_cons_zero, List.set_cons_succ]
          refine RX.seqP_value (fun _ => Below.refl _ _) _ (by first | rfl | simp) (fun w' hw' hctx => by (go_simp); (try first | with_reducible rfl | simp)) ?_
          simp only [Act.put, List.setIfInBounds_toArray, List.set_cons_zero, List.set_cons_succ]
          refine RX.seqP_value (fun _ => Below.refl _ _) _ (by first | rfl | simp) (fun w' hw' hctx => by (go_simp); (try first | with_reducible rfl | simp)) ?_
          simp only [Act.put, List.setIfInBounds_toArray, List.set_cons_zero, List.set_cons_succ]
          refine RX.seqP_nil (fun w7 hR hctx _ => ?_)
          have hb7 := below_tr hdr hR
          clear hctx hR
          have HD7 := Lib.hid (HD6.out.below hb7)
          have HV7 := Lib.hid (HV.out.below hb7)
          clear hb7 hdr HD6 HV
          have v0 := HV7.out.cell (o := 0) rfl
          have v1 := HV7.out.cell (o := 1) rfl
          have vl := HV7.out.lt
          have hcon := duo_seen HD7.out HSM.out.1 HZZ.out e1 e2 e3 e4 HI.out.1 HI.out.2 sb sv HSB.out HSV.out
          have HCON := Lib.hid hcon
          clear hcon
          go_wp2_with fail
          refine HCON.out.mono ?_
          rintro e w8 ⟨rfl, hb8⟩
          have HD8 := Lib.hid (HD7.out.below hb8)
          have HV8 := Lib.hid (HV7.out.below hb8)
          clear hb8 HD7 HV7 HCON v0 v1 vl
          have hcon := duo_newest HD8.out HSM.out.1 HZZ.out e3 e4 HI.out.1 HI.out.2 nb nv HNB.out HNV.out
          have HCON := Lib.hid hcon
          clear hcon
          go_wp2_with fail
          refine HCON.out.mono ?_
          rintro e w9 ⟨rfl, hb9⟩
          have HD9 := Lib.hid (HD8.out.below hb9)
          have HV9 := Lib.hid (HV8.out.below hb9)
          clear hb9 HD8 HV8 HCON
          have v0 := HV9.out.cell (o := 0) rfl
          have v1 := HV9.out.cell (o := 1) rfl
          have vl := HV9.out.lt
          have hcon := duo_own HD9.out HSM.out.1 HZZ.out e1 e2 e3 e4 HI.out.1 HI.out.2 false HOW.out
          have HCON := Lib.hid hcon
          clear hcon
          go_wp2_with fail
          refine HCON.out.mono ?_
          rintro e w10 ⟨rfl, hb10⟩
          have HD10 := Lib.hid (HD9.out.below hb10)
          have HV10 := Lib.hid (HV9.out.below hb10)
          clear hb10 HD9 HV9 HCON v0 v1 vl
          have v0 := HV10.out.cell (o := 0) rfl
          have v1 := HV10.out.cell (o := 1) rfl
          have vl := HV10.out.lt
          obtain ⟨fv, hfv⟩ : ∃ b, freshB T A e1 e2 e3 e4 = b := ⟨_, rfl⟩
          have hfe : fv = (decide (sb = nb) && decide (sv = nv)) := by
            rw [← hfv]
            unfold freshB
            rw [HOW.out, HSB.out, HSV.out, HNB.out, HNV.out, Bool.false_or]
          have hcon := duo_fresh HD10.out HSM.out.1 HZZ.out e1 e2 e3 e4 HI.out.1 HI.out.2 fv hfv
          have HCON := Lib.hid hcon
          have HFE := Lib.hid hfe
          clear hcon hfv hfe
          go_wp2_with fail
          refine HCON.out.mono ?_
          rintro e w11 ⟨rfl, hb11⟩
          have HB11 := Lib.hid (HD10.out.below hb11).bel
          clear hb11 HCON v0 v1 vl HD10 HV10
          by_cases hv : sv = nv
          · have hv1 : (sv == nv) = true := by simpa using hv
            by_cases hbn : sb = nb
            · have hb1 : (sb == nb) = true := by simpa using hbn
              have hf : fv = true := by rw [HFE.out, decide_eq_true hbn, decide_eq_true hv]; rfl
              subst hf
              clear hv hbn
              go_wp2_with fail
              go_ret
              exact ⟨rfl, HB11.out⟩
            · have hb1 : (sb == nb) = false := by simpa using hbn
              have hf : fv = false := by rw [HFE.out, decide_eq_false hbn]; rfl
              subst hf
              clear hv hbn
              go_wp2_with fail
              go_ret
              exact ⟨rfl, HB11.out⟩
          · have hv1 : (sv == nv) = false := by simpa using hv
            have hf : fv = false := by rw [HFE.out, decide_eq_false hv, Bool.and_false]
            subst hf
            clear hv
            go_wp2_with fail
            go_ret
            exact ⟨rfl, HB11.out⟩
        · have HQ := Lib.hid hq
          clear hq
          have hdr := below_drw W6
          try simp only [List.append_eq, List.cons_append, List.nil_append]
          refine RX.wp_region_plan (fun w w' => Below w.heap.size w w') [.it (.pointer (some ⟨h, 0, none⟩)), .it (.pointer (some ⟨t, 0, none⟩)), .it (.pointer (some ⟨t, 0, none⟩)), .it (.agg #[.int .i64 la, .int .i64 0]), .it (.int .i64 e3), .it (.int .i64 e4), .it (.bool true), .it (.bool false), .it (.bool false), .it (.pointer (some ⟨h, 0, none⟩)), .it (.pointer (some ⟨t, 0, none⟩)), .it (.agg #[.int .i64 e1, .int .i64 e2]), .it (.int .i64 e3), .it (.int .i64 e4), .it (.bool false), .it (.bool false), .it undef, .it undef, .it undef, .it undef, .it undef, .it undef, .it undef, .it (.bool false), .it (.bool false), .it (.bool false), .it (.pointer (some ⟨h, 0, none⟩)), .it (.pointer (some ⟨t, 0, none⟩)), .it (.agg #[.int .i64 e1, .int .i64 e2]), .it (.int .i64 e3), .it (.int .i64 e4), .it (.bool false), .it (.bool true), .it (.bool true), .it (.pointer (some ⟨t, 0, none⟩)), .it (.int .i64 e2), .it (.agg #[.int .i64 la, .int .i64 e2]), .it (.agg #[.int .i64 e1, .int .i64 e2]), .it (.bool false), .it (.bool false), .it (.bool false), .it undef, .it undef, .it undef, .it undef, .it undef, .it undef, .it undef, .it (.bool false), .it (.bool false)] (by kernel_rfl) (by kernel_rfl) (fun _ => Below.refl _ _) (fun _ _ _ => below_tr) ?_
          refine RX.seqP_value (fun _ => Below.refl _ _) _ (by first | rfl | simp) (fun w' hw' hctx => by (go_simp); (try first | with_reducible rfl | simp)) ?_
          simp only [Act.put, List.setIfInBounds_toArray, List.set_cons_zero, List.set_cons_succ]
          refine RX.seqP_value (fun _ => Below.refl _ _) _ (by first | rfl | simp) (fun w' hw' hctx => by (go_simp); (try first | with_reducible rfl | simp)) ?_
          simp only [Act.put, List.setIfInBounds_toArray, List.set_cons_zero, List.set_cons_succ]
          refine RX.seqP_value (fun _ => Below.refl _ _) _ (by first | rfl | simp) (fun w' hw' hctx => by (go_simp); (try first | with_reducible rfl | simp)) ?_
          simp only [Act.put, List.setIfInBounds_toArray, List.set_cons_zero, List.set_cons_succ]
          refine RX.seqP_call (9) #[.pointer (some ⟨t, 0, none⟩), .int .i64 0] (.agg #[.int .i64 la, .int .i64 0]) (by first | rfl | simp) (fun w' hw' hctx => ?_) (fun w' hw' hctx => duo_now (HD6.out.below (below_tr hdr hw')) HSM.out.1 0 la HLA.out) ?_
          · go_simp
          simp only [Act.put, List.setIfInBounds_toArray, List.set_cons_zero, List.set_cons_succ]
          refine RX.seqP_value (fun _ => Below.refl _ _) _ (by first | rfl | simp) (fun w' hw' hctx => by (go_simp); (try first | with_reducible rfl | simp)) ?_
          simp only [Act.put, List.setIfInBounds_toArray, List.set_cons_zero, List.set_cons_succ]
          refine RX.seqP_value (fun _ => Below.refl _ _) _ (by first | rfl | simp) (fun w' hw' hctx => by (go_simp); (try first | with_reducible rfl | simp)) ?_
          simp only [Act.put, List.setIfInBounds_toArray, List.set_cons_zero, List.set_cons_succ]
          refine RX.seqP_call (20) #[.pointer (some ⟨h, 0, none⟩), .pointer (some ⟨t, 0, none⟩), .agg #[.int .i64 la, .int .i64 0], .int .i64 e3, .int .i64 e4] (.bool true) (by first | rfl | simp) (fun w' hw' hctx => ?_) (fun w' hw' hctx => duo_fresh (HD6.out.below (below_tr hdr hw')) HSM.out.1 HZZ.out la 0 e3 e4 HI.out.1 HI.out.2 true HF0.out) ?_
          · go_simp
          simp only [Act.put, List.setIfInBounds_toArray, List.set_cons_zero, List.set_cons_succ]
          refine RX.seqP_value (fun _ => Below.refl _ _) _ (by first | rfl | simp) (fun w' hw' hctx => by (go_simp); (try first | with_reducible rfl | simp)) ?_
          simp only [Act.put, List.setIfInBounds_toArray, List.set_cons_zero, List.set_cons_succ]
          refine RX.seqP_value (fun _ => Below.refl _ _) _ (by first | rfl | simp) (fun w' hw' hctx => by (go_simp); (try first | with_reducible rfl | simp)) ?_
          simp only [Act.put, List.setIfInBounds_toArray, List.set_cons_zero, List.set_cons_succ]
          refine RX.seqP_value (fun _ => Below.refl _ _) _ (by first | rfl | simp) (fun w' hw' hctx => by (go_simp); (try first | with_reducible rfl | simp)) ?_
          simp only [Act.put, List.setIfInBounds_toArray, List.set_cons_zero, List.set_cons_succ]
          refine RX.seqP_value (fun _ => Below.refl _ _) _ (by first | rfl | simp) (fun w' hw' hctx => by (go_simp); (try first | with_reducible rfl | simp)) ?_
          simp only [Act.put, List.setIfInBounds_toArray, List.set_cons_zero, List.set_cons_succ]
          refine RX.seqP_value (fun _ => Below.refl _ _) _ (by first | rfl | simp) (fun w' hw' hctx => ?_) ?_
          · have v0 := (HV.out.below (below_tr hdr hw')).cell (o := 0) rfl
            have v1 := (HV.out.below (below_tr hdr hw')).cell (o := 1) rfl
            have vl := (HV.out.below (below_tr hdr hw')).lt
            go_simp
            try first | with_reducible rfl | simp
          simp only [Act.put, List.setIfInBounds_toArray, List.set_cons_zero, List.set_cons_succ]
          refine RX.seqP_value (fun _ => Below.refl _ _) _ (by first | rfl | simp) (fun w' hw' hctx => by (go_simp); (try first | with_reducible rfl | simp)) ?_
          simp only [Act.put, List.setIfInBounds_toArray, List.set_cons_zero, List.set_cons_succ]
          refine RX.seqP_value (fun _ => Below.refl _ _) _ (by first | rfl | simp) (fun w' hw' hctx => by (go_simp); (try first | with_reducible rfl | simp)) ?_
          simp only [Act.put, List.setIfInBounds_toArray, List.set_cons_zero, List.set_cons_succ]
          refine RX.seqP_call (21) #[.pointer (some ⟨h, 0, none⟩), .pointer (some ⟨t, 0, none⟩), .agg #[.int .i64 e1, .int .i64 e2], .int .i64 e3, .int .i64 e4] (.bool false) (by first | rfl | simp) (fun w' hw' hctx => ?_) (fun w' hw' hctx => duo_own (HD6.out.below (below_tr hdr hw')) HSM.out.1 HZZ.out e1 e2 e3 e4 HI.out.1 HI.out.2 false HOW.out) ?_
          · go_simp
          simp only [Act.put, List.setIfInBounds_toArray, List.set_cons_zero, List.set_cons_succ]
          refine RX.seqP_value (fun _ => Below.refl _ _) _ (by first | rfl | simp) (fun w' hw' hctx => by (go_simp); (try first | with_reducible rfl | simp)) ?_
          simp only [Act.put, List.setIfInBounds_toArray, List.set_cons_zero, List.set_cons_succ]
          refine RX.seqP_skip (by first | rfl | simp) ?_
          simp only [Act.put, List.setIfInBounds_toArray, List.set_cons_zero, List.set_cons_succ]
          refine RX.seqP_skip (by first | rfl | simp) ?_
          simp only [Act.put, List.setIfInBounds_toArray, List.set_cons_zero, List.set_cons_succ]
          refine RX.seqP_skip (by first | rfl | simp) ?_
          simp only [Act.put, List.setIfInBounds_toArray, List.set_cons_zero, List.set_cons_succ]
          refine RX.seqP_skip (by first | rfl | simp) ?_
          simp only [Act.put, List.setIfInBounds_toArray, List.set_cons_zero, List.set_cons_succ]
          refine RX.seqP_skip (by first | rfl | simp) ?_
          simp only [Act.put, List.setIfInBounds_toArray, List.set_cons_zero, List.set_cons_succ]
          refine RX.seqP_skip (by first | rfl | simp) ?_
          simp only [Act.put, List.setIfInBounds_toArray, List.set_cons_zero, List.set_cons_succ]
          refine RX.seqP_skip (by first | rfl | simp) ?_
          simp only [Act.put, List.setIfInBounds_toArray, List.set_cons_zero, List.set_cons_succ]
          refine RX.seqP_value (fun _ => Below.refl _ _) _ (by first | rfl | simp) (fun w' hw' hctx => by (go_simp); (try first | with_reducible rfl | simp)) ?_
          simp only [Act.put, List.setIfInBounds_toArray, List.set_cons_zero, List.set_cons_succ]
          refine RX.seqP_value (fun _ => Below.refl _ _) _ (by first | rfl | simp) (fun w' hw' hctx => by (go_simp); (try first | with_reducible rfl | simp)) ?_
          simp only [Act.put, List.setIfInBounds_toArray, List.set_cons_zero, List.set_cons_succ]
          refine RX.seqP_value (fun _ => Below.refl _ _) _ (by first | rfl | simp) (fun w' hw' hctx => by (go_simp); (try first | with_reducible rfl | simp)) ?_
          simp only [Act.put, List.setIfInBounds_toArray, List.set_cons_zero, List.set_cons_succ]
          refine RX.seqP_value (fun _ => Below.refl _ _) _ (by first | rfl | simp) (fun w' hw' hctx => by (go_simp); (try first | with_reducible rfl | simp)) ?_
          simp only [Act.put, List.setIfInBounds_toArray, List.set_cons_zero, List.set_cons_succ]
          refine RX.seqP_value (fun _ => Below.refl _ _) _ (by first | rfl | simp) (fun w' hw' hctx => by (go_simp); (try first | with_reducible rfl | simp)) ?_
          simp only [Act.put, List.setIfInBounds_toArray, List.set_cons_zero, List.set_cons_succ]
          refine RX.seqP_value (fun _ => Below.refl _ _) _ (by first | rfl | simp) (fun w' hw' hctx => ?_) ?_
          · have v0 := (HV.out.below (below_tr hdr hw')).cell (o := 0) rfl
            have v1 := (HV.out.below (below_tr hdr hw')).cell (o := 1) rfl
            have vl := (HV.out.below (below_tr hdr hw')).lt
            go_simp
            try first | with_reducible rfl | simp
          simp only [Act.put, List.setIfInBounds_toArray, List.set_cons_zero, List.set_cons_succ]
          refine RX.seqP_value (fun _ => Below.refl _ _) _ (by first | rfl | simp) (fun w' hw' hctx => by (go_simp); (try first | with_reducible rfl | simp)) ?_
          simp only [Act.put, List.setIfInBounds_toArray, List.set_cons_zero, List.set_cons_succ]
          refine RX.seqP_value (fun _ => Below.refl _ _) _ (by first | rfl | simp) (fun w' hw' hctx => by (go_simp); (try first | with_reducible rfl | simp)) ?_
          simp only [Act.put, List.setIfInBounds_toArray, List.set_cons_zero, List.set_cons_succ]
          refine RX.seqP_call (21) #[.pointer (some ⟨h, 0, none⟩), .pointer (some ⟨t, 0, none⟩), .agg #[.int .i64 e1, .int .i64 e2], .int .i64 e3, .int .i64 e4] (.bool false) (by first | rfl | simp) (fun w' hw' hctx => ?_) (fun w' hw' hctx => duo_own (HD6.out.below (below_tr hdr hw')) HSM.out.1 HZZ.out e1 e2 e3 e4 HI.out.1 HI.out.2 false HOW.out) ?_
          · go_simp
          simp only [Act.put, List.setIfInBounds_toArray, List.set_cons_zero, List.set_cons_succ]
          refine RX.seqP_value (fun _ => Below.refl _ _) _ (by first | rfl | simp) (fun w' hw' hctx => by (go_simp); (try first | with_reducible rfl | simp)) ?_
          simp only [Act.put, List.setIfInBounds_toArray, List.set_cons_zero, List.set_cons_succ]
          refine RX.seqP_value (fun _ => Below.refl _ _) _ (by first | rfl | simp) (fun w' hw' hctx => by (go_simp); (try first | with_reducible rfl | simp)) ?_
          simp only [Act.put, List.setIfInBounds_toArray, List.set_cons_zero, List.set_cons_succ]
          refine RX.seqP_value (fun _ => Below.refl _ _) _ (by first | rfl | simp) (fun w' hw' hctx => by (go_simp); (try first | with_reducible rfl | simp)) ?_
          simp only [Act.put, List.setIfInBounds_toArray, List.set_cons_zero, List.set_cons_succ]
          refine RX.seqP_value (fun _ => Below.refl _ _) _ (by first | rfl | simp) (fun w' hw' hctx => by (go_simp); (try first | with_reducible rfl | simp)) ?_
          simp only [Act.put, List.setIfInBounds_toArray, List.set_cons_zero, List.set_cons_succ]
          refine RX.seqP_call (9) #[.pointer (some ⟨t, 0, none⟩), .int .i64 e2] (.agg #[.int .i64 la, .int .i64 e2]) (by first | rfl | simp) (fun w' hw' hctx => ?_) (fun w' hw' hctx => duo_now (HD6.out.below (below_tr hdr hw')) HSM.out.1 e2 la HLA.out) ?_
          · go_simp
          simp only [Act.put, List.setIfInBounds_toArray, List.set_cons_zero, List.set_cons_succ]
          refine RX.seqP_value (fun _ => Below.refl _ _) _ (by first | rfl | simp) (fun w' hw' hctx => ?_) ?_
          · have v0 := (HV.out.below (below_tr hdr hw')).cell (o := 0) rfl
            have v1 := (HV.out.below (below_tr hdr hw')).cell (o := 1) rfl
            have vl := (HV.out.below (below_tr hdr hw')).lt
            go_simp
            try first | with_reducible rfl | simp
          simp only [Act.put, List.setIfInBounds_toArray, List.set_cons_zero, List.set_cons_succ]
          refine RX.seqP_value (fun _ => Below.refl _ _) _ (by first | rfl | simp) (fun w' hw' hctx => ?_) ?_
          · have hq := HQ.out
            go_simp
            try first | with_reducible rfl | simp
          simp only [Act.put, List.setIfInBounds_toArray, List.set_cons_zero, List.set_cons_succ]
          refine RX.seqP_value (fun _ => Below.refl _ _) _ (by first | rfl | simp) (fun w' hw' hctx => by (go_simp); (try first | with_reducible rfl | simp)) ?_
          simp only [Act.put, List.setIfInBounds_toArray, List.set_cons_zero, List.set_cons_succ]
          refine RX.seqP_value (fun _ => Below.refl _ _) _ (by first | rfl | simp) (fun w' hw' hctx => by (go_simp); (try first | with_reducible rfl | simp)) ?_
          simp only [Act.put, List.setIfInBounds_toArray, List.set_cons_zero, List.set_cons_succ]
          refine RX.seqP_skip (by first | rfl | simp) ?_
          simp only [Act.put, List.setIfInBounds_toArray, List.set_cons_zero, List.set_cons_succ]
          refine RX.seqP_skip (by first | rfl | simp) ?_
          simp only [Act.put, List.setIfInBounds_toArray, List.set_cons_zero, List.set_cons_succ]
          refine RX.seqP_skip (by first | rfl | simp) ?_
          simp only [Act.put, List.setIfInBounds_toArray, List.set_cons_zero, List.set_cons_succ]
          refine RX.seqP_skip (by first | rfl | simp) ?_
          simp only [Act.put, List.setIfInBounds_toArray, List.set_cons_zero, List.set_cons_succ]
          refine RX.seqP_skip (by first | rfl | simp) ?_
          simp only [Act.put, List.setIfInBounds_toArray, List.set_cons_zero, List.set_cons_succ]
          refine RX.seqP_skip (by first | rfl | simp) ?_
          simp only [Act.put, List.setIfInBounds_toArray, List.set_cons_zero, List.set_cons_succ]
          refine RX.seqP_skip (by first | rfl | simp) ?_
          simp only [Act.put, List.setIfInBounds_toArray, List.set_cons_zero, List.set_cons_succ]
          refine RX.seqP_value (fun _ => Below.refl _ _) _ (by first | rfl | simp) (fun w' hw' hctx => by (go_simp); (try first | with_reducible rfl | simp)) ?_
          simp only [Act.put, List.setIfInBounds_toArray, List.set_cons_zero, List.set_cons_succ]
          refine RX.seqP_value (fun _ => Below.refl _ _) _ (by first | rfl | simp) (fun w' hw' hctx => by (go_simp); (try first | with_reducible rfl | simp)) ?_
          simp only [Act.put, List.setIfInBounds_toArray, List.set_cons_zero, List.set_cons_succ]
          refine RX.seqP_nil (fun w7 hR hctx _ => ?_)
          have hb7 := below_tr hdr hR
          clear hctx hR
          have HD7 := Lib.hid (HD6.out.below hb7)
          have HV7 := Lib.hid (HV.out.below hb7)
          clear hb7 hdr HD6 HV
          have v0 := HV7.out.cell (o := 0) rfl
          have v1 := HV7.out.cell (o := 1) rfl
          have vl := HV7.out.lt
          have hcon := duo_seen HD7.out HSM.out.1 HZZ.out e1 e2 e3 e4 HI.out.1 HI.out.2 sb sv HSB.out HSV.out
          have HCON := Lib.hid hcon
          clear hcon
          go_wp2_with fail
          refine HCON.out.mono ?_
          rintro e w8 ⟨rfl, hb8⟩
          have HD8 := Lib.hid (HD7.out.below hb8)
          have HV8 := Lib.hid (HV7.out.below hb8)
          clear hb8 HD7 HV7 HCON v0 v1 vl
          have hcon := duo_newest HD8.out HSM.out.1 HZZ.out e3 e4 HI.out.1 HI.out.2 nb nv HNB.out HNV.out
          have HCON := Lib.hid hcon
          clear hcon
          go_wp2_with fail
          refine HCON.out.mono ?_
          rintro e w9 ⟨rfl, hb9⟩
          have HD9 := Lib.hid (HD8.out.below hb9)
          have HV9 := Lib.hid (HV8.out.below hb9)
          clear hb9 HD8 HV8 HCON
          have v0 := HV9.out.cell (o := 0) rfl
          have v1 := HV9.out.cell (o := 1) rfl
          have vl := HV9.out.lt
          have hcon := duo_own HD9.out HSM.out.1 HZZ.out e1 e2 e3 e4 HI.out.1 HI.out.2 false HOW.out
          have HCON := Lib.hid hcon
          clear hcon
          go_wp2_with fail
          refine HCON.out.mono ?_
          rintro e w10 ⟨rfl, hb10⟩
          have HD10 := Lib.hid (HD9.out.below hb10)
          have HV10 := Lib.hid (HV9.out.below hb10)
          clear hb10 HD9 HV9 HCON v0 v1 vl
          have v0 := HV10.out.cell (o := 0) rfl
          have v1 := HV10.out.cell (o := 1) rfl
          have vl := HV10.out.lt
          obtain ⟨fv, hfv⟩ : ∃ b, freshB T A e1 e2 e3 e4 = b := ⟨_, rfl⟩
          have hfe : fv = (decide (sb = nb) && decide (sv = nv)) := by
            rw [← hfv]
            unfold freshB
            rw [HOW.out, HSB.out, HSV.out, HNB.out, HNV.out, Bool.false_or]
          have hcon := duo_fresh HD10.out HSM.out.1 HZZ.out e1 e2 e3 e4 HI.out.1 HI.out.2 fv hfv
          have HCON := Lib.hid hcon
          have HFE := Lib.hid hfe
          clear hcon hfv hfe
          go_wp2_with fail
          refine HCON.out.mono ?_
          rintro e w11 ⟨rfl, hb11⟩
          have HB11 := Lib.hid (HD10.out.below hb11).bel
          clear hb11 HCON v0 v1 vl HD10 HV10
          by_cases hv : sv = nv
          · have hv1 : (sv == nv) = true := by simpa using hv
            by_cases hbn : sb = nb
            · have hb1 : (sb == nb) = true := by simpa using hbn
              have hf : fv = true := by rw [HFE.out, decide_eq_true hbn, decide_eq_true hv]; rfl
              subst hf
              clear hv hbn
              go_wp2_with fail
              go_ret
              exact ⟨rfl, HB11.out⟩
            · have hb1 : (sb == nb) = false := by simpa using hbn
              have hf : fv = false := by rw [HFE.out, decide_eq_false hbn]; rfl
              subst hf
              clear hv hbn
              go_wp2_with fail
              go_ret
              exact ⟨rfl, HB11.out⟩
          · have hv1 : (sv == nv) = false := by simpa using hv
            have hf : fv = false := by rw [HFE.out, decide_eq_false hv, Bool.and_false]
            subst hf
            clear hv
            go_wp2_with fail
            go_ret
            exact ⟨rfl, HB11.out⟩

set_option maxRecDepth 100000 in
set_option maxHeartbeats 8000000 in
theorem fresh_law (a0 : Option Addr) (c0 n0 : Nat) (l0 : List Stq) (hn0 : l0.length = n0) (e1 e2 e3 e4 : Int) (i1 : I64 e1) (i2 : I64 e2) (i3 : I64 e3) (i4 : I64 e4) (w : World) (hs0 : SlQ w a0 c0 l0) :
    Calls Try.prog 5 #[.slice a0 n0 c0, .int .i64 e1, .int .i64 e2, .int .i64 e3, .int .i64 e4] w fun e w' => e = .returned (.bool true) ∧ Below w.heap.size w w' := by
  have HS := Lib.hid hs0
  have HN := Lib.hid hn0
  have hmx : n0 ≤ maxLen := by rw [← hn0]; exact Nat.le_trans hs0.lc hs0.cm
  by_cases hz : n0 ≤ 120
  · exact fresh_main a0 c0 n0 l0 hn0 e1 e2 e3 e4 i1 i2 i3 i4 w hs0 hz
  · exact fresh_large a0 c0 n0 l0 hn0 e1 e2 e3 e4 i1 i2 i3 i4 w hs0 (by omega)

end Go.Proofs.Ytbgnbaogclnpgaa
