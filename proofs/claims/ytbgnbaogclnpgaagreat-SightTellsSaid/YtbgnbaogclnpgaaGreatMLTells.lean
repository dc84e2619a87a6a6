/-
  The law SightTells, walked.
-/
import Derived.Test.YtbgnbaogclnpgaaGreatMQuad
import Derived.Test.YtbgnbaogclnpgaaGreatMAwake
import Derived.Test.YtbgnbaogclnpgaaGreatMLift
import Derived.Carry
namespace Go.Proofs.YtbgnbaogclnpgaaGreat
open Go.RowKit
set_option linter.unusedVariables false

set_option maxRecDepth 100000 in
set_option maxHeartbeats 8000000 in
theorem long_is (w : World) (a : Option Addr) (n c : Nat) (b : Bool) (hb : decide (120 < n) = b) (hn : n ≤ maxLen) : Calls Tryz.prog 4 #[.slice a n c] w fun e w' => e = .returned (.bool b) ∧ Below w.heap.size w w' := by
  have hbz : decide ((120 : Int) < (n : Int)) = b := by rw [← hb]; by_cases h : 120 < n <;> simp [h] <;> omega
  go_enter Tryz.func4, Tryz.ntmps4
  go_wp2_with fail
  go_ret
  exact ⟨by first | rfl | rw [hbz], Below.refl _ _⟩

theorem qd_new {w w3 w4 w5 : World} {h t g y : Nat} {Fx : Nat → Prop} {gl : List Gvn} {R : Nat → Prop} (hd : Duo (fun _ => False) w w3 h Ab.new 0 t Tb.new) (hg : g = w3.heap.size) (r1 : Rf w4 g Ab.new 0 (fun k => k = g) (.slice none 0 0) (.slice none 0 0) gl R) (hb4 : Below w3.heap.size w3 w4) (r2 : IsR w5 y Tb.new Fx) (hfx : ∀ k, Fx k → w4.heap.size ≤ k) (hb5 : Below w4.heap.size w4 w5) : Qd w w5 h Ab.new 0 t Tb.new g Ab.new 0 y Tb.new := by
  have hs := hd.bel.size
  have h4 := hb4.size
  have hlt := r1.lt g rfl
  refine ⟨_, Fx, _, _, gl, R, hd.apart (below_tr hb4 hb5) (fun k hk => .inr ?_), r1.below hb5, r2, fun k hk => ?_, fun k hk => by have := hfx k hk; omega⟩
  · rcases hk with hk | hk
    · have h1 : k = g := hk
      have := hb5.size
      omega
    · exact ⟨by have := hfx k hk; omega, r2.lt k hk⟩
  · have h1 : k = g := hk
    exact ⟨by omega, fun hf => by have := hfx k hf; omega⟩
theorem duo_ids {X : Nat → Prop} {w0 w : World} {h z t : Nat} {A : Ab} {T : Tb} (H : Duo X w0 w h A z t T) (hn : T.n ≤ 1000) (hz : z ≤ 90000) (a m x : Int) (hx : I64 x) : Calls Tryz.prog 22 #[.pointer (some ⟨h, 0, none⟩), .pointer (some ⟨t, 0, none⟩), .agg #[.int .i64 a, .int .i64 m], .int .i64 x] w fun e w' => ∃ s l, e = .returned s ∧ A.IsIDs x l ∧ RowI w' s (l.filter fun y => seenB T A a m x y) ∧ (∀ k, s.ownBlock = some k → w.heap.size ≤ k) ∧ Below w.heap.size w w' := by
  obtain ⟨F, h1⟩ := H.std
  exact vids_is w h z A F _ T a m x hx hz h1 (H.tv (by omega))
theorem duo_ids2 {X : Nat → Prop} {w0 w : World} {h z t : Nat} {A : Ab} {T : Tb} (H : Duo X w0 w h A z t T) (hn : T.n ≤ 1000) (hz : z ≤ 90000) (a m x : Int) (hx : I64 x) {li fl : List Int} (hl : A.IsIDs x li) (hf : (li.filter fun y => seenB T A a m x y) = fl) : Calls Tryz.prog 22 #[.pointer (some ⟨h, 0, none⟩), .pointer (some ⟨t, 0, none⟩), .agg #[.int .i64 a, .int .i64 m], .int .i64 x] w fun e w' => ∃ v, e = .returned v ∧ Below w.heap.size w w' ∧ RowI w' v fl := by
  refine (duo_ids H hn hz a m x hx).mono ?_
  rintro e w' ⟨s, l, rfl, h1, h2, -, h4⟩
  rw [h1.eq hl, hf] at h2
  exact ⟨s, rfl, h4, h2⟩
theorem rd_ids2 {w : World} {g y : Nat} {A : Ab} {T : Tb} (H : Rd w g A y T) (a m x : Int) {li fl : List Int} (hl : A.IsIDs x li) (hf : (li.filter fun y => seenB T A a m x y) = fl) : Calls Tryz.prog 24 #[.pointer (some ⟨g, 0, none⟩), .pointer (some ⟨y, 0, none⟩), .agg #[.int .i64 a, .int .i64 m], .int .i64 x] w fun e w' => ∃ v, e = .returned v ∧ Below w.heap.size w w' ∧ RowI w' v fl := by
  refine (rvids_is w g y A T a m x H).mono ?_
  rintro e w' ⟨s, l, rfl, h1, h2, h4⟩
  rw [h1.eq hl, hf] at h2
  exact ⟨s, rfl, h4, h2⟩

set_option maxRecDepth 100000 in
set_option maxHeartbeats 8000000 in
theorem tells_large (a0 : Option Addr) (c0 n0 : Nat) (l0 : List Stq) (hn0 : l0.length = n0) (e1 e2 e3 e4 e5 : Int) (i1 : I64 e1) (i2 : I64 e2) (i3 : I64 e3) (i4 : I64 e4) (i5 : I64 e5) (w : World) (hs0 : SlQ w a0 c0 l0) (hz : 120 < n0) :
    Calls Tryz.prog 3 #[.slice a0 n0 c0, .int .i64 e1, .int .i64 e2, .int .i64 e3, .int .i64 e4, .int .i64 e5] w fun e w' => e = .returned (.bool true) ∧ Below w.heap.size w w' := by
  have HS := Lib.hid hs0
  have HN := Lib.hid hn0
  have hmx : n0 ≤ maxLen := by rw [← hn0]; exact Nat.le_trans hs0.lc hs0.cm
  clear hs0 hn0
  go_enter Tryz.func3, Tryz.ntmps3
  have hcon := long_is w a0 n0 c0 true (by simp; omega) hmx
  go_wp2_with fail
  refine (show Calls Tryz.prog _ _ _ _ from hcon).mono ?_
  rintro e w1b ⟨rfl, hb⟩
  have HB1 := Lib.hid hb
  clear hcon hb
  have hcon := awake_is w1b
  go_wp2_with fail
  refine (show Calls Tryz.prog _ _ _ _ from hcon).mono ?_
  rintro e wz ⟨rfl, hb⟩
  have HBZ := Lib.hid (below_tr HB1.out hb)
  clear hcon hb
  go_wp2_with fail
  go_ret
  exact ⟨rfl, HBZ.out⟩

set_option maxRecDepth 100000 in
set_option maxHeartbeats 8000000 in
theorem tells_law (a0 : Option Addr) (c0 n0 : Nat) (l0 : List Stq) (hn0 : l0.length = n0) (e1 e2 e3 e4 e5 : Int) (i1 : I64 e1) (i2 : I64 e2) (i3 : I64 e3) (i4 : I64 e4) (i5 : I64 e5) (w : World) (hs0 : SlQ w a0 c0 l0) (hz : n0 ≤ 120) :
    Calls Tryz.prog 3 #[.slice a0 n0 c0, .int .i64 e1, .int .i64 e2, .int .i64 e3, .int .i64 e4, .int .i64 e5] w fun e w' => e = .returned (.bool true) ∧ Below w.heap.size w w' := by
  have HS := Lib.hid hs0
  have HN := Lib.hid hn0
  have hmx : n0 ≤ maxLen := by rw [← hn0]; exact Nat.le_trans hs0.lc hs0.cm
  have HZ := Lib.hid hz
  have HI := Lib.hid (And.intro i3 (And.intro i4 i5))
  clear hs0 hn0 i3 i4 i5
  have mixed : Tryz.prog.follows Departure.mixedOrders = true := by kernel_rfl
  go_enter Tryz.func3, Tryz.ntmps3
  have hcon := long_is w a0 n0 c0 false (by simp; omega) hmx
  go_wp2_with fail
  refine (show Calls Tryz.prog _ _ _ _ from hcon).mono ?_
  rintro e w1b ⟨rfl, hb⟩
  have HB1 := Lib.hid hb
  clear hcon hb
  have hcon := heap_new (w0 := w) (fun _ => False) HB1.out (fun _ h => h.elim)
  go_wp2_with fail
  refine (show Calls Tryz.prog _ _ _ _ from hcon).mono ?_
  rintro e w2 ⟨h, rfl, Fh, h1, h2, h3, hb1⟩
  have HH := Lib.hid (And.intro h1 (And.intro h2 (And.intro h3 (below_tr HB1.out hb1))))
  clear hcon h1 h2 h3 hb1
  have hcon := duo_new (w0 := w) (fun _ => False) HH.out.1 HH.out.2.1 HH.out.2.2.1 HH.out.2.2.2 (fun _ h => h.elim)
  go_wp2_with fail
  refine (show Calls Tryz.prog _ _ _ _ from hcon).mono ?_
  rintro e w3 ⟨t, rfl, hd, -⟩
  have HD0 := Lib.hid hd
  clear hcon hd HH HB1
  have hcon := rnew_is w3
  go_wp2_with fail
  refine (show Calls Tryz.prog _ _ _ _ from hcon).mono ?_
  rintro e w4 ⟨rfl, ⟨gl, R, hr4⟩, hb4⟩
  obtain ⟨g, hg⟩ : ∃ g, w3.heap.size = g := ⟨_, rfl⟩
  rw [hg] at hr4
  simp only [hg]
  have HR4 := Lib.hid hr4
  have HB4 := Lib.hid hb4
  have HG := Lib.hid hg.symm
  clear hcon hr4 hb4 hg
  have hcon := newR_is w4
  go_wp2_with fail
  refine (show Calls Tryz.prog _ _ _ _ from hcon).mono ?_
  rintro e w5 ⟨y, Fx, rfl, hr5, hfx, hb5⟩
  have HQ0 := Lib.hid (qd_new HD0.out HG.out HR4.out HB4.out hr5 hfx hb5)
  clear hcon hr5 hfx hb5 HD0 HG HR4 HB4
  go_wp2_with fail
  go_loopg [17] n0 (fun gg sx wr => ∃ i : Nat, sx = .int .i64 i ∧ i ≤ n0 ∧ n0 - i ≤ gg ∧ Hid (Qd w wr h (Ab.new.sts (l0.take i)) (3 * i) t (Tb.new.sts (l0.take i)) g (Ab.new.sts (l0.take i)) i y (Tb.new.sts (l0.take i))))
  case atStart => exact ⟨0, rfl, Nat.zero_le _, by omega, HQ0⟩
  case round =>
    obtain ⟨i, rfl, hin, hgg, HQ⟩ := hrel
    clear HQ0
    have hsm := sts_small (i := i) (C := 120) HN.out (by have := HZ.out; omega)
    by_cases hlt : i < n0
    · have hltz : (i : Int) < (n0 : Int) := by omega
      have z1 : ¬ n0 ≤ i := by omega
      obtain ⟨st, sb, so, hst, hwf, rfl, sl, q0, q1, q2, q3, q4⟩ := stq_at HS.out (Below.refl _ _) HN.out hlt
      have HCE := Lib.hid (And.intro sl (And.intro q0 (And.intro q1 (And.intro q2 (And.intro q3 q4)))))
      have hce : ∀ W, Below w.heap.size w W → sb < W.heap.size ∧ W.cell? ⟨sb, so + i * 5, none⟩ = some (.int .u8 st.kind) ∧ W.cell? ⟨sb, so + i * 5 + 1, none⟩ = some (.int .i64 st.id) ∧ W.cell? ⟨sb, so + i * 5 + 2, none⟩ = some (.int .i64 st.no) ∧ W.cell? ⟨sb, so + i * 5 + 3, none⟩ = some (.int .i64 st.row) ∧ W.cell? ⟨sb, so + i * 5 + 4, none⟩ = some (.int .i64 st.slot) := fun W hb => by
        obtain ⟨sl, q0, q1, q2, q3, q4⟩ := HCE.out
        exact ⟨Nat.lt_of_lt_of_le sl hb.size, (hb.cell (p := ⟨sb, so + i * 5, none⟩) sl).trans q0, (hb.cell (p := ⟨sb, so + i * 5 + 1, none⟩) sl).trans q1, (hb.cell (p := ⟨sb, so + i * 5 + 2, none⟩) sl).trans q2, (hb.cell (p := ⟨sb, so + i * 5 + 3, none⟩) sl).trans q3, (hb.cell (p := ⟨sb, so + i * 5 + 4, none⟩) sl).trans q4⟩
      have HCA := Lib.hid hce
      clear hce sl q0 q1 q2 q3 q4 HCE
      have hrun := sts_take (A := Ab.new) (T := Tb.new) hst
      have HRUN := Lib.hid hrun
      have HWF := Lib.hid hwf
      have HSM := Lib.hid hsm
      obtain ⟨A, hA⟩ : ∃ A, Ab.new.sts (l0.take i) = A := ⟨_, rfl⟩
      obtain ⟨T, hT⟩ : ∃ T, Tb.new.sts (l0.take i) = T := ⟨_, rfl⟩
      rw [hA, hT] at HQ HRUN
      rw [hT] at HSM
      have HZI : Hid (i ≤ 120) := Lib.hid (by have := HZ.out; omega)
      obtain ⟨sl, q0, q1, q2, q3, q4⟩ := HCA.out _ HQ.out.bel
      have HOK := Lib.hid HQ.out.duo.oks
      have HQE := Lib.hid HQ.out
      obtain ⟨F, Fx', ls, gs, gl', R', u1, u2, u3, u4, u5⟩ := HQ.out
      have hcon := step_is u1 (by have := HSM.out.1; omega) (by have := HSM.out.2; omega) (by have := HZI.out; omega) st HWF.out
      have HCON := Lib.hid hcon
      have HU := Lib.hid (And.intro u2 (And.intro u3 (And.intro u4 u5)))
      clear hrun hst hsm hcon hwf hA hT u1 u2 u3 u4 u5 HQ HQE
      go_wp2_with fail
      refine HCON.out.mono ?_
      rintro e w6 ⟨rfl, hd, hst⟩
      have HQ6 : Hid (Qd w w6 h (A.stA st) (3 * i + 3) t (T.stT st) g A i y T) := Lib.hid (by
        obtain ⟨u2, u3, u4, u5⟩ := HU.out
        exact ⟨F, Fx', ls, gs, gl', R', hd, u2.stay ⟨hst.size, fun k hl hk => hst.block k hl (.inl hk)⟩, u3.stay ⟨hst.size, fun k hl hk => hst.block k hl (.inr hk)⟩, u4, u5⟩)
      clear hd hst HCON HU sl q0 q1 q2 q3 q4
      obtain ⟨sl, q0, q1, q2, q3, q4⟩ := HCA.out _ HQ6.out.bel
      have hcon := told_is HQ6.out HOK.out.2.2 (by have := HSM.out.1; omega) (by have := HSM.out.2; omega) HOK.out.1 (by have := HOK.out.2.1; have := HZI.out; omega) (by have := HZI.out; omega) st HWF.out
      have HCON := Lib.hid hcon
      clear hcon HQ6
      go_wp2_with fail
      refine HCON.out.mono ?_
      rintro e w7 ⟨rfl, hq⟩
      rw [← HRUN.out.1, ← HRUN.out.2] at hq
      have HQ7 := Lib.hid (hq.more (show 3 * i + 3 ≤ 3 * (i + 1) by omega) (Nat.le_refl _))
      clear HCON hq sl q0 q1 q2 q3 q4
      go_wp2_with fail
      go_roundg (n0 - (i + 1))
      case measure => omega
      case rel => exact ⟨i + 1, by go_num, by omega, Nat.le_refl _, HQ7⟩
    · have hltz : ¬ (i : Int) < (n0 : Int) := by omega
      obtain rfl : n0 = i := by omega
      have hfull : l0.take n0 = l0 := List.take_of_length_le (by rw [HN.out]; exact Nat.le_refl _)
      rw [hfull] at HQ hsm
      clear hfull
      obtain ⟨A, hA⟩ : ∃ A, Ab.new.sts l0 = A := ⟨_, rfl⟩
      obtain ⟨T, hT⟩ : ∃ T, Tb.new.sts l0 = T := ⟨_, rfl⟩
      obtain ⟨z, hz⟩ : ∃ z, 3 * n0 = z := ⟨_, rfl⟩
      rw [hA, hT, hz] at HQ
      rw [hT] at hsm
      have HSM : Hid (T.n ≤ 1000 ∧ z ≤ 50000) := Lib.hid ⟨by have := hsm.1; omega, by have := HZ.out; omega⟩
      clear hsm hA hT hz hlt hgg hin
      go_upto_region 11 with (fail)
      obtain ⟨gv, hgv⟩ : ∃ g, wr.heap.size = g := ⟨_, rfl⟩
      obtain ⟨W6, hW6⟩ : ∃ W6, (wr.alloc (.cells #[.int .i64 e1, .int .i64 e2] 38)).alloc (.cells #[.int .i64 e1, .int .i64 e2] 39) = W6 := ⟨_, rfl⟩
      have hsz : (wr.alloc (.cells #[.int .i64 e1, .int .i64 e2] 38)).heap.size = gv + 1 := by simp [hgv]
      have hv6 : Lit W6 gv 38 [.int .i64 e1, .int .i64 e2] := by
        have h1 := Lit.new wr 38 [.int .i64 e1, .int .i64 e2]
        rw [hgv] at h1
        rw [← hW6]
        exact Lit.below h1 (Below.allocs _ _)
      have hr6 : Lit W6 (gv + 1) 39 [.int .i64 e1, .int .i64 e2] := by
        have h1 := Lit.new (wr.alloc (.cells #[.int .i64 e1, .int .i64 e2] 38)) 39 [.int .i64 e1, .int .i64 e2]
        rw [hsz] at h1
        rw [← hW6]
        exact h1
      have hb6 : Below wr.heap.size wr W6 := by rw [← hW6]; exact below_tr (Below.allocs _ _) (Below.allocs _ _)
      rw [show (wr.alloc (.cells #[.int .i64 e1, .int .i64 e2] 38)).alloc (.cells #[.int .i64 e1, .int .i64 e2] 39) = W6 from hW6, hgv]
      have HV := Lib.hid hv6
      have HR := Lib.hid hr6
      have HQ6 := Lib.hid (HQ.out.below hb6)
      clear hv6 hr6 hb6 hsz hW6 hgv HQ
      obtain ⟨sb, hsb⟩ : ∃ b, seenB T A e1 e2 e3 e4 = b := ⟨_, rfl⟩
      obtain ⟨sv, hsv⟩ : ∃ b, seenV T A e1 e2 e3 e4 = b := ⟨_, rfl⟩
      obtain ⟨nb, hnb⟩ : ∃ b, seenB T A T.last 0 e3 e4 = b := ⟨_, rfl⟩
      obtain ⟨nv, hnv⟩ : ∃ b, seenV T A T.last 0 e3 e4 = b := ⟨_, rfl⟩
      obtain ⟨ow, how⟩ : ∃ b, ownR T e2 (A.vs e3 e4) = b := ⟨_, rfl⟩
      obtain ⟨fr, hfr⟩ : ∃ b, freshB T A e1 e2 e3 e4 = b := ⟨_, rfl⟩
      obtain ⟨dd, hdd⟩ : ∃ b, deadB T A e1 e5 = b := ⟨_, rfl⟩
      have HSB := Lib.hid hsb
      have HSV := Lib.hid hsv
      have HNB := Lib.hid hnb
      have HNV := Lib.hid hnv
      have HOW := Lib.hid how
      have HFR := Lib.hid hfr
      have HDD := Lib.hid hdd
      have HZZ : Hid (z ≤ 90000) := Lib.hid (by have := HSM.out.2; omega)
      clear hsb hsv hnb hnv how hfr hdd
      have HB6 := Lib.hid (Below.refl W6.heap.size W6)
      have HDU : Hid (∀ W, Below W6.heap.size W6 W → Duo (fun _ => False) w W h A z t T) := Lib.hid (fun W hb => (HQ6.out.below hb).duo)
      have HRD : Hid (∀ W, Below W6.heap.size W6 W → Rd W g A y T) := Lib.hid (fun W hb => (HQ6.out.below hb).rd HSM.out.2 HSM.out.1)
      have HBW : Hid (Below w.heap.size w W6) := Lib.hid HQ6.out.bel
      have v0 := (HV.out.below HB6.out).cell (o := 0) rfl
      have v1 := (HV.out.below HB6.out).cell (o := 1) rfl
      have vl := (HV.out.below HB6.out).lt
      have HCON := Lib.hid (duo_seen (HDU.out _ HB6.out) HSM.out.1 HZZ.out e1 e2 e3 e4 HI.out.1 HI.out.2.1 sb sv HSB.out HSV.out)
      go_wp2_with fail
      refine (show Calls Tryz.prog _ _ _ _ from HCON.out).mono ?_
      rintro e w7 ⟨rfl, hb⟩
      have HB7 := Lib.hid (below_tr HB6.out hb)
      clear HCON hb v0 v1 vl
      have v0 := (HR.out.below HB7.out).cell (o := 0) rfl
      have v1 := (HR.out.below HB7.out).cell (o := 1) rfl
      have vl := (HR.out.below HB7.out).lt
      have HCON := Lib.hid (rvseen_is _ g y A T e1 e2 e3 e4 (HRD.out _ HB7.out) sb sv HSB.out HSV.out)
      go_wp2_with fail
      refine (show Calls Tryz.prog _ _ _ _ from HCON.out).mono ?_
      rintro e w8 ⟨rfl, hb⟩
      have HB8 := Lib.hid (below_tr HB7.out hb)
      clear HCON hb v0 v1 vl
      have HCON := Lib.hid (duo_newest (HDU.out _ HB8.out) HSM.out.1 HZZ.out e3 e4 HI.out.1 HI.out.2.1 nb nv HNB.out HNV.out)
      go_wp2_with fail
      refine (show Calls Tryz.prog _ _ _ _ from HCON.out).mono ?_
      rintro e w9 ⟨rfl, hb⟩
      have HB9 := Lib.hid (below_tr HB8.out hb)
      clear HCON hb 
      have HCON := Lib.hid (rvnewest_is _ g y A T e3 e4 (HRD.out _ HB9.out) nb nv HNB.out HNV.out)
      go_wp2_with fail
      refine (show Calls Tryz.prog _ _ _ _ from HCON.out).mono ?_
      rintro e w10 ⟨rfl, hb⟩
      have HB10 := Lib.hid (below_tr HB9.out hb)
      clear HCON hb 
      go_upto_region 15 with (fail)
      have hdr := below_drw w10
      try simp only [List.append_eq, List.cons_append, List.nil_append]
      refine RX.wp_region_plan (fun w w' => Below w.heap.size w w') [.it (.int .i64 sv), .it (.int .i64 sv), .it (.bool false), .it (.bool false), .it (.bool sb), .it (.bool sb), .it (.bool false), .it (.bool false), .it (.bool false), .it (.int .i64 nv), .it (.int .i64 nv), .it (.bool false), .it (.bool false), .it (.bool false), .it (.bool nb), .it (.bool nb), .it (.bool false), .it (.bool false), .it (.bool false), .it (.pointer (some ⟨h, 0, none⟩)), .it (.pointer (some ⟨t, 0, none⟩)), .it (.agg #[.int .i64 e1, .int .i64 e2]), .it (.int .i64 e3), .it (.int .i64 e4), .it (.bool ow), .it (.pointer (some ⟨g, 0, none⟩)), .it (.pointer (some ⟨y, 0, none⟩)), .it (.agg #[.int .i64 e1, .int .i64 e2]), .it (.int .i64 e3), .it (.int .i64 e4), .it (.bool ow), .it (.bool false), .it (.bool false), .it (.bool false), .it (.pointer (some ⟨h, 0, none⟩)), .it (.pointer (some ⟨t, 0, none⟩)), .it (.agg #[.int .i64 e1, .int .i64 e2]), .it (.int .i64 e3), .it (.int .i64 e4), .it (.bool fr), .it (.pointer (some ⟨g, 0, none⟩)), .it (.pointer (some ⟨y, 0, none⟩)), .it (.agg #[.int .i64 e1, .int .i64 e2]), .it (.int .i64 e3), .it (.int .i64 e4), .it (.bool fr), .it (.bool false), .it (.bool false), .it (.bool false), .it (.pointer (some ⟨h, 0, none⟩)), .it (.pointer (some ⟨t, 0, none⟩)), .it (.int .i64 e1), .it (.int .i64 e5), .it (.bool dd), .it (.pointer (some ⟨g, 0, none⟩)), .it (.pointer (some ⟨y, 0, none⟩)), .it (.int .i64 e1), .it (.int .i64 e5), .it (.bool dd), .it (.bool false), .it (.bool false)] (by kernel_rfl) (by kernel_rfl) (fun _ => Below.refl _ _) (fun _ _ _ => below_tr) ?_
      refine RX.seqP_value (fun _ => Below.refl _ _) _ (by first | rfl | simp) (fun w' hw' hctx => by (go_simp); (try first | with_reducible rfl | simp)) ?_
      simp only [Act.put, List.setIfInBounds_toArray, List.set_cons_zero, List.set_cons_succ]
      refine RX.seqP_value (fun _ => Below.refl _ _) _ (by first | rfl | simp) (fun w' hw' hctx => by (go_simp); (try first | with_reducible rfl | simp)) ?_
      simp only [Act.put, List.setIfInBounds_toArray, List.set_cons_zero, List.set_cons_succ]
      refine RX.seqP_value (fun _ => Below.refl _ _) _ (by first | rfl | simp) (fun w' hw' hctx => by (go_simp); (try first | with_reducible rfl | simp)) ?_
      simp only [Act.put, List.setIfInBounds_toArray, List.set_cons_zero, List.set_cons_succ]
      refine RX.seqP_value (fun _ => Below.refl _ _) _ (by first | rfl | simp) (fun w' hw' hctx => by (go_simp); (try first | with_reducible rfl | simp)) ?_
      simp only [Act.put, List.setIfInBounds_toArray, List.set_cons_zero, List.set_cons_succ]
      refine RX.seqP_value (fun _ => Below.refl _ _) _ (by first | rfl | simp) (fun w' hw' hctx => by (go_simp); (try first | with_reducible rfl | simp)) ?_
      simp only [Act.put, List.setIfInBounds_toArray, List.set_cons_zero, List.set_cons_succ]
      refine RX.seqP_value (fun _ => Below.refl _ _) _ (by first | rfl | simp) (fun w' hw' hctx => by (go_simp); (try first | with_reducible rfl | simp)) ?_
      simp only [Act.put, List.setIfInBounds_toArray, List.set_cons_zero, List.set_cons_succ]
      refine RX.seqP_value (fun _ => Below.refl _ _) _ (by first | rfl | simp) (fun w' hw' hctx => by (go_simp); (try first | with_reducible rfl | simp)) ?_
      simp only [Act.put, List.setIfInBounds_toArray, List.set_cons_zero, List.set_cons_succ]
      refine RX.seqP_value (fun _ => Below.refl _ _) _ (by first | rfl | simp) (fun w' hw' hctx => by (go_simp); (try first | with_reducible rfl | simp)) ?_
      simp only [Act.put, List.setIfInBounds_toArray, List.set_cons_zero, List.set_cons_succ]
      refine RX.seqP_value (fun _ => Below.refl _ _) _ (by first | rfl | simp) (fun w' hw' hctx => by (go_simp); (try first | with_reducible rfl | simp)) ?_
      simp only [Act.put, List.setIfInBounds_toArray, List.set_cons_zero, List.set_cons_succ]
      refine RX.seqP_value (fun _ => Below.refl _ _) _ (by first | rfl | simp) (fun w' hw' hctx => by (go_simp); (try first | with_reducible rfl | simp)) ?_
      simp only [Act.put, List.setIfInBounds_toArray, List.set_cons_zero, List.set_cons_succ]
      refine RX.seqP_value (fun _ => Below.refl _ _) _ (by first | rfl | simp) (fun w' hw' hctx => by (go_simp); (try first | with_reducible rfl | simp)) ?_
      simp only [Act.put, List.setIfInBounds_toArray, List.set_cons_zero, List.set_cons_succ]
      refine RX.seqP_value (fun _ => Below.refl _ _) _ (by first | rfl | simp) (fun w' hw' hctx => by (go_simp); (try first | with_reducible rfl | simp)) ?_
      simp only [Act.put, List.setIfInBounds_toArray, List.set_cons_zero, List.set_cons_succ]
      refine RX.seqP_value (fun _ => Below.refl _ _) _ (by first | rfl | simp) (fun w' hw' hctx => by (go_simp); (try first | with_reducible rfl | simp)) ?_
      simp only [Act.put, List.setIfInBounds_toArray, List.set_cons_zero, List.set_cons_succ]
      refine RX.seqP_value (fun _ => Below.refl _ _) _ (by first | rfl | simp) (fun w' hw' hctx => by (go_simp); (try first | with_reducible rfl | simp)) ?_
      simp only [Act.put, List.setIfInBounds_toArray, List.set_cons_zero, List.set_cons_succ]
      refine RX.seqP_value (fun _ => Below.refl _ _) _ (by first | rfl | simp) (fun w' hw' hctx => by (go_simp); (try first | with_reducible rfl | simp)) ?_
      simp only [Act.put, List.setIfInBounds_toArray, List.set_cons_zero, List.set_cons_succ]
      refine RX.seqP_value (fun _ => Below.refl _ _) _ (by first | rfl | simp) (fun w' hw' hctx => by (go_simp); (try first | with_reducible rfl | simp)) ?_
      simp only [Act.put, List.setIfInBounds_toArray, List.set_cons_zero, List.set_cons_succ]
      refine RX.seqP_value (fun _ => Below.refl _ _) _ (by first | rfl | simp) (fun w' hw' hctx => by (go_simp); (try first | with_reducible rfl | simp)) ?_
      simp only [Act.put, List.setIfInBounds_toArray, List.set_cons_zero, List.set_cons_succ]
      refine RX.seqP_value (fun _ => Below.refl _ _) _ (by first | rfl | simp) (fun w' hw' hctx => by (go_simp); (try first | with_reducible rfl | simp)) ?_
      simp only [Act.put, List.setIfInBounds_toArray, List.set_cons_zero, List.set_cons_succ]
      refine RX.seqP_value (fun _ => Below.refl _ _) _ (by first | rfl | simp) (fun w' hw' hctx => by (go_simp); (try first | with_reducible rfl | simp)) ?_
      simp only [Act.put, List.setIfInBounds_toArray, List.set_cons_zero, List.set_cons_succ]
      refine RX.seqP_value (fun _ => Below.refl _ _) _ (by first | rfl | simp) (fun w' hw' hctx => by (go_simp); (try first | with_reducible rfl | simp)) ?_
      simp only [Act.put, List.setIfInBounds_toArray, List.set_cons_zero, List.set_cons_succ]
      refine RX.seqP_value (fun _ => Below.refl _ _) _ (by first | rfl | simp) (fun w' hw' hctx => by (go_simp); (try first | with_reducible rfl | simp)) ?_
      simp only [Act.put, List.setIfInBounds_toArray, List.set_cons_zero, List.set_cons_succ]
      refine RX.seqP_value (fun _ => Below.refl _ _) _ (by first | rfl | simp) (fun w' hw' hctx => ?_) ?_
      · have v0 := (HV.out.below (below_tr HB10.out (below_tr hdr hw'))).cell (o := 0) rfl
        have v1 := (HV.out.below (below_tr HB10.out (below_tr hdr hw'))).cell (o := 1) rfl
        have vl := (HV.out.below (below_tr HB10.out (below_tr hdr hw'))).lt
        go_simp
        try first | with_reducible rfl | simp
      simp only [Act.put, List.setIfInBounds_toArray, List.set_cons_zero, List.set_cons_succ]
      refine RX.seqP_value (fun _ => Below.refl _ _) _ (by first | rfl | simp) (fun w' hw' hctx => by (go_simp); (try first | with_reducible rfl | simp)) ?_
      simp only [Act.put, List.setIfInBounds_toArray, List.set_cons_zero, List.set_cons_succ]
      refine RX.seqP_value (fun _ => Below.refl _ _) _ (by first | rfl | simp) (fun w' hw' hctx => by (go_simp); (try first | with_reducible rfl | simp)) ?_
      simp only [Act.put, List.setIfInBounds_toArray, List.set_cons_zero, List.set_cons_succ]
      refine RX.seqP_call (16) #[.pointer (some ⟨h, 0, none⟩), .pointer (some ⟨t, 0, none⟩), .agg #[.int .i64 e1, .int .i64 e2], .int .i64 e3, .int .i64 e4] (.bool ow) (by first | rfl | simp) (fun w' hw' hctx => ?_) (fun w' hw' hctx => duo_own (HDU.out _ (below_tr HB10.out (below_tr hdr hw'))) HSM.out.1 HZZ.out e1 e2 e3 e4 HI.out.1 HI.out.2.1 ow HOW.out) ?_
      · go_simp
      simp only [Act.put, List.setIfInBounds_toArray, List.set_cons_zero, List.set_cons_succ]
      refine RX.seqP_value (fun _ => Below.refl _ _) _ (by first | rfl | simp) (fun w' hw' hctx => by (go_simp); (try first | with_reducible rfl | simp)) ?_
      simp only [Act.put, List.setIfInBounds_toArray, List.set_cons_zero, List.set_cons_succ]
      refine RX.seqP_value (fun _ => Below.refl _ _) _ (by first | rfl | simp) (fun w' hw' hctx => by (go_simp); (try first | with_reducible rfl | simp)) ?_
      simp only [Act.put, List.setIfInBounds_toArray, List.set_cons_zero, List.set_cons_succ]
      refine RX.seqP_value (fun _ => Below.refl _ _) _ (by first | rfl | simp) (fun w' hw' hctx => ?_) ?_
      · have v0 := (HR.out.below (below_tr HB10.out (below_tr hdr hw'))).cell (o := 0) rfl
        have v1 := (HR.out.below (below_tr HB10.out (below_tr hdr hw'))).cell (o := 1) rfl
        have vl := (HR.out.below (below_tr HB10.out (below_tr hdr hw'))).lt
        go_simp
        try first | with_reducible rfl | simp
      simp only [Act.put, List.setIfInBounds_toArray, List.set_cons_zero, List.set_cons_succ]
      refine RX.seqP_value (fun _ => Below.refl _ _) _ (by first | rfl | simp) (fun w' hw' hctx => by (go_simp); (try first | with_reducible rfl | simp)) ?_
      simp only [Act.put, List.setIfInBounds_toArray, List.set_cons_zero, List.set_cons_succ]
      refine RX.seqP_value (fun _ => Below.refl _ _) _ (by first | rfl | simp) (fun w' hw' hctx => by (go_simp); (try first | with_reducible rfl | simp)) ?_
      simp only [Act.put, List.setIfInBounds_toArray, List.set_cons_zero, List.set_cons_succ]
      refine RX.seqP_call (17) #[.pointer (some ⟨g, 0, none⟩), .pointer (some ⟨y, 0, none⟩), .agg #[.int .i64 e1, .int .i64 e2], .int .i64 e3, .int .i64 e4] (.bool ow) (by first | rfl | simp) (fun w' hw' hctx => ?_) (fun w' hw' hctx => rvown_is w' g y A T e1 e2 e3 e4 (HRD.out _ (below_tr HB10.out (below_tr hdr hw'))) ow HOW.out) ?_
      · go_simp
      simp only [Act.put, List.setIfInBounds_toArray, List.set_cons_zero, List.set_cons_succ]
      refine RX.seqP_value (fun _ => Below.refl _ _) _ (by first | rfl | simp) (fun w' hw' hctx => by (go_simp); (try first | with_reducible rfl | simp)) ?_
      simp only [Act.put, List.setIfInBounds_toArray, List.set_cons_zero, List.set_cons_succ]
      refine RX.seqP_value (fun _ => Below.refl _ _) _ (by first | rfl | simp) (fun w' hw' hctx => by (go_simp); (try first | with_reducible rfl | simp)) ?_
      simp only [Act.put, List.setIfInBounds_toArray, List.set_cons_zero, List.set_cons_succ]
      refine RX.seqP_value (fun _ => Below.refl _ _) _ (by first | rfl | simp) (fun w' hw' hctx => by (go_simp); (try first | with_reducible rfl | simp)) ?_
      simp only [Act.put, List.setIfInBounds_toArray, List.set_cons_zero, List.set_cons_succ]
      refine RX.seqP_value (fun _ => Below.refl _ _) _ (by first | rfl | simp) (fun w' hw' hctx => by (go_simp); (try first | with_reducible rfl | simp)) ?_
      simp only [Act.put, List.setIfInBounds_toArray, List.set_cons_zero, List.set_cons_succ]
      refine RX.seqP_value (fun _ => Below.refl _ _) _ (by first | rfl | simp) (fun w' hw' hctx => by (go_simp); (try first | with_reducible rfl | simp)) ?_
      simp only [Act.put, List.setIfInBounds_toArray, List.set_cons_zero, List.set_cons_succ]
      refine RX.seqP_value (fun _ => Below.refl _ _) _ (by first | rfl | simp) (fun w' hw' hctx => ?_) ?_
      · have v0 := (HV.out.below (below_tr HB10.out (below_tr hdr hw'))).cell (o := 0) rfl
        have v1 := (HV.out.below (below_tr HB10.out (below_tr hdr hw'))).cell (o := 1) rfl
        have vl := (HV.out.below (below_tr HB10.out (below_tr hdr hw'))).lt
        go_simp
        try first | with_reducible rfl | simp
      simp only [Act.put, List.setIfInBounds_toArray, List.set_cons_zero, List.set_cons_succ]
      refine RX.seqP_value (fun _ => Below.refl _ _) _ (by first | rfl | simp) (fun w' hw' hctx => by (go_simp); (try first | with_reducible rfl | simp)) ?_
      simp only [Act.put, List.setIfInBounds_toArray, List.set_cons_zero, List.set_cons_succ]
      refine RX.seqP_value (fun _ => Below.refl _ _) _ (by first | rfl | simp) (fun w' hw' hctx => by (go_simp); (try first | with_reducible rfl | simp)) ?_
      simp only [Act.put, List.setIfInBounds_toArray, List.set_cons_zero, List.set_cons_succ]
      refine RX.seqP_call (18) #[.pointer (some ⟨h, 0, none⟩), .pointer (some ⟨t, 0, none⟩), .agg #[.int .i64 e1, .int .i64 e2], .int .i64 e3, .int .i64 e4] (.bool fr) (by first | rfl | simp) (fun w' hw' hctx => ?_) (fun w' hw' hctx => duo_fresh (HDU.out _ (below_tr HB10.out (below_tr hdr hw'))) HSM.out.1 HZZ.out e1 e2 e3 e4 HI.out.1 HI.out.2.1 fr HFR.out) ?_
      · go_simp
      simp only [Act.put, List.setIfInBounds_toArray, List.set_cons_zero, List.set_cons_succ]
      refine RX.seqP_value (fun _ => Below.refl _ _) _ (by first | rfl | simp) (fun w' hw' hctx => by (go_simp); (try first | with_reducible rfl | simp)) ?_
      simp only [Act.put, List.setIfInBounds_toArray, List.set_cons_zero, List.set_cons_succ]
      refine RX.seqP_value (fun _ => Below.refl _ _) _ (by first | rfl | simp) (fun w' hw' hctx => by (go_simp); (try first | with_reducible rfl | simp)) ?_
      simp only [Act.put, List.setIfInBounds_toArray, List.set_cons_zero, List.set_cons_succ]
      refine RX.seqP_value (fun _ => Below.refl _ _) _ (by first | rfl | simp) (fun w' hw' hctx => ?_) ?_
      · have v0 := (HR.out.below (below_tr HB10.out (below_tr hdr hw'))).cell (o := 0) rfl
        have v1 := (HR.out.below (below_tr HB10.out (below_tr hdr hw'))).cell (o := 1) rfl
        have vl := (HR.out.below (below_tr HB10.out (below_tr hdr hw'))).lt
        go_simp
        try first | with_reducible rfl | simp
      simp only [Act.put, List.setIfInBounds_toArray, List.set_cons_zero, List.set_cons_succ]
      refine RX.seqP_value (fun _ => Below.refl _ _) _ (by first | rfl | simp) (fun w' hw' hctx => by (go_simp); (try first | with_reducible rfl | simp)) ?_
      simp only [Act.put, List.setIfInBounds_toArray, List.set_cons_zero, List.set_cons_succ]
      refine RX.seqP_value (fun _ => Below.refl _ _) _ (by first | rfl | simp) (fun w' hw' hctx => by (go_simp); (try first | with_reducible rfl | simp)) ?_
      simp only [Act.put, List.setIfInBounds_toArray, List.set_cons_zero, List.set_cons_succ]
      refine RX.seqP_call (19) #[.pointer (some ⟨g, 0, none⟩), .pointer (some ⟨y, 0, none⟩), .agg #[.int .i64 e1, .int .i64 e2], .int .i64 e3, .int .i64 e4] (.bool fr) (by first | rfl | simp) (fun w' hw' hctx => ?_) (fun w' hw' hctx => rvfresh_is w' g y A T e1 e2 e3 e4 (HRD.out _ (below_tr HB10.out (below_tr hdr hw'))) fr HFR.out) ?_
      · go_simp
      simp only [Act.put, List.setIfInBounds_toArray, List.set_cons_zero, List.set_cons_succ]
      refine RX.seqP_value (fun _ => Below.refl _ _) _ (by first | rfl | simp) (fun w' hw' hctx => by (go_simp); (try first | with_reducible rfl | simp)) ?_
      simp only [Act.put, List.setIfInBounds_toArray, List.set_cons_zero, List.set_cons_succ]
      refine RX.seqP_value (fun _ => Below.refl _ _) _ (by first | rfl | simp) (fun w' hw' hctx => by (go_simp); (try first | with_reducible rfl | simp)) ?_
      simp only [Act.put, List.setIfInBounds_toArray, List.set_cons_zero, List.set_cons_succ]
      refine RX.seqP_value (fun _ => Below.refl _ _) _ (by first | rfl | simp) (fun w' hw' hctx => by (go_simp); (try first | with_reducible rfl | simp)) ?_
      simp only [Act.put, List.setIfInBounds_toArray, List.set_cons_zero, List.set_cons_succ]
      refine RX.seqP_value (fun _ => Below.refl _ _) _ (by first | rfl | simp) (fun w' hw' hctx => by (go_simp); (try first | with_reducible rfl | simp)) ?_
      simp only [Act.put, List.setIfInBounds_toArray, List.set_cons_zero, List.set_cons_succ]
      refine RX.seqP_value (fun _ => Below.refl _ _) _ (by first | rfl | simp) (fun w' hw' hctx => by (go_simp); (try first | with_reducible rfl | simp)) ?_
      simp only [Act.put, List.setIfInBounds_toArray, List.set_cons_zero, List.set_cons_succ]
      refine RX.seqP_value (fun _ => Below.refl _ _) _ (by first | rfl | simp) (fun w' hw' hctx => by (go_simp); (try first | with_reducible rfl | simp)) ?_
      simp only [Act.put, List.setIfInBounds_toArray, List.set_cons_zero, List.set_cons_succ]
      refine RX.seqP_value (fun _ => Below.refl _ _) _ (by first | rfl | simp) (fun w' hw' hctx => by (go_simp); (try first | with_reducible rfl | simp)) ?_
      simp only [Act.put, List.setIfInBounds_toArray, List.set_cons_zero, List.set_cons_succ]
      refine RX.seqP_call (20) #[.pointer (some ⟨h, 0, none⟩), .pointer (some ⟨t, 0, none⟩), .int .i64 e1, .int .i64 e5] (.bool dd) (by first | rfl | simp) (fun w' hw' hctx => ?_) (fun w' hw' hctx => duo_dead (HDU.out _ (below_tr HB10.out (below_tr hdr hw'))) HSM.out.1 HZZ.out e1 e5 dd HDD.out) ?_
      · go_simp
      simp only [Act.put, List.setIfInBounds_toArray, List.set_cons_zero, List.set_cons_succ]
      refine RX.seqP_value (fun _ => Below.refl _ _) _ (by first | rfl | simp) (fun w' hw' hctx => by (go_simp); (try first | with_reducible rfl | simp)) ?_
      simp only [Act.put, List.setIfInBounds_toArray, List.set_cons_zero, List.set_cons_succ]
      refine RX.seqP_value (fun _ => Below.refl _ _) _ (by first | rfl | simp) (fun w' hw' hctx => by (go_simp); (try first | with_reducible rfl | simp)) ?_
      simp only [Act.put, List.setIfInBounds_toArray, List.set_cons_zero, List.set_cons_succ]
      refine RX.seqP_value (fun _ => Below.refl _ _) _ (by first | rfl | simp) (fun w' hw' hctx => by (go_simp); (try first | with_reducible rfl | simp)) ?_
      simp only [Act.put, List.setIfInBounds_toArray, List.set_cons_zero, List.set_cons_succ]
      refine RX.seqP_value (fun _ => Below.refl _ _) _ (by first | rfl | simp) (fun w' hw' hctx => by (go_simp); (try first | with_reducible rfl | simp)) ?_
      simp only [Act.put, List.setIfInBounds_toArray, List.set_cons_zero, List.set_cons_succ]
      refine RX.seqP_call (21) #[.pointer (some ⟨g, 0, none⟩), .pointer (some ⟨y, 0, none⟩), .int .i64 e1, .int .i64 e5] (.bool dd) (by first | rfl | simp) (fun w' hw' hctx => ?_) (fun w' hw' hctx => rvdead_is w' g y A T e1 e5 (HRD.out _ (below_tr HB10.out (below_tr hdr hw'))) dd HDD.out) ?_
      · go_simp
      simp only [Act.put, List.setIfInBounds_toArray, List.set_cons_zero, List.set_cons_succ]
      refine RX.seqP_value (fun _ => Below.refl _ _) _ (by first | rfl | simp) (fun w' hw' hctx => by (go_simp); (try first | with_reducible rfl | simp)) ?_
      simp only [Act.put, List.setIfInBounds_toArray, List.set_cons_zero, List.set_cons_succ]
      refine RX.seqP_value (fun _ => Below.refl _ _) _ (by first | rfl | simp) (fun w' hw' hctx => by (go_simp); (try first | with_reducible rfl | simp)) ?_
      simp only [Act.put, List.setIfInBounds_toArray, List.set_cons_zero, List.set_cons_succ]
      refine RX.seqP_nil (fun w11 hR hctx _ => ?_)
      have hb11 := below_tr hdr hR
      clear hctx hR
      have HB11 := Lib.hid (below_tr HB10.out hb11)
      clear hb11 hdr HB6 HB7 HB8 HB9 HB10
      have v0 := (HV.out.below HB11.out).cell (o := 0) rfl
      have v1 := (HV.out.below HB11.out).cell (o := 1) rfl
      have vl := (HV.out.below HB11.out).lt
      have HCON := Lib.hid (duo_ids (HDU.out _ HB11.out) HSM.out.1 HZZ.out e1 e2 e3 HI.out.1)
      go_wp2_with fail
      refine (show Calls Tryz.prog _ _ _ _ from HCON.out).mono ?_
      rintro e w12 ⟨s12, li, rfl, hli, hrow, hown, hb⟩
      have HLI := Lib.hid hli
      have HB12 := Lib.hid (below_tr HB11.out hb)
      obtain ⟨fl, hfl⟩ : ∃ fl, (li.filter fun y => seenB T A e1 e2 e3 y) = fl := ⟨_, rfl⟩
      rw [hfl] at hrow
      have HFL := Lib.hid hfl
      obtain ⟨ia, ic, rfl, -, -⟩ := hrow.form
      obtain ⟨m, hm⟩ : ∃ m, fl.length = m := ⟨_, rfl⟩
      have HM := Lib.hid hm
      rw [hm] at hrow hown ⊢
      have HROW := Lib.hid hrow
      have HOWN := Lib.hid hown
      clear hli hrow hown hb hfl hm HCON v0 v1 vl
      have v0 := (HR.out.below HB12.out).cell (o := 0) rfl
      have v1 := (HR.out.below HB12.out).cell (o := 1) rfl
      have vl := (HR.out.below HB12.out).lt
      have HCON := Lib.hid (rd_ids2 (HRD.out _ HB12.out) e1 e2 e3 HLI.out HFL.out)
      go_wp2_with fail
      refine (show Calls Tryz.prog _ _ _ _ from HCON.out).mono ?_
      rintro e w13 ⟨v13, rfl, hb, hrow2⟩
      have HB13 := Lib.hid (below_tr HB12.out hb)
      have HROW13 : Hid (RowI w13 (.slice ia m ic) fl) := Lib.hid (RowF.below HROW.out hb)
      have HCON2 := Lib.hid (ints_is (.slice ia m ic) v13 fl fl true (decide_eq_true rfl) w13 HROW13.out hrow2)
      clear hb hrow2 HCON v0 v1 vl
      go_wp2_with fail
      refine (show Calls Tryz.prog _ _ _ _ from HCON2.out).mono ?_
      rintro e w14 ⟨rfl, hb⟩
      have HB14 := Lib.hid (below_tr HB13.out hb)
      have HROW14 : Hid (RowI w14 (.slice ia m ic) fl) := Lib.hid (RowF.below HROW13.out hb)
      have HML : Hid (m ≤ 100000) := Lib.hid (by
        rw [← HM.out, ← HFL.out]
        have h1 := List.length_filter_le (fun y => seenB T A e1 e2 e3 y) li
        have h2 := ids_len HLI.out
        have h3 := (HDU.out _ HB11.out).oks.2.1
        have := HZZ.out
        omega)
      have HR14 : Hid (RowF 3 1 w14 (.slice ia m ic) m (numR fun j => fl.getD j 0)) := Lib.hid (by
        have := HROW14.out
        unfold RowI at this
        rwa [HM.out] at this)
      clear hb HCON2 HROW HROW13 HROW14
      go_wp2_with fail
      go_loopg [30] m (fun gg s30 wx => ∃ (k : Nat) (E : Nat → Int), s30 = .int .i64 k ∧ k ≤ m ∧ m - k ≤ gg ∧ Hid (RowF 3 1 wx (.slice ia m ic) m (numR E)) ∧ Hid (Below W6.heap.size W6 wx))
      case atStart => exact ⟨0, _, rfl, Nat.zero_le _, by omega, HR14, HB14⟩
      case round =>
        obtain ⟨k, E, rfl, hkm, hgg, HE, HBX⟩ := hrel
        clear HR14 HB14
        have hml := HML.out
        by_cases hlt : k < m
        · have hltz : (k : Int) < (m : Int) := by omega
          obtain ⟨ib, ic2, hse, hc1, hc2, hbl, hcel, hfz⟩ := RowF.at HE.out hlt
          simp only [Value.slice.injEq] at hse
          obtain ⟨rfl, -, rfl⟩ := hse
          have cc := hcel k hlt 0 _ rfl
          rw [Nat.mul_one, Nat.add_zero] at cc
          have ff := hfz k
          have HSET : Hid (RowF 3 1 (wr.setCell ⟨ib, k, none⟩ (.int .i64 (-7))) (.slice (some ⟨ib, 0, none⟩) m ic) m (numR (updE E k (-7)))) := Lib.hid (RowN.put HE.out hlt (-7))
          have HBS : Hid (Below W6.heap.size W6 (wr.setCell ⟨ib, k, none⟩ (.int .i64 (-7)))) := Lib.hid (HBX.out.trans ((Touch.setCell wr (F := fun k => k = ib) rfl k (.int .i64 (-7))).below (fun k hk => by
            have h1 : k = ib := hk
            have h2 := HOWN.out ib rfl
            have h3 := HB11.out.size
            omega) HBX.out.size))
          clear hcel hfz
          go_wp2_with fail
          go_roundg (m - (k + 1))
          case measure => omega
          case rel => exact ⟨k + 1, _, by go_num, by omega, Nat.le_refl _, HSET, HBS⟩
        · have hltz : ¬ (k : Int) < (m : Int) := by omega
          obtain ⟨w15, hw15⟩ : ∃ W, wr = W := ⟨_, rfl⟩
          subst hw15
          have HB15 := HBX
          go_upto_region 23 with (fail)
          have hdr := below_drw wr
          try simp only [List.append_eq, List.cons_append, List.nil_append]
          refine RX.wp_region_plan (fun w w' => Below w.heap.size w w') [.it (.bool true), .it (.bool true), .it (.pointer (some ⟨h, 0, none⟩)), .it (.pointer (some ⟨t, 0, none⟩)), .it (.agg #[.int .i64 e1, .int .i64 e2]), .it (.int .i64 e3), .of (fun W v => RowI W v fl), .it (.pointer (some ⟨g, 0, none⟩)), .it (.pointer (some ⟨y, 0, none⟩)), .it (.agg #[.int .i64 e1, .int .i64 e2]), .it (.int .i64 e3), .of (fun W v => RowI W v fl), .it (.bool true), .it (.bool true), .it (.bool true), .it (.bool true), .it (.bool true), .it (.bool true)] (by kernel_rfl) (by kernel_rfl) (fun _ => Below.refl _ _) (fun _ _ _ => below_tr) ?_
          refine RX.seqP_value (fun _ => Below.refl _ _) _ (by first | rfl | simp) (fun w' hw' hctx => by (go_simp); (try first | with_reducible rfl | simp)) ?_
          simp only [Act.put, List.setIfInBounds_toArray, List.set_cons_zero, List.set_cons_succ]
          refine RX.seqP_value (fun _ => Below.refl _ _) _ (by first | rfl | simp) (fun w' hw' hctx => by (go_simp); (try first | with_reducible rfl | simp)) ?_
          simp only [Act.put, List.setIfInBounds_toArray, List.set_cons_zero, List.set_cons_succ]
          refine RX.seqP_value (fun _ => Below.refl _ _) _ (by first | rfl | simp) (fun w' hw' hctx => by (go_simp); (try first | with_reducible rfl | simp)) ?_
          simp only [Act.put, List.setIfInBounds_toArray, List.set_cons_zero, List.set_cons_succ]
          refine RX.seqP_value (fun _ => Below.refl _ _) _ (by first | rfl | simp) (fun w' hw' hctx => by (go_simp); (try first | with_reducible rfl | simp)) ?_
          simp only [Act.put, List.setIfInBounds_toArray, List.set_cons_zero, List.set_cons_succ]
          refine RX.seqP_value (fun _ => Below.refl _ _) _ (by first | rfl | simp) (fun w' hw' hctx => ?_) ?_
          · have v0 := (HV.out.below (below_tr HB15.out (below_tr hdr hw'))).cell (o := 0) rfl
            have v1 := (HV.out.below (below_tr HB15.out (below_tr hdr hw'))).cell (o := 1) rfl
            have vl := (HV.out.below (below_tr HB15.out (below_tr hdr hw'))).lt
            go_simp
            try first | with_reducible rfl | simp
          simp only [Act.put, List.setIfInBounds_toArray, List.set_cons_zero, List.set_cons_succ]
          refine RX.seqP_value (fun _ => Below.refl _ _) _ (by first | rfl | simp) (fun w' hw' hctx => by (go_simp); (try first | with_reducible rfl | simp)) ?_
          simp only [Act.put, List.setIfInBounds_toArray, List.set_cons_zero, List.set_cons_succ]
          refine RX.seqP_callOf (22) #[.pointer (some ⟨h, 0, none⟩), .pointer (some ⟨t, 0, none⟩), .agg #[.int .i64 e1, .int .i64 e2], .int .i64 e3] (fun W v => RowI W v fl) (fun w w' v hb h => RowF.below h hb) (by first | rfl | simp) (fun w' hw' hctx => ?_) (fun w' hw' hctx => duo_ids2 (HDU.out _ (below_tr HB15.out (below_tr hdr hw'))) HSM.out.1 HZZ.out e1 e2 e3 HI.out.1 HLI.out HFL.out) (fun u6 => ?_)
          · go_simp
          simp only [Act.put, List.setIfInBounds_toArray, List.set_cons_zero, List.set_cons_succ]
          refine RX.seqP_value (fun _ => Below.refl _ _) _ (by first | rfl | simp) (fun w' hw' hctx => by (go_simp); (try first | with_reducible rfl | simp)) ?_
          simp only [Act.put, List.setIfInBounds_toArray, List.set_cons_zero, List.set_cons_succ]
          refine RX.seqP_value (fun _ => Below.refl _ _) _ (by first | rfl | simp) (fun w' hw' hctx => by (go_simp); (try first | with_reducible rfl | simp)) ?_
          simp only [Act.put, List.setIfInBounds_toArray, List.set_cons_zero, List.set_cons_succ]
          refine RX.seqP_value (fun _ => Below.refl _ _) _ (by first | rfl | simp) (fun w' hw' hctx => ?_) ?_
          · have v0 := (HR.out.below (below_tr HB15.out (below_tr hdr hw'))).cell (o := 0) rfl
            have v1 := (HR.out.below (below_tr HB15.out (below_tr hdr hw'))).cell (o := 1) rfl
            have vl := (HR.out.below (below_tr HB15.out (below_tr hdr hw'))).lt
            go_simp
            try first | with_reducible rfl | simp
          simp only [Act.put, List.setIfInBounds_toArray, List.set_cons_zero, List.set_cons_succ]
          refine RX.seqP_value (fun _ => Below.refl _ _) _ (by first | rfl | simp) (fun w' hw' hctx => by (go_simp); (try first | with_reducible rfl | simp)) ?_
          simp only [Act.put, List.setIfInBounds_toArray, List.set_cons_zero, List.set_cons_succ]
          refine RX.seqP_callOf (24) #[.pointer (some ⟨g, 0, none⟩), .pointer (some ⟨y, 0, none⟩), .agg #[.int .i64 e1, .int .i64 e2], .int .i64 e3] (fun W v => RowI W v fl) (fun w w' v hb h => RowF.below h hb) (by first | rfl | simp) (fun w' hw' hctx => ?_) (fun w' hw' hctx => rd_ids2 (HRD.out _ (below_tr HB15.out (below_tr hdr hw'))) e1 e2 e3 HLI.out HFL.out) (fun u11 => ?_)
          · go_simp
          simp only [Act.put, List.setIfInBounds_toArray, List.set_cons_zero, List.set_cons_succ]
          refine RX.seqP_call (23) #[u6, u11] (.bool true) (by first | rfl | simp) (fun w' hw' hctx => ?_) (fun w' hw' hctx => ints_is u6 u11 fl fl true (decide_eq_true rfl) w' (hctx.2.1) (hctx.1)) ?_
          · go_simp
          simp only [Act.put, List.setIfInBounds_toArray, List.set_cons_zero, List.set_cons_succ]
          refine RX.seqP_value (fun _ => Below.refl _ _) _ (by first | rfl | simp) (fun w' hw' hctx => by (go_simp); (try first | with_reducible rfl | simp)) ?_
          simp only [Act.put, List.setIfInBounds_toArray, List.set_cons_zero, List.set_cons_succ]
          refine RX.seqP_value (fun _ => Below.refl _ _) _ (by first | rfl | simp) (fun w' hw' hctx => by (go_simp); (try first | with_reducible rfl | simp)) ?_
          simp only [Act.put, List.setIfInBounds_toArray, List.set_cons_zero, List.set_cons_succ]
          refine RX.seqP_call (5) #[] (.bool true) (by first | rfl | simp) (fun w' hw' hctx => ?_) (fun w' hw' hctx => awake_is w') ?_
          · go_simp
          simp only [Act.put, List.setIfInBounds_toArray, List.set_cons_zero, List.set_cons_succ]
          refine RX.seqP_value (fun _ => Below.refl _ _) _ (by first | rfl | simp) (fun w' hw' hctx => by (go_simp); (try first | with_reducible rfl | simp)) ?_
          simp only [Act.put, List.setIfInBounds_toArray, List.set_cons_zero, List.set_cons_succ]
          refine RX.seqP_value (fun _ => Below.refl _ _) _ (by first | rfl | simp) (fun w' hw' hctx => by (go_simp); (try first | with_reducible rfl | simp)) ?_
          simp only [Act.put, List.setIfInBounds_toArray, List.set_cons_zero, List.set_cons_succ]
          refine RX.seqP_nil (fun w16 hR hctx _ => ?_)
          have hb16 := below_tr hdr hR
          clear hctx hR
          have HB16 := Lib.hid (below_tr HB15.out hb16)
          clear hb16 hdr
          go_wp2_with fail
          go_ret
          exact ⟨rfl, below_tr HBW.out HB16.out⟩

end Go.Proofs.YtbgnbaogclnpgaaGreat

namespace Go.Proofs.YtbgnbaogclnpgaaGreat
open Go.RowKit Go.ChangeShapes Go.WideShapes Go.ChangeAt

set_option maxRecDepth 100000 in
theorem sightTells_lifted (os : Os) (started : os.Started) (H : Type) (enc : TypeId × Value → H) :
    ReturnsInHanded {} Tryz.checked os 3 .any (Rows.sightTellsSpec.pre6 enc Tryz.prog Tryz.f3 Rows.sightTellsRow.domain false) (Rows.sightTellsSpec.post enc Tryz.prog Tryz.f3 false true false false) := by
  refine returnsInHanded_of_change (C := Tryz.checked) ownE started (by kernel_rfl) Tryz.func3
    (ChangeSpec.witness6 (enc := enc) (C := Tryz.checked) false ⟨#[], #[.slice none 0 0, .int .i64 0, .int .i64 0, .int .i64 0, .int .i64 0, .int .i64 0], []⟩ 8 (by kernel_rfl) (by kernel_rfl) (by kernel_rfl) (by kernel_rfl)) ?_
  intro W base args ds gs before hval0 hW _ _
  have hval : ∀ (j : Nat) t v, Tryz.f3.params[j]? = some t → args[j]? = some v → Value.okWide Tryz.prog W .any base t v := hval0
  have hW' := hW
  obtain ⟨p, q, hA0, hV, rfl, _, _⟩ := hW
  have hA : DataW.TrodAll enc Tryz.prog W 0 (fun _ => true) true Tryz.f3.params.toList args.toList ds p := hA0
  rw [Tryz.params3] at hA hval
  obtain ⟨v0, v1, v2, v3, v4, v5, d0, d1, d2, d3, d4, d5, p0, p1, p2, p3, p4, p5, rfl, rfl, rfl, h0, h1, h2, h3, h4, h5⟩ := trodAll_six hA
  obtain ⟨rfl, rfl⟩ := trodVars_none hV
  try simp only [List.append_nil] at hW'
  obtain ⟨a0, n0, c0, l0, rfl, hn0, hs0⟩ := open_steps (hval 0 22 v0 rfl rfl) h0
  obtain ⟨e1, rfl, rfl, rfl, wn1⟩ := open_int Tryz.underlying3 (hval 1 3 v1 rfl rfl) h1
  have hin1 := wf64e wn1
  obtain ⟨e2, rfl, rfl, rfl, wn2⟩ := open_int Tryz.underlying3 (hval 2 3 v2 rfl rfl) h2
  have hin2 := wf64e wn2
  obtain ⟨e3, rfl, rfl, rfl, wn3⟩ := open_int Tryz.underlying3 (hval 3 3 v3 rfl rfl) h3
  have hin3 := wf64e wn3
  obtain ⟨e4, rfl, rfl, rfl, wn4⟩ := open_int Tryz.underlying3 (hval 4 3 v4 rfl rfl) h4
  have hin4 := wf64e wn4
  obtain ⟨e5, rfl, rfl, rfl, wn5⟩ := open_int Tryz.underlying3 (hval 5 3 v5 rfl rfl) h5
  have hin5 := wf64e wn5
  have hlt : ∀ x ∈ p0 ++ [] ++ [] ++ [] ++ [] ++ [], x.block < W.heap.size := fun x hx => hW'.lt x (by first | exact hx | simpa using hx)
  have hlt0 : ∀ x ∈ (p0 : List MemPlace), x.block < W.heap.size := fun x hx => hlt x (by simp only [List.mem_append]; exact .inl (.inl (.inl (.inl (.inl hx)))))
  have hlt1 : ∀ x ∈ ([] : List MemPlace), x.block < W.heap.size := fun x hx => hlt x (by simp only [List.mem_append]; exact .inl (.inl (.inl (.inl (.inr hx)))))
  have hlt2 : ∀ x ∈ ([] : List MemPlace), x.block < W.heap.size := fun x hx => hlt x (by simp only [List.mem_append]; exact .inl (.inl (.inl (.inr hx))))
  have hlt3 : ∀ x ∈ ([] : List MemPlace), x.block < W.heap.size := fun x hx => hlt x (by simp only [List.mem_append]; exact .inl (.inl (.inr hx)))
  have hlt4 : ∀ x ∈ ([] : List MemPlace), x.block < W.heap.size := fun x hx => hlt x (by simp only [List.mem_append]; exact .inl (.inr hx))
  have hlt5 : ∀ x ∈ ([] : List MemPlace), x.block < W.heap.size := fun x hx => hlt x (by simp only [List.mem_append]; exact .inr hx)
  refine (Or.elim (Nat.lt_or_ge 120 n0) (fun hz => tells_large a0 c0 n0 l0 hn0 e1 e2 e3 e4 e5 hin1 hin2 hin3 hin4 hin5 W hs0 hz) (fun hz => tells_law a0 c0 n0 l0 hn0 e1 e2 e3 e4 e5 hin1 hin2 hin3 hin4 hin5 W hs0 hz)).mono fun e W' ⟨he, hb⟩ => ?_
  subst he
  exact ⟨_, rfl, _, _, _, [], (p0 ++ ([] ++ ([] ++ ([] ++ ([] ++ []))))), [], hW', trodAll_mk1 (shut_bool Tryz.underlying4 _), trodAll_mk6 (Below.trod laidE (by kernel_rfl) (of_decide_eq_true (by kernel_rfl)) h0 hb hlt0) (Below.trod laidE (by kernel_rfl) (of_decide_eq_true (by kernel_rfl)) h1 hb hlt1) (Below.trod laidE (by kernel_rfl) (of_decide_eq_true (by kernel_rfl)) h2 hb hlt2) (Below.trod laidE (by kernel_rfl) (of_decide_eq_true (by kernel_rfl)) h3 hb hlt3) (Below.trod laidE (by kernel_rfl) (of_decide_eq_true (by kernel_rfl)) h4 hb hlt4) (Below.trod laidE (by kernel_rfl) (of_decide_eq_true (by kernel_rfl)) h5 hb hlt5), rfl, hb.frame _, fun h => by cases h⟩

/-- THE ROW. -/
theorem sightTells_holds : Rows.SightTellsSaid :=
  OpenClaim.holds_of_wide 3 Tryz.f3 rfl rfl rfl rfl rfl rfl rfl ⟨rfl, rfl, rfl, rfl, rfl⟩ rfl rfl rfl rfl rfl (by kernel_rfl) Tryz.func3 (by kernel_rfl)
    (of_decide_eq_true (by kernel_rfl)) (by unfold Func.isWrapper; first | (rw [if_pos (by decide +kernel)]; kernel_rfl) | (rw [if_neg (by decide +kernel)]; exact ⟨rfl, rfl⟩))
    (fun os started H enc _ => sightTells_lifted os started H enc)
#print axioms sightTells_holds
end Go.Proofs.YtbgnbaogclnpgaaGreat
