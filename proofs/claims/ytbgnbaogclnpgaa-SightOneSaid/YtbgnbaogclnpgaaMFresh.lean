/-
  sight's Newest, Fresh, Dead: walked (stage 12).
-/
import Derived.Test.YtbgnbaogclnpgaaMSeen
namespace Go.Proofs.Ytbgnbaogclnpgaa
open Go.RowKit
set_option linter.unusedVariables false

set_option maxRecDepth 100000 in
set_option maxHeartbeats 4000000 in
theorem vnewest_is (w : World) (h z : Nat) (A : Ab) (F : Nat → Prop) (v : Value) (T : Tb) (x y : Int) (hx : I64 x) (hy : I64 y) (hz : z ≤ 90000) (H : Std w h A z F) (hT : TV w v T) (b : Bool) (r : Int) (hb : seenB T A T.last 0 x y = b) (hr : seenV T A T.last 0 x y = r) :
    Calls Try.prog 22 #[.pointer (some ⟨h, 0, none⟩), v, .int .i64 x, .int .i64 y] w fun e w' => e = .returned (.tuple #[.int .i64 r, .bool b]) ∧ Below w.heap.size w w' := by
  obtain ⟨q, rfl⟩ := hT.ptr
  obtain ⟨la, hla⟩ : ∃ la : Int, (T.last : Int) = la := ⟨_, rfl⟩
  rw [hla] at hb hr
  have hcon := now_is w (.pointer q) T 0 hT la hla
  have HS := Lib.hid (show ∀ w2, Below w.heap.size w w2 → Calls Try.prog 19 #[.pointer (some ⟨h, 0, none⟩), .pointer q, .agg #[.int .i64 la, .int .i64 0], .int .i64 x, .int .i64 y] w2 fun e w' => e = .returned (.tuple #[.int .i64 r, .bool b]) ∧ Below w2.heap.size w2 w' from fun w2 hb2 => vseen_is w2 h z A F (.pointer q) T la 0 x y hx hy hz (H.below hb2) (hT.below hb2) b r hb hr)
  unfold vw at hcon
  clear H hT hb hr hx hy hz hla
  go_enter Try.func22, Try.ntmps22
  go_wp2_with fail
  refine hcon.mono ?_
  rintro e w2 ⟨rfl, hb2⟩
  have hcon2 := HS.out w2 hb2
  have HB2 := Lib.hid hb2
  clear hcon hb2 HS
  go_wp2_with fail
  refine hcon2.mono ?_
  rintro e w3 ⟨rfl, hb3⟩
  have HB3 := Lib.hid (below_tr HB2.out hb3)
  clear hcon2 hb3 HB2
  go_wp2_with fail
  go_ret2
  exact ⟨rfl, HB3.out⟩

set_option maxRecDepth 100000 in
set_option maxHeartbeats 4000000 in
theorem vfresh_is (w : World) (h z : Nat) (A : Ab) (F : Nat → Prop) (v : Value) (T : Tb) (a m x y : Int) (hx : I64 x) (hy : I64 y) (hz : z ≤ 90000) (H : Std w h A z F) (hT : TV w v T) (b : Bool) (hb : freshB T A a m x y = b) :
    Calls Try.prog 20 #[.pointer (some ⟨h, 0, none⟩), v, vw a m, .int .i64 x, .int .i64 y] w fun e w' => e = .returned (.bool b) ∧ Below w.heap.size w w' := by
  obtain ⟨q, rfl⟩ := hT.ptr
  obtain ⟨g, hg⟩ : ∃ g, w.heap.size = g := ⟨_, rfl⟩
  obtain ⟨W, hW⟩ : ∃ W, w.alloc (.cells #[.int .i64 a, .int .i64 m] 34) = W := ⟨_, rfl⟩
  have hl : Lit W g 34 [.int .i64 a, .int .i64 m] := by rw [← hW, ← hg]; exact Lit.new w _ _
  have hb0 : Below w.heap.size w W := by rw [← hW]; exact Below.allocs _ _
  obtain ⟨own, ho⟩ : ∃ o, ownR T m (A.vs x y) = o := ⟨_, rfl⟩
  obtain ⟨sb, hsb⟩ : ∃ o, seenB T A a m x y = o := ⟨_, rfl⟩
  obtain ⟨sv, hsv⟩ : ∃ o, seenV T A a m x y = o := ⟨_, rfl⟩
  obtain ⟨nb, hnb⟩ : ∃ o, seenB T A T.last 0 x y = o := ⟨_, rfl⟩
  obtain ⟨nv, hnv⟩ : ∃ o, seenV T A T.last 0 x y = o := ⟨_, rfl⟩
  unfold freshB at hb
  rw [ho, hsb, hsv, hnb, hnv] at hb
  have HO := Lib.hid (show ∀ w2, Below W.heap.size W w2 → Calls Try.prog 21 #[.pointer (some ⟨h, 0, none⟩), .pointer q, .agg #[.int .i64 a, .int .i64 m], .int .i64 x, .int .i64 y] w2 fun e w' => e = .returned (.bool own) ∧ Below w2.heap.size w2 w' from fun w2 hb2 => vown_is w2 h z A F (.pointer q) T a m x y hx hy hz (H.below (below_tr hb0 hb2)) (hT.below (below_tr hb0 hb2)) own ho)
  have HS := Lib.hid (show ∀ w2, Below W.heap.size W w2 → Calls Try.prog 19 #[.pointer (some ⟨h, 0, none⟩), .pointer q, .agg #[.int .i64 a, .int .i64 m], .int .i64 x, .int .i64 y] w2 fun e w' => e = .returned (.tuple #[.int .i64 sv, .bool sb]) ∧ Below w2.heap.size w2 w' from fun w2 hb2 => vseen_is w2 h z A F (.pointer q) T a m x y hx hy hz (H.below (below_tr hb0 hb2)) (hT.below (below_tr hb0 hb2)) sb sv hsb hsv)
  have HN := Lib.hid (show ∀ w2, Below W.heap.size W w2 → Calls Try.prog 22 #[.pointer (some ⟨h, 0, none⟩), .pointer q, .int .i64 x, .int .i64 y] w2 fun e w' => e = .returned (.tuple #[.int .i64 nv, .bool nb]) ∧ Below w2.heap.size w2 w' from fun w2 hb2 => vnewest_is w2 h z A F (.pointer q) T x y hx hy hz (H.below (below_tr hb0 hb2)) (hT.below (below_tr hb0 hb2)) nb nv hnb hnv)
  have HL := Lib.hid hl
  have HW := Lib.hid hW
  have HG := Lib.hid hg
  have HB0 := Lib.hid hb0
  have hcon := HO.out W (Below.refl _ _)
  have v0 := hl.cell (o := 0) rfl
  have v1 := hl.cell (o := 1) rfl
  have vl := hl.lt
  unfold vw
  clear H hT hx hy hz ho hsb hsv hnb hnv hl hW hg hb0 HO
  go_enter Try.func20, Try.ntmps20
  go_upto_region 1 with (fail)
  rw [HW.out, HG.out]
  clear HW HG
  go_wp2_with fail
  refine hcon.mono ?_
  rintro e w2 ⟨rfl, hb2⟩
  have HB2 := Lib.hid hb2
  clear hcon hb2 v0 v1 vl
  cases own with
  | true =>
    have hbt : b = true := by rw [← hb]; rfl
    subst hbt
    clear hb
    go_wp2_with fail
    go_ret
    exact ⟨rfl, below_tr HB0.out HB2.out⟩
  | false =>
    rw [Bool.false_or] at hb
    have v0 := (HL.out.below HB2.out).cell (o := 0) rfl
    have v1 := (HL.out.below HB2.out).cell (o := 1) rfl
    have vl := (HL.out.below HB2.out).lt
    have hcon := HS.out w2 HB2.out
    have HBB := Lib.hid hb
    clear hb
    go_wp2_with fail
    refine hcon.mono ?_
    rintro e w3 ⟨rfl, hb3⟩
    have HB3 := Lib.hid (below_tr HB2.out hb3)
    have hcon := HN.out w3 HB3.out
    clear hb3 v0 v1 vl HB2
    go_wp2_with fail
    refine hcon.mono ?_
    rintro e w4 ⟨rfl, hb4⟩
    have HB4 := Lib.hid (below_tr HB3.out hb4)
    clear hb4 hcon
    by_cases hbb : sb = nb
    · subst hbb
      have hbz : decide (sv = nv) = b := by rw [← HBB.out]; simp
      have hz2 : (sv == nv) = b := by rw [← hbz]; rfl
      clear hbz
      go_wp2_with fail
      go_ret
      exact ⟨by first | rfl | rw [hz2], below_tr HB0.out HB4.out⟩
    · have hbz : b = false := by rw [← HBB.out, decide_eq_false hbb, Bool.false_and]
      subst hbz
      have hz2 : (sb == nb) = false := by simpa using hbb
      go_wp2_with fail
      go_ret
      exact ⟨rfl, below_tr HB0.out HB4.out⟩

set_option maxRecDepth 100000 in
set_option maxHeartbeats 4000000 in
theorem vdead_is (w : World) (h z : Nat) (A : Ab) (F : Nat → Prop) (tt : Nat) (T : Tb) (a slot : Int) (hz : z ≤ 90000) (H : Std w h A z F) (hT : TV w (.pointer (some ⟨tt, 0, none⟩)) T) (b : Bool) (hb : deadB T A a slot = b) :
    Calls Try.prog 18 #[.pointer (some ⟨h, 0, none⟩), .pointer (some ⟨tt, 0, none⟩), .int .i64 a, .int .i64 slot] w fun e w' => e = .returned (.bool b) ∧ Below w.heap.size w w' := by
  have hat := at_std w h A z F slot hz H
  obtain ⟨t, ht⟩ : ∃ t, A.atT slot = t := ⟨_, rfl⟩
  obtain ⟨is, his⟩ : ∃ t, A.atB slot = t := ⟨_, rfl⟩
  rw [ht, his] at hat
  have hb' : b = (is && deadT T a t) := by
    rw [← hb, ← his, ← ht]
    unfold deadB Ab.atB Ab.atT
    cases A.tupI slot <;> rfl
  have hwf : is = true → t.wf := fun hi => by
    rw [← his] at hi
    unfold Ab.atB at hi
    obtain ⟨u, hu⟩ := Option.isSome_iff_exists.1 hi
    rw [← ht]
    unfold Ab.atT
    rw [hu]
    unfold Ab.tupI at hu
    by_cases h0 : 0 ≤ slot
    · rw [if_pos h0] at hu
      exact (H.ok.wf _ ((H.ok.tup _ _).1 hu)).1
    · rw [if_neg h0] at hu; cases hu
  unfold ptrV tupV at hat
  have HAT := Lib.hid hat
  have HT := Lib.hid hT
  have HWF := Lib.hid hwf
  clear hat hT hwf ht his hb H hz
  go_enter Try.func18, Try.ntmps18
  go_wp2_with fail
  refine HAT.out.mono ?_
  rintro e w1 ⟨s1, rfl, hr1, -, hb1⟩
  obtain ⟨sa, sc, hsf, -, -⟩ := hr1.form
  subst hsf
  obtain ⟨rn, hrn⟩ : ∃ rn, t.row.length = rn := ⟨_, rfl⟩
  rw [hrn]
  obtain ⟨W2, hW2⟩ : ∃ W2, w1.alloc (.cells #[.int .i64 t.no, .int .i64 t.id, .int .i64 t.mn, .int .i64 t.cm, .int .i64 t.mx, .int .i64 t.cx, .slice sa rn sc] 61) = W2 := ⟨_, rfl⟩
  obtain ⟨g2, hg2⟩ : ∃ g, w1.heap.size = g := ⟨_, rfl⟩
  have hl2 : Lit W2 g2 61 [.int .i64 t.no, .int .i64 t.id, .int .i64 t.mn, .int .i64 t.cm, .int .i64 t.mx, .int .i64 t.cx, .slice sa rn sc] := by rw [← hW2, ← hg2]; exact Lit.new w1 _ _
  have hb2 : Below w1.heap.size w1 W2 := by rw [← hW2]; exact Below.allocs _ _
  have HL2 := Lib.hid hl2
  have HB2 := Lib.hid (below_tr hb1 hb2)
  clear hr1 hb1 hb2 hl2 hrn HAT
  cases is with
  | false =>
    have hbf : b = false := by rw [hb']; rfl
    subst hbf
    clear hb'
    go_wp2_with fail
    go_ret
    exact ⟨rfl, HB2.out⟩
  | true =>
    have HWFT : Hid t.wf := Lib.hid (HWF.out (by first | rfl | trivial))
    clear HWF
    rw [Bool.true_and] at hb'
    obtain ⟨c1, hc1⟩ : ∃ c, T.cnt t.mn = c := ⟨_, rfl⟩
    obtain ⟨c2, hc2⟩ : ∃ c, endB T false a 0 t = c := ⟨_, rfl⟩
    have hbv : b = (!c1 || c2) := by rw [hb']; unfold deadT; rw [hc1, hc2]
    have hmk := ended_mk_false W2 (some ⟨tt, 0, none⟩) a 0
    obtain ⟨eb, heb⟩ : ∃ e, W2.heap.size = e := ⟨_, rfl⟩
    rw [heb] at hmk
    have HMK := Lib.hid hmk
    have HEB := Lib.hid heb
    have HC1 := Lib.hid hc1
    have HC2 := Lib.hid hc2
    have HBV := Lib.hid hbv
    clear hb' hc1 hc2 hbv hmk heb
    go_wp2_with fail
    refine HMK.out.mono ?_
    rintro e w3 ⟨rfl, hce, hb3⟩
    rw [← HEB.out] at hb3
    have HB3 := Lib.hid (below_tr HB2.out hb3)
    have HCE := Lib.hid hce
    have HL3 := Lib.hid (HL2.out.below hb3)
    have hcon := tv_counts (HT.out.below HB3.out) t.mn HWFT.out.mn c1 HC1.out
    have HCON := Lib.hid hcon
    have d2 := HL3.out.cell (o := 2) rfl
    have dl := HL3.out.lt
    unfold endV
    clear hce hb3 hcon HMK hW2 hg2
    go_wp2_with fail
    refine HCON.out.mono ?_
    rintro e w4 ⟨rfl, hb4⟩
    have HB4 := Lib.hid (below_tr HB3.out hb4)
    have HCE4 := Lib.hid (HCE.out.below hb4)
    have HL4 := Lib.hid (HL3.out.below hb4)
    clear d2 dl HCON hb4
    cases c1 with
    | false =>
      have hbt : b = true := by rw [HBV.out]; rfl
      subst hbt
      go_wp2_with fail
      go_ret
      exact ⟨rfl, HB4.out⟩
    | true =>
      have hbt : b = c2 := by rw [HBV.out]; rfl
      subst hbt
      obtain ⟨d0, d1, d2, d3, d4, d5, d6, dl⟩ : w4.cell? ⟨g2, 0, none⟩ = some (.int .i64 t.no) ∧ w4.cell? ⟨g2, 1, none⟩ = some (.int .i64 t.id) ∧ w4.cell? ⟨g2, 2, none⟩ = some (.int .i64 t.mn) ∧ w4.cell? ⟨g2, 3, none⟩ = some (.int .i64 t.cm) ∧ w4.cell? ⟨g2, 4, none⟩ = some (.int .i64 t.mx) ∧ w4.cell? ⟨g2, 5, none⟩ = some (.int .i64 t.cx) ∧ w4.cell? ⟨g2, 6, none⟩ = some (.slice sa rn sc) ∧ g2 < w4.heap.size :=
        ⟨HL4.out.cell rfl, HL4.out.cell rfl, HL4.out.cell rfl, HL4.out.cell rfl, HL4.out.cell rfl, HL4.out.cell rfl, HL4.out.cell rfl, HL4.out.lt⟩
      have hcon := ended_is_false w4 eb (some ⟨tt, 0, none⟩) T a 0 t HWFT.out.mx sa rn sc (HT.out.below HB4.out) HCE4.out b HC2.out
      have HCON := Lib.hid hcon
      clear hcon
      go_wp2_with fail
      refine HCON.out.mono ?_
      rintro e w5 ⟨rfl, hb5⟩
      have HB5 := Lib.hid (below_tr HB4.out hb5)
      clear d0 d1 d2 d3 d4 d5 d6 dl HCON hb5
      go_wp2_with fail
      go_ret
      exact ⟨rfl, HB5.out⟩

end Go.Proofs.Ytbgnbaogclnpgaa
