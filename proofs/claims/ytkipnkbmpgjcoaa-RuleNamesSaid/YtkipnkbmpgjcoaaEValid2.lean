/-
  The closure that calls itself in expr.valid.
-/
import Derived.Test.YtkipnkbmpgjcoaaEValid
import Derived.Outline
namespace Go.Proofs.Ytkipnkbmpgjcoaa
open Go.RowKit

/-- What holds at the head of the loop over the Args. -/
def LoopV (W0 W : World) (gs gh gm : Nat) (f : FuncId) (cap : Array Value) (has : Int → Bool) (e : Ex) (c l : Int) (gk : Nat) (i : Value) (wr : World) : Prop :=
  ∃ k : Nat, k ≤ e.len ∧ gk = e.len - k ∧ i = .int .i64 k ∧ But gs W wr ∧ St wr gs gh gm (c + 1 + sumTo (fun i => (e.kid i).sz) k) f cap ∧ Below W0.heap.size W0 wr ∧
    c + 1 + sumTo (fun i => (e.kid i).sz) k ≤ 64 ∧ ∀ j, j < k → ∃ c', mayR has c' (l + 1) (e.kid j) = true

set_option maxRecDepth 100000 in
set_option maxHeartbeats 2000000 in
theorem valid_rec (f : FuncId) (cap : Array Value) (has : Int → Bool) (gs gh gm : Nat) (W0 : World) (hh : HasC W0 f cap has) (h0 : W0.heap.size ≤ gs) :
    ∀ (e : Ex), e.In W0 → ∀ (c l : Int) (W : World), Below W0.heap.size W0 W → St W gs gh gm c f cap → 0 ≤ c → c ≤ 64 → 1 ≤ l → l ≤ 17 →
      Calls Try.prog 92 #[.agg #[.int .u8 e.op, .int .u8 e.v.k, .int .i64 e.v.n, .int .i64 e.v.u, .string e.v.t, .int .i64 e.m, .slice e.a e.len e.cap], .int .i64 l, .pointer (some ⟨gs, 0, none⟩), .pointer (some ⟨gh, 0, none⟩), .pointer (some ⟨gm, 0, none⟩)] W
        fun x W' => x = .returned (.bool (mayR has c l e)) ∧ Behind gs gh gm f cap W (mayR has c l e) (c + e.sz) W' := by
  intro e
  induction e using Ex.ind with
  | h e ih =>
  intro hin c l W hW hst c0 c1 l1 l2
  have HH := Lib.hid hh
  have H0 := Lib.hid h0
  have HIN := Lib.hid hin
  have IH := Lib.hid ih
  clear hh h0 hin ih
  obtain ⟨W1, g, hW1, hg, B1, hb1, hs1⟩ := boxE W e
  have S1 := hst.below hb1
  have hb01 := hW.trans (hb1.mono hW.size)
  have hne : g ≠ gs := by have := hst.ls; omega
  have HS := Lib.hid hs1
  have HG := Lib.hid hg
  have HST := Lib.hid hst
  clear hs1 hst
  have S2 := S1.set (c + 1)
  have hbt2 := But.set (g := gs) W1 (.int .i64 (c + 1))
  have B2 := B1.but hbt2 hne
  obtain ⟨s1, s2, s3, s4, s5, s6, s7, s8, s9⟩ := S1
  have hbut := (But.of (g := gs) hb1).trans hbt2
  have HST2 := Lib.hid S2
  clear S2
  by_cases hc : 64 < c + 1
  · rw [mayR_big hc]
    have HB := Lib.hid hbut
    have HB2 := Lib.hid hbt2
    clear hbut hbt2
    go_enter Try.func92, Try.ntmps92
    go_wp2_with fail
    go_ret
    exact ⟨rfl, HB.out, _, HST2.out, fun h => by cases h⟩
  by_cases hl : 16 < l
  · rw [mayR_deep hl]
    have HB := Lib.hid hbut
    have HB2 := Lib.hid hbt2
    clear hbut hbt2
    go_enter Try.func92, Try.ntmps92
    go_wp2_with fail
    go_ret
    exact ⟨rfl, HB.out, _, HST2.out, fun h => by cases h⟩
  obtain ⟨b, hb⟩ : ∃ b, formedB mayV has e = b := ⟨_, rfl⟩
  have HFB := Lib.hid hb
  clear hb
  obtain ⟨W2, hW2⟩ : ∃ W2, W1.setCell ⟨gs, 0, none⟩ (.int .i64 (c + 1)) = W2 := ⟨_, rfl⟩
  rw [hW2] at B2 hbt2 hbut HST2
  have hb02 : Below W0.heap.size W0 W2 := hW.trans (hbut.below H0.out hW.size)
  have HB02 := Lib.hid hb02
  have HBUT := Lib.hid hbut
  have HW0 := Lib.hid hW
  clear hb02 hbut hbt2 hb01 hW hb1
  obtain ⟨t1, t2, t3, t4, t5, t6, t7, t8, t9⟩ := HST2.out
  have B2' := B2
  obtain ⟨e0, e1, e2, e3, e4, e5, e6, e7⟩ := B2'
  go_enter Try.func92, Try.ntmps92
  go_wp2_with fail
  refine (formed_is e f cap has _ HIN.out.wf'.m (HH.out.below HB02.out) b HFB.out).mono ?_
  rintro x W3 ⟨rfl, hb3⟩
  have B3 := B2.below hb3
  have HST3 := Lib.hid (HST2.out.below hb3)
  have HB03 := Lib.hid (HB02.out.trans (hb3.mono HB02.out.size))
  have HBUT3 := Lib.hid (HBUT.out.trans (But.of hb3))
  clear hb3 B2 e0 e1 e2 e3 e4 e5 e6 e7 t1 t2 t3 t4 t5 t6 t7 t8 t9 HST2 HB02 HBUT
  cases b
  · go_wp2_with fail
    go_ret
    rw [mayR_form HFB.out]
    exact ⟨rfl, HBUT3.out, _, HST3.out, fun h => by cases h⟩
  have B3' := B3
  obtain ⟨e0, e1, e2, e3, e4, e5, e6, e7⟩ := B3'
  go_wp2_with fail
  have HST3' := HST3.out
  clear e0 e1 e2 e3 e4 e5 e6 e7 hW1 hW2 s1 s2 s3 s4 s5 s6 s7 B1
  by_cases hl0 : e.len = 0
  · go_loopg [27] e.len (fun gk i wr => LoopV W0 W gs gh gm f cap has e c l gk i wr)
    case atStart => exact ⟨0, Nat.zero_le _, by omega, rfl, HBUT3.out, by simpa [sumTo] using HST3.out, HB03.out, by simp [sumTo]; omega, fun j hj => absurd hj (Nat.not_lt_zero _)⟩
    case round =>
      obtain ⟨k, hk, hgk, rfl, hbut, hst, hb0, hc64, hall⟩ := hrel
      have H := Lib.hid (And.intro hk (And.intro hbut (And.intro hst (And.intro hc64 hall))))
      have hlt : decide (k < e.len) = false := by simp; omega
      have HL := Lib.hid hl0
      clear hk hgk hbut hst hb0 hc64 hall hl0
      go_wp2_with fail
      go_ret
      obtain ⟨hk, hbut, hst, hc64, hall⟩ := H.out
      have hk0 : k = e.len := by have := HL.out; omega
      rw [mayR_all (by rw [← hk0]; exact hc64) (by omega) HFB.out (fun j hj => hall j (by omega))]
      refine ⟨rfl, hbut, _, hst, fun _ => ?_⟩
      rw [Ex.sz_eq, hk0]
      omega
  obtain ⟨b, o, hA, hAt⟩ := HIN.out.args (by omega)
  rw [hA]
  have HL := Lib.hid hl0
  have HA := Lib.hid hA
  have HAT := Lib.hid hAt
  clear hl0 hA hAt B3
  go_loopg [27] e.len (fun gk i wr => LoopV W0 W gs gh gm f cap has e c l gk i wr)
  case atStart => exact ⟨0, Nat.zero_le _, by omega, rfl, HBUT3.out, by simpa [sumTo] using HST3.out, HB03.out, by simp [sumTo]; omega, fun j hj => absurd hj (Nat.not_lt_zero _)⟩
  case round =>
    obtain ⟨k, hk, hgk, rfl, hbut, hst, hb0, hc64, hall⟩ := hrel
    obtain ⟨d, hd⟩ : ∃ d : Int, c + 1 + sumTo (fun i => (e.kid i).sz) k = d := ⟨_, rfl⟩
    rw [hd] at hst hc64
    have hd0 : 0 ≤ d := by omega
    have HD := Lib.hid hd
    clear hd
    by_cases hlt : k < e.len
    · have hat := (HAT.out k hlt).below hb0
      have hkin := HIN.out.kid' hlt
      have ihk := IH.out k hlt hkin d (l + 1)
      have hbad := mayR_kid (has := has) (c := c) (l := l) hlt
      rw [HD.out] at hbad
      have hsum : sumTo (fun i => (e.kid i).sz) (k + 1) = sumTo (fun i => (e.kid i).sz) k + (e.kid k).sz := rfl
      obtain ⟨q, hq⟩ : ∃ q, e.kid k = q := ⟨_, rfl⟩
      rw [hq] at hat ihk hbad hsum
      have HQ := Lib.hid (And.intro hq (And.intro hbad hsum))
      obtain ⟨V, g2, hV, hg2, BV, hbV, hsV⟩ := boxE wr q
      have hstV := hst.below hbV
      have hb0V := hb0.trans (hbV.mono hb0.size)
      have HBV := Lib.hid (And.intro hb0V (hbut.trans (But.of hbV)))
      have HI := Lib.hid (ihk V hb0V hstV hd0 hc64 (by omega) (by omega))
      have HALL := Lib.hid hall
      have HGK := Lib.hid (And.intro hgk hlt)
      have hm : e.len ≤ 9223372036854775807 := by have := HIN.out.wf'.lc; have := HIN.out.wf'.cm; unfold maxLen at this; omega
      clear hq hbad hsum ihk hb0V hb0 hbut hst hsV hbV hall hkin hgk hk
      obtain ⟨a0, a1, a2, a3, a4, a5, a6, a7⟩ := hat
      obtain ⟨t1, t2, t3, t4, t5, t6, t7, t8, t9⟩ := hstV
      obtain ⟨e0, e1, e2, e3, e4, e5, e6, e7⟩ := BV
      go_wp2_with fail
      refine HI.out.mono ?_
      clear a0 a1 a2 a3 a4 a5 a6 a7 t1 t2 t3 t4 t5 t6 t7 t8 t9 e0 e1 e2 e3 e4 e5 e6 e7 hV HI
      rintro x W5 ⟨rfl, hbut5, c', hst5, hc5⟩
      have HBUT5 := Lib.hid (And.intro (HBV.out.2.trans hbut5) (And.intro hst5 hc5))
      have HB05 := Lib.hid (HBV.out.1.trans (hbut5.below H0.out HBV.out.1.size))
      clear hbut5 hst5 hc5 HBV
      obtain ⟨r, hr⟩ : ∃ r, mayR has d (l + 1) q = r := ⟨_, rfl⟩
      rw [hr] at HBUT5 ⊢
      have HR := Lib.hid hr
      clear hr
      cases r
      · go_wp2_with fail
        go_ret
        rw [HQ.out.2.1 HR.out]
        exact ⟨rfl, HBUT5.out.1, c', HBUT5.out.2.1, fun h => by cases h⟩
      · go_wp2_with fail
        go_roundg (e.len - (k + 1))
        case measure => have := HGK.out; omega
        case rel =>
          have hlt2 := HGK.out.2
          obtain ⟨hbut5, hst5, hc5⟩ := HBUT5.out
          have hc' : c + 1 + sumTo (fun i => (e.kid i).sz) (k + 1) = c' := by rw [HQ.out.2.2, hc5 trivial, ← HD.out]; omega
          have hle : c' ≤ 64 := by
            have := HR.out
            simp only [mayR, Bool.and_eq_true, decide_eq_true_eq] at this
            have := this.1
            rw [hc5 trivial]; exact this
          refine ⟨k + 1, by omega, rfl, by go_num, hbut5, by rw [hc']; exact hst5, HB05.out, by rw [hc']; exact hle, fun j hj => ?_⟩
          rcases Nat.lt_succ_iff_lt_or_eq.1 hj with h | rfl
          · exact HALL.out j h
          · exact ⟨d, by rw [HQ.out.1]; exact HR.out⟩
    · have H := Lib.hid (And.intro hbut (And.intro hst (And.intro hc64 hall)))
      have hk0 : k = e.len := by omega
      have HK := Lib.hid hk0
      have hlt' : decide (k < e.len) = false := by simpa using hlt
      clear hk hgk hbut hst hb0 hc64 hall hk0 hlt
      go_wp2_with fail
      go_ret
      obtain ⟨hbut, hst, hc64, hall⟩ := H.out
      rw [mayR_all (by rw [← HK.out, HD.out]; exact hc64) (by omega) HFB.out (fun j hj => hall j (by rw [HK.out]; exact hj))]
      refine ⟨rfl, hbut, _, hst, fun _ => ?_⟩
      rw [Ex.sz_eq, ← HK.out, ← HD.out]
      omega
end Go.Proofs.Ytkipnkbmpgjcoaa
