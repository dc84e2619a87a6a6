/-
  covenantref03.Size, and large: how many parts an expression has.
-/
import Derived.Test.YtflclkmhdngmaaaEBuild
import Derived.Deep.LoopGhost
namespace Go.Proofs.Ytflclkmhdngmaaa
open Go.RowKit

/-- What Size answers: the number of parts, but one more than most at most. -/
def sizeN (e : Ex) (most : Nat) : Nat := min e.sz (most + 1)

/-- What holds at the head of Size's loop. -/
def LoopS (w : World) (e : Ex) (g most gk : Nat) (n i : Value) (wr : World) : Prop :=
  ∃ k : Nat, k ≤ e.len ∧ gk = e.len - k ∧ i = .int .i64 k ∧ n = .int .i64 (min (1 + sumTo (fun i => (e.kid i).sz) k) (most + 1) : Nat) ∧ Below w.heap.size w wr ∧ BoxE wr g e

set_option maxRecDepth 100000 in
set_option maxHeartbeats 2000000 in
theorem size_is : ∀ (e : Ex) (most : Nat) (w : World), most ≤ 1000 → e.In w →
    Calls Try.prog 21 #[.agg #[.int .u8 e.op, .int .u8 e.v.k, .int .i64 e.v.n, .int .i64 e.v.u, .string e.v.t, .int .i64 e.m, .slice e.a e.len e.cap], .int .i64 most] w fun x w' => x = .returned (.int .i64 (sizeN e most)) ∧ Below w.heap.size w w' := by
  intro e
  induction e using Ex.ind with
  | h e ih =>
  intro most w hmost hin
  have IH := Lib.hid ih
  have HIN := Lib.hid hin
  obtain ⟨W1, g, hW1, hg, B1, hb1⟩ := boxE' w e
  have hm : e.len ≤ 9223372036854775807 := by have := hin.wf'.lc; have := hin.wf'.cm; unfold maxLen at this; omega
  have HB1 := Lib.hid hb1
  have HE1 := Lib.hid B1
  clear ih hin hb1 B1
  go_enter Try.func21, Try.ntmps21
  go_wp2_with fail
  go_loopg [5, 6] e.len (fun gk n i wr => LoopS w e g most gk n i wr)
  case atStart => exact ⟨0, Nat.zero_le _, by omega, rfl, by simp [sumTo], HB1.out, HE1.out⟩
  case round =>
    obtain ⟨k, hk, hgk, rfl, rfl, hb, hbox⟩ := hrel
    have HB := Lib.hid hb
    have HE := Lib.hid hbox
    have HGK := Lib.hid (And.intro hgk hk)
    obtain ⟨n, hn⟩ : ∃ n : Nat, min (1 + sumTo (fun i => (e.kid i).sz) k) (most + 1) = n := ⟨_, rfl⟩
    rw [hn]
    have HN := Lib.hid hn
    have hn0 : 1 ≤ n := by omega
    have hn1 : n ≤ most + 1 := by omega
    obtain ⟨e0, e1, e2, e3, e4, e5, e6, e7⟩ := hbox
    clear hgk hb hn hW1
    by_cases hlt : k < e.len
    · have hlt1 : decide (k < e.len) = true := by simpa using hlt
      by_cases hle : n ≤ most
      · have hle1 : decide (n ≤ most) = true := by simpa using hle
        obtain ⟨b, o, hea, hat⟩ := HIN.out.args (by omega)
        have hat' := (hat k hlt).below HB.out
        have hkin := (HIN.out.kid' hlt).below HB.out
        obtain ⟨m, hm2⟩ : ∃ m : Nat, most - n = m := ⟨_, rfl⟩
        have HI := Lib.hid (IH.out k hlt m wr (by omega) hkin)
        have HS : Hid (sumTo (fun i => (e.kid i).sz) (k + 1) = sumTo (fun i => (e.kid i).sz) k + (e.kid k).sz) := Lib.hid rfl
        obtain ⟨q, hq⟩ : ∃ q, e.kid k = q := ⟨_, rfl⟩
        rw [hq] at hat' HI HS
        have hsub : (most : Int) - (n : Int) = (m : Int) := by omega
        have HM := Lib.hid hm2
        have hm3 : m ≤ 1000 := by omega
        rw [hea] at e6
        obtain ⟨a0, a1, a2, a3, a4, a5, a6, a7⟩ := hat'
        clear hea hat hkin hq hm2
        go_wp2_with fail
        refine HI.out.mono ?_
        rintro _ w2 ⟨rfl, hb2⟩
        have HB2 := Lib.hid (below_tr HB.out hb2)
        have HE2 := Lib.hid (HE.out.below hb2)
        clear hb2 e0 e1 e2 e3 e4 e5 e6 e7 a0 a1 a2 a3 a4 a5 a6 a7 HI
        obtain ⟨s, hs⟩ : ∃ s : Nat, sizeN q m = s := ⟨_, rfl⟩
        rw [hs]
        have HSZ := Lib.hid hs
        have hs1 : s ≤ m + 1 := by rw [← hs]; exact Nat.min_le_right _ _
        clear hs
        go_wp2_with fail
        go_roundg (e.len - (k + 1))
        case measure => have := HGK.out.1; omega
        case rel =>
          refine ⟨k + 1, by omega, rfl, by go_num, ?_, HB2.out, HE2.out⟩
          have h1 := HN.out
          have h2 := HM.out
          have h3 := HSZ.out
          have h4 := HS.out
          unfold sizeN at h3
          have : min (1 + sumTo (fun i => (e.kid i).sz) (k + 1)) (most + 1) = n + s := by rw [h4]; omega
          rw [this]
          go_num
      · have hle2 : ¬ n ≤ most := hle
        have hN2 : n = most + 1 := by omega
        have HN2 := Lib.hid hN2
        have hle1 : decide (n ≤ most) = false := by simpa using hle
        clear hle hN2
        go_wp2_with fail
        go_ret
        refine ⟨?_, HB.out⟩
        have h1 := HN.out
        have h2 := HN2.out
        have h3 := sumTo_lt (f := fun i => (e.kid i).sz) hlt
        have : sizeN e most = n := by unfold sizeN; rw [Ex.sz_eq]; omega
        rw [this]
        rfl
    · have hke : k = e.len := by have := HGK.out.2; omega
      have HKE := Lib.hid hke
      have hlt1 : decide (k < e.len) = false := by simpa using hlt
      clear hke
      go_wp2_with fail
      go_ret
      refine ⟨?_, HB.out⟩
      have h1 := HN.out
      have : sizeN e most = n := by unfold sizeN; rw [Ex.sz_eq, ← HKE.out]; exact h1
      rw [this]
      rfl

theorem large_is (e : Ex) (w : World) (hin : e.In w) (b : Bool) (hb : decide (500 < e.sz) = b) : Calls Try.prog 9 #[.agg #[.int .u8 e.op, .int .u8 e.v.k, .int .i64 e.v.n, .int .i64 e.v.u, .string e.v.t, .int .i64 e.m, .slice e.a e.len e.cap]] w fun x w' => x = .returned (.bool b) ∧ Below w.heap.size w w' := by
  have hsz : decide ((500 : Int) < ((sizeN e 500 : Nat) : Int)) = b := by
    rw [← hb, decide_eq_decide]; unfold sizeN; omega
  obtain ⟨n, hn⟩ : ∃ n : Nat, sizeN e 500 = n := ⟨_, rfl⟩
  rw [hn] at hsz
  have HN := Lib.hid hn
  obtain ⟨W1, g, hW1, hg, B1, hb1⟩ := boxE' w e
  have HB1 := Lib.hid hb1
  have HIN := Lib.hid (hin.below hb1)
  obtain ⟨e0, e1, e2, e3, e4, e5, e6, e7⟩ := B1
  clear hb hb1 hin hn
  go_enter Try.func9, Try.ntmps9
  go_wp2_with fail
  refine (size_is e 500 _ (by omega) HIN.out).mono ?_
  rintro _ w2 ⟨rfl, hb2⟩
  rw [HN.out]
  have HB2 := Lib.hid (below_tr HB1.out hb2)
  clear hb2
  go_wp2_with fail
  go_ret
  exact ⟨rfl, HB2.out⟩
end Go.Proofs.Ytflclkmhdngmaaa
