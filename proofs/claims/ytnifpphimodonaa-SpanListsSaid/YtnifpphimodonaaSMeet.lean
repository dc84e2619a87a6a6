/-
  Has, Common and Meets, of package span and the document's own.
-/
import Derived.Test.YtnifpphimodonaaSMay
namespace Go.Proofs.Ytnifpphimodonaa
open Go.RowKit

theorem has_is (v : Val) (x : Int) (b : Bool) (h : hasS v x = b) (w : World) :
    Calls Try.prog 16 #[.agg #[.int .u8 v.k, .int .i64 v.n, .int .i64 v.u, .string v.t], .int .i64 x] w fun e w' => e = .returned (.bool b) ∧ Below w.heap.size w w' := by
  obtain ⟨W, g, hW, hg, B0, hb0, hs⟩ := boxX w v
  obtain ⟨c, hc⟩ : ∃ c, okS v = c := ⟨_, rfl⟩
  obtain ⟨c1, hc1⟩ : ∃ c, decide (v.n ≤ x) = c := ⟨_, rfl⟩
  obtain ⟨c2, hc2⟩ : ∃ c, decide (x < v.u) = c := ⟨_, rfl⟩
  unfold hasS at h
  rw [hc, hc1, hc2] at h
  subst h
  have HC := Lib.hid hc
  have HB := Lib.hid hb0
  obtain ⟨b0, b1, b2, b3, b4⟩ := id B0
  clear hc hs hb0
  cases c
  · go_enter Try.func16, Try.ntmps16
    go_wp2_with fail
    refine (may_is v _ HC.out _).mono ?_
    rintro e w1 ⟨rfl, hb1⟩
    go_wp2_with fail
    go_ret
    exact ⟨rfl, below_tr HB.out hb1⟩
  · go_enter Try.func16, Try.ntmps16
    go_wp2_with fail
    refine (may_is v _ HC.out _).mono ?_
    rintro e w1 ⟨rfl, hb1⟩
    obtain ⟨d0, d1, d2, d3, d4⟩ := B0.below hb1
    have hw1 := below_tr HB.out hb1
    clear b0 b1 b2 b3 b4 hb1
    cases c1
    · have e1 : ¬ v.n ≤ x := by simpa using hc1
      go_wp2_with fail
      go_ret
      exact ⟨rfl, hw1⟩
    · have e1 : v.n ≤ x := by simpa using hc1
      cases c2
      · have e2 : ¬ x < v.u := by simpa using hc2
        go_wp2_with fail
        go_ret
        exact ⟨rfl, hw1⟩
      · have e2 : x < v.u := by simpa using hc2
        go_wp2_with fail
        go_ret
        exact ⟨rfl, hw1⟩

end Go.Proofs.Ytnifpphimodonaa
