/-
  The law ValueParses as a walk over this translation: it answers true, and of what was there nothing has turned.
-/
import Derived.Test.YtpnnkgjgkcgagaaDoorVRParse
namespace Go.Proofs.YtpnnkgjgkcgagaaDoor
open Go.RowKit

set_option maxHeartbeats 1000000 in
theorem parses_big (s : ByteArray) (hz : s.size ≤ 140737488351232) (hl : 2000 < s.size) (w : World) :
    Calls Tryd.prog 5 #[.string s] w fun e w' => e = .returned (.bool true) ∧ Below w.heap.size w w' := by
  have hd : decide (2000 < (s.size : Int)) = true := by simp; omega
  go_enter Tryd.func5, Tryd.ntmps5
  go_wp2_with fail
  go_ret
  exact ⟨rfl, Below.refl _ _⟩

set_option maxRecDepth 100000 in
set_option maxHeartbeats 4000000 in
theorem parses_small (s : ByteArray) (hl : s.size ≤ 2000) (w : World) (hg : Good w) :
    Calls Tryd.prog 5 #[.string s] w fun e w' => e = .returned (.bool true) ∧ Below w.heap.size w w' := by
  obtain ⟨R, hR⟩ : ∃ R, parseR s.data.toList = R := ⟨_, rfl⟩
  have HR := Lib.hid hR
  clear hR
  have hd : decide (2000 < (s.size : Int)) = false := by simp; omega
  go_enter Tryd.func5, Tryd.ntmps5
  go_wp2_with fail
  refine (parse_any s (by omega) _ hg).mono ?_
  rintro e w1 ⟨rfl, hb1⟩
  rw [HR.out]
  obtain ⟨T, hT⟩ : ∃ T : ByteArray, ⟨R.t.toArray⟩ = T := ⟨_, rfl⟩
  obtain ⟨c, hc⟩ : ∃ c : Int, (if R.ok = true then 0 else 4) = c := ⟨_, rfl⟩
  unfold paV
  rw [hT, hc]
  have OA := Own.new w1 R.k R.n R.hi T 26
  have hb2 := below_tr hb1 (Below.allocs w1 (.cells #[.int .u8 R.k, .int .i64 R.n, .int .i64 R.hi, .string T] 26))
  go_wp2_with fail
  refine (rparse_any s hl _).mono ?_
  rintro e w2 ⟨rfl, hb3⟩
  rw [HR.out]
  unfold paV
  rw [hT, hc]
  have OA2 := OA.below hb3
  have hb4 := below_tr hb2 hb3
  obtain ⟨c0, c1, c2, c3, c4, f0⟩ := OA2
  go_wp2_with fail
  go_ret
  exact ⟨by simp, hb4.alloc (by have := hb4.size; omega) _⟩

theorem parses_any (s : ByteArray) (hz : s.size ≤ 140737488351232) (w : World) (hg : Good w) :
    Calls Tryd.prog 5 #[.string s] w fun e w' => e = .returned (.bool true) ∧ Below w.heap.size w w' := by
  by_cases hl : s.size ≤ 2000
  · exact parses_small s hl w hg
  · exact parses_big s hz (by omega) w
end Go.Proofs.YtpnnkgjgkcgagaaDoor
