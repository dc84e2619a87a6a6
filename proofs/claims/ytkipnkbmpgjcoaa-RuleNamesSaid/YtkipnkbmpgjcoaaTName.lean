/-
  Names (stage 8): rule.letter, rule.digit, rule.Name.
-/
import Derived.Test.YtkipnkbmpgjcoaaEMath
namespace Go.Proofs.Ytkipnkbmpgjcoaa
open Go.RowKit

def letB (c : Int) : Bool := decide (97 ≤ c) && decide (c ≤ 122)
def digB (c : Int) : Bool := decide (48 ≤ c) && decide (c ≤ 57)
def partB (c : Int) : Bool := letB c || (digB c || decide (c = 95))

/-- The byte at a place of a text. -/
def byteAt (s : ByteArray) (i : Nat) : Int := ((s.data.toList.getD i 0).toNat : Int)

theorem byteAt_get (s : ByteArray) (i : Nat) (h : i < s.size) : byteAt s i = (s[i].toNat : Int) := by
  unfold byteAt
  have h' : i < s.data.toList.length := h
  rw [List.getD_eq_getElem?_getD, List.getElem?_eq_getElem h', Option.getD_some]
  rfl

/-- Is a text a name? -/
def nameB (s : ByteArray) : Bool := decide (1 ≤ s.size) && (decide (s.size ≤ 32) && (letB (byteAt s 0) && allTo (fun i => partB (byteAt s i)) s.size))

set_option maxHeartbeats 400000 in
theorem letter_is (c : Int) (b : Bool) (h : letB c = b) (w : World) : Calls Try.prog 26 #[.int .u8 c] w fun e w' => e = .returned (.bool b) ∧ w = w' := by
  unfold letB at h
  by_cases h1 : 97 ≤ c
  · obtain ⟨d, hd⟩ : ∃ d, decide (c ≤ 122) = d := ⟨_, rfl⟩
    obtain rfl : d = b := by rw [← h, ← hd]; simp [h1]
    clear h
    go_enter Try.func26, Try.ntmps26
    go_wp2_with fail
    go_ret
    exact ⟨rfl, rfl⟩
  · obtain rfl : b = false := by rw [← h]; simp [h1]
    have h2 : decide (97 ≤ c) = false := by simpa using h1
    clear h
    go_enter Try.func26, Try.ntmps26
    go_wp2_with fail
    go_ret
    exact ⟨rfl, rfl⟩

set_option maxHeartbeats 400000 in
theorem digit_is (c : Int) (b : Bool) (h : digB c = b) (w : World) : Calls Try.prog 27 #[.int .u8 c] w fun e w' => e = .returned (.bool b) ∧ w = w' := by
  unfold digB at h
  by_cases h1 : 48 ≤ c
  · obtain ⟨d, hd⟩ : ∃ d, decide (c ≤ 57) = d := ⟨_, rfl⟩
    obtain rfl : d = b := by rw [← h, ← hd]; simp [h1]
    clear h
    go_enter Try.func27, Try.ntmps27
    go_wp2_with fail
    go_ret
    exact ⟨rfl, rfl⟩
  · obtain rfl : b = false := by rw [← h]; simp [h1]
    have h2 : decide (48 ≤ c) = false := by simpa using h1
    clear h
    go_enter Try.func27, Try.ntmps27
    go_wp2_with fail
    go_ret
    exact ⟨rfl, rfl⟩

theorem name_no1 (s : ByteArray) (h : ¬ 1 ≤ s.size) (w : World) : Calls Try.prog 11 #[.string s] w fun e w' => e = .returned (.bool false) ∧ w = w' := by
  have h1 : s.size = 0 := by omega
  go_enter Try.func11, Try.ntmps11
  go_wp2_with fail
  go_ret
  exact ⟨rfl, rfl⟩

theorem name_no2 (s : ByteArray) (h : 32 < s.size) (w : World) : Calls Try.prog 11 #[.string s] w fun e w' => e = .returned (.bool false) ∧ w = w' := by
  have h1 : ¬ ((s.size : Int) < 1) := by omega
  have h2 : (32 : Int) < (s.size : Int) := by omega
  go_enter Try.func11, Try.ntmps11
  go_wp2_with fail
  go_ret
  exact ⟨rfl, rfl⟩

set_option maxHeartbeats 400000 in
theorem name_no3 (s : ByteArray) (h0 : 0 < s.size) (h3 : s.size ≤ 32) (h : letB (byteAt s 0) = false) (w : World) : Calls Try.prog 11 #[.string s] w fun e w' => e = .returned (.bool false) ∧ w = w' := by
  have h1 : ¬ ((s.size : Int) < 1) := by omega
  have h2 : ¬ (32 : Int) < (s.size : Int) := by omega
  rw [byteAt_get s 0 h0] at h
  have HH := Lib.hid h
  clear h
  go_enter Try.func11, Try.ntmps11
  go_wp2_with fail
  refine (letter_is _ false HH.out _).mono ?_
  rintro e w1 ⟨rfl, rfl⟩
  go_wp2_with fail
  go_ret
  exact ⟨rfl, rfl⟩

set_option maxHeartbeats 1000000 in
theorem name_loop (s : ByteArray) (h0 : 0 < s.size) (h3 : s.size ≤ 32) (h : letB (byteAt s 0) = true) (b : Bool) (hb : allTo (fun i => partB (byteAt s i)) s.size = b) (w : World) : Calls Try.prog 11 #[.string s] w fun e w' => e = .returned (.bool b) ∧ w = w' := by
  have h1 : ¬ ((s.size : Int) < 1) := by omega
  have h2 : ¬ (32 : Int) < (s.size : Int) := by omega
  rw [byteAt_get s 0 h0] at h
  have HH := Lib.hid h
  have HB := Lib.hid hb
  clear h hb
  go_enter Try.func11, Try.ntmps11
  go_wp2_with fail
  refine (letter_is _ true HH.out _).mono ?_
  rintro e w1 ⟨rfl, rfl⟩
  go_wp2_with fail
  go_loopg [21] s.size (fun gk i wr => ∃ k : Nat, k ≤ s.size ∧ gk = s.size - k ∧ i = .int .i64 k ∧ Hid (∀ j, j < k → partB (byteAt s j) = true) ∧ w = wr)
  case atStart => exact ⟨0, Nat.zero_le _, by omega, rfl, Lib.hid (fun j hj => absurd hj (Nat.not_lt_zero _)), rfl⟩
  case round =>
    obtain ⟨k, hk, hgk, rfl, HA, rfl⟩ := hrel
    by_cases hlt : k < s.size
    · obtain ⟨c, hc⟩ : ∃ c : Int, (s[k].toNat : Int) = c := ⟨_, rfl⟩
      have HC : Hid (byteAt s k = c) := Lib.hid ((byteAt_get s k hlt).trans hc)
      have HG := Lib.hid hgk
      clear hgk
      obtain ⟨l, hl⟩ : ∃ l, letB c = l := ⟨_, rfl⟩
      have HL := Lib.hid hl
      clear hl
      go_wp2_with fail
      refine (letter_is _ l HL.out _).mono ?_
      rintro e w1 ⟨rfl, rfl⟩
      cases l
      · obtain ⟨d, hd⟩ : ∃ d, digB c = d := ⟨_, rfl⟩
        have HD := Lib.hid hd
        clear hd
        go_wp2_with fail
        refine (digit_is _ d HD.out _).mono ?_
        rintro e w1 ⟨rfl, rfl⟩
        cases d
        · by_cases h95 : c = 95
          · go_wp2_with fail
            go_roundg (s.size - (k + 1))
            case measure => have := HG.out; omega
            case rel =>
              refine ⟨k + 1, by omega, rfl, by go_num, Lib.hid fun j hj => ?_, rfl⟩
              rcases Nat.lt_succ_iff_lt_or_eq.1 hj with h | rfl
              · exact HA.out j h
              · rw [HC.out, h95]; decide
          · have hn : (c == 95) = false := by simpa using h95
            obtain rfl : b = false := by
              rw [← HB.out, ← Bool.not_eq_true, allTo_iff]
              intro h
              have := h k hlt
              rw [HC.out] at this
              simp [partB, HL.out, HD.out, h95] at this
            go_wp2_with fail
            go_ret
            exact ⟨rfl, rfl⟩
        · go_wp2_with fail
          go_roundg (s.size - (k + 1))
          case measure => have := HG.out; omega
          case rel =>
            refine ⟨k + 1, by omega, rfl, by go_num, Lib.hid fun j hj => ?_, rfl⟩
            rcases Nat.lt_succ_iff_lt_or_eq.1 hj with h | rfl
            · exact HA.out j h
            · rw [HC.out]; simp [partB, HD.out]
      · go_wp2_with fail
        go_roundg (s.size - (k + 1))
        case measure => have := HG.out; omega
        case rel =>
          refine ⟨k + 1, by omega, rfl, by go_num, Lib.hid fun j hj => ?_, rfl⟩
          rcases Nat.lt_succ_iff_lt_or_eq.1 hj with h | rfl
          · exact HA.out j h
          · rw [HC.out]; simp [partB, HL.out]
    · have hlt' : decide (k < s.size) = false := by simpa using hlt
      have HK : Hid (k = s.size) := Lib.hid (by omega)
      clear hgk
      obtain rfl : b = true := by
        rw [← HB.out, allTo_iff]
        intro i hi
        exact HA.out i (by rw [HK.out]; exact hi)
      go_wp2_with fail
      go_ret
      exact ⟨rfl, rfl⟩

theorem name_is (s : ByteArray) (b : Bool) (hb : nameB s = b) (w : World) : Calls Try.prog 11 #[.string s] w fun e w' => e = .returned (.bool b) ∧ w = w' := by
  unfold nameB at hb
  by_cases h1 : 1 ≤ s.size
  · by_cases h2 : s.size ≤ 32
    · cases h : letB (byteAt s 0)
      · obtain rfl : b = false := by rw [← hb, h]; simp
        exact name_no3 s (by omega) h2 h w
      · exact name_loop s (by omega) h2 h b (by rw [← hb, h]; simp [h1, h2]) w
    · obtain rfl : b = false := by rw [← hb]; simp [h2]
      exact name_no2 s (by omega) w
  · obtain rfl : b = false := by rw [← hb]; simp [h1]
    exact name_no1 s h1 w
end Go.Proofs.Ytkipnkbmpgjcoaa
