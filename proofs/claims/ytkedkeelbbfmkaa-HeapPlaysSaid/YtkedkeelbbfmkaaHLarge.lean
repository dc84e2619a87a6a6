/-
  large (stage 11).
-/
import Derived.Test.YtkedkeelbbfmkaaHSteps
namespace Go.Proofs.Ytkedkeelbbfmkaa
open Go.RowKit
set_option linter.unusedVariables false

set_option maxRecDepth 100000 in
set_option maxHeartbeats 8000000 in
theorem large_is (w : World) (a : Option Addr) (c n : Nat) (l : List Stp) (hn : l.length = n) (hs : SlSt w a c l) :
    Calls Try.prog 26 #[.slice a n c] w fun e w' => ∃ v, e = .returned v ∧ (v = .bool true ∨ v = .bool false ∧ Fit l) ∧ w' = w := by
  have hbn : n ≤ 9223372036854775807 := by have := hs.lc; have := hs.cm; unfold maxLen at this; omega
  have HS := Lib.hid hs
  have HN := Lib.hid hn
  have HBN := Lib.hid hbn
  clear hs hn
  go_enter Try.func26, Try.ntmps26
  go_wp2_with fail
  go_loopg [3, 4] n (fun gg s3 s4 wr => ∃ (m : Int) (i : Nat), s3 = .int .i64 m ∧ s4 = .int .i64 i ∧ i ≤ n ∧ n - i ≤ gg ∧ 0 ≤ m ∧ Hid (m < 20000 → ∀ j s, j < i → l[j]? = some s → s.t.row.length ≤ 5000) ∧ wr = w)
  case atStart => exact ⟨0, 0, rfl, rfl, Nat.zero_le _, by omega, Int.le_refl _, Lib.hid (fun _ j s hj => absurd hj (Nat.not_lt_zero j)), rfl⟩
  case round =>
    obtain ⟨m, i, rfl, rfl, hin, hgg, hm0, HI, rfl⟩ := hrel
    by_cases hlt : i < n
    · have hltz : (i : Int) < (n : Int) := by omega
      have hi0 : (0 : Int) ≤ (i : Int) := by omega
      by_cases hm : m < 20000
      · obtain ⟨s, hs⟩ : ∃ s, l[i]? = some s := ⟨l[i]'(by rw [HN.out]; exact hlt), by simp⟩
        obtain ⟨b, o, rfl, ra, rc, hrow, hbl, hat⟩ := HS.out.get hs
        obtain ⟨rn, hrn⟩ : ∃ rn, s.t.row.length = rn := ⟨_, rfl⟩
        have hrb : rn ≤ 9223372036854775807 := by have e1 := hrow.lc; have e2 := hrow.cm; rw [hrn] at e1; unfold maxLen at e2; omega
        have HRB := Lib.hid hrb
        clear hrb
        have q7 := hat 7 _ rfl
        rw [hrn] at q7
        have hw10 : Hid (wrap64 (m + 10) = m + 10) := Lib.hid (wrOk (by omega))
        have HX := Lib.hid (And.intro hs (And.intro hrow (And.intro hrn (And.intro (HS.out.wf s (List.mem_of_getElem? hs)) (And.intro hin (And.intro hgg hlt))))))
        have HM0 := Lib.hid (And.intro hm0 hm)
        clear hs hrow hat hrn hin hgg hm0
        go_wp2_with fail
        go_loopg [3, 5] rn (fun gk s3 s5 wq => ∃ (m2 : Int) (k : Nat), s3 = .int .i64 m2 ∧ s5 = .int .i64 k ∧ k ≤ rn ∧ rn - k ≤ gk ∧ m ≤ m2 ∧ 4 * (k : Int) ≤ m2 ∧ wq = wr)
        case atStart => exact ⟨m + 10, 0, by rw [hw10.out], rfl, Nat.zero_le _, by omega, by omega, by have := HM0.out; omega, rfl⟩
        case round =>
          obtain ⟨m2, k, rfl, rfl, hkn, hgk, hmm, h4, rfl⟩ := hrel
          have HMM := Lib.hid (And.intro hmm h4)
          clear hmm h4
          by_cases hk : k < rn
          · have hkz : (k : Int) < (rn : Int) := by omega
            have hk0 : (0 : Int) ≤ (k : Int) := by omega
            by_cases hm2 : m2 < 20000
            · obtain ⟨x, hx⟩ : ∃ x, s.t.row[k]? = some x := ⟨s.t.row[k]'(by rw [HX.out.2.2.1]; exact hk), by simp⟩
              obtain ⟨rb, ro, rfl, hv⟩ := at_l HX.out.2.1 hx
              obtain ⟨v0, v1, v2, v3, v4⟩ := hv
              have hsz : x.t.size ≤ 140737488351232 := (HX.out.2.2.2.1.row x (List.mem_of_getElem? hx)).t
              have w1 : Hid (wrap64 (m2 + 4) = m2 + 4) := Lib.hid (wrOk (by have e1 := HM0.out; have e2 := HMM.out; omega))
              have w2 : Hid (wrap64 (m2 + 4 + (x.t.size : Int)) = m2 + 4 + (x.t.size : Int)) := Lib.hid (wrOk (by have e1 := HM0.out; have e2 := HMM.out; omega))
              have w3 : Hid (wrap64 ((k : Int) + 1) = (k : Int) + 1) := Lib.hid (wrOk (by have := HRB.out; omega))
              clear v0 v1 v2 hx
              go_wp2_with fail
              go_roundg (rn - (k + 1))
              case measure => omega
              case rel => exact ⟨m2 + 4 + (x.t.size : Int), k + 1, by first | (rw [w1.out, w2.out]) | (simp only [w1.out, w2.out]), by rw [w3.out]; rfl, by omega, Nat.le_refl _, by have e2 := HMM.out; omega, by have e2 := HMM.out; omega, rfl⟩
            · have w3 : Hid (wrap64 ((i : Int) + 1) = (i : Int) + 1) := Lib.hid (wrOk (by have e1 := HX.out.2.2.2.2.2.2; have e2 := HBN.out; omega))
              have HK := Lib.hid (And.intro hm2 (And.intro hkn hk))
              go_upto_region 4 with (fail)
              clear hw10 q7 hbl hm2 hkz hk0 hk hkn hgk hm hltz hi0 hlt
              go_wp2_with fail
              go_roundg (n - (i + 1))
              case measure => have e1 := HX.out.2.2.2.2.2; omega
              case rel => exact ⟨m2, i + 1, rfl, by rw [w3.out]; rfl, by have e1 := HX.out.2.2.2.2.2.2; omega, Nat.le_refl _, by have e1 := HM0.out; have e2 := HMM.out; omega, Lib.hid (fun h => absurd h (by have e5 := HK.out.1; omega)), rfl⟩
          · have hkz : ¬ (k : Int) < (rn : Int) := by omega
            have w3 : Hid (wrap64 ((i : Int) + 1) = (i : Int) + 1) := Lib.hid (wrOk (by have e1 := HX.out.2.2.2.2.2.2; have e2 := HBN.out; omega))
            have HK := Lib.hid (And.intro hkn hk)
            go_upto_region 4 with (fail)
            clear hw10 q7 hbl hkz hk hkn hgk hm hltz hi0 hlt
            go_wp2_with fail
            go_roundg (n - (i + 1))
            case measure => have e1 := HX.out.2.2.2.2.2; omega
            case rel =>
              refine ⟨m2, i + 1, rfl, by rw [w3.out]; rfl, by have e1 := HX.out.2.2.2.2.2.2; omega, Nat.le_refl _, by have e1 := HM0.out; have e2 := HMM.out; omega, Lib.hid (fun h j s2 hj hs2 => ?_), rfl⟩
              by_cases e : j = i
              · subst e
                rw [HX.out.1] at hs2
                rw [← Option.some.inj hs2, HX.out.2.2.1]
                have e2 := HMM.out
                have e3 := HK.out
                omega
              · exact HI.out (by have e2 := HMM.out; omega) j s2 (by omega) hs2
      · have hge : (20000 : Int) ≤ m := by omega
        go_wp2_with fail
        go_ret
        exact ⟨_, rfl, .inl rfl, rfl⟩
    · have hltz : ¬ (i : Int) < (n : Int) := by omega
      by_cases hm : m < 20000
      · have hge : ¬ (20000 : Int) ≤ m := by omega
        have hfit : Hid (n ≤ 120 → Fit l) := Lib.hid (fun h => ⟨by rw [HN.out]; exact h, fun s hs => by
          obtain ⟨j, hj, e⟩ := List.mem_iff_getElem.1 hs
          exact HI.out hm j s (by have := HN.out; omega) (by rw [List.getElem?_eq_getElem hj, e])⟩)
        by_cases h120 : n ≤ 120
        · have hg : ¬ (120 : Int) < (n : Int) := by omega
          go_wp2_with fail
          go_ret
          exact ⟨_, rfl, .inr ⟨by first | rfl | simp [hg], hfit.out h120⟩, rfl⟩
        · have hg : (120 : Int) < (n : Int) := by omega
          go_wp2_with fail
          go_ret
          exact ⟨_, rfl, .inl (by first | rfl | simp [hg]), rfl⟩
      · have hge : (20000 : Int) ≤ m := by omega
        go_wp2_with fail
        go_ret
        exact ⟨_, rfl, .inl rfl, rfl⟩

end Go.Proofs.Ytkedkeelbbfmkaa
