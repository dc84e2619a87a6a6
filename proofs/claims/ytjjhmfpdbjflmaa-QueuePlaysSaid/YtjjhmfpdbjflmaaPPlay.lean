/-
  Steps, done to a lock (stage 14).
-/
import Derived.Test.YtjjhmfpdbjflmaaPLaw
namespace Go.Proofs.Ytjjhmfpdbjflmaa
open Go.RowKit
set_option linter.unusedVariables false

set_option maxRecDepth 100000 in
set_option maxHeartbeats 8000000 in
theorem play_q {X : Nat → Prop} {N : Nat} {w : World} {h z : Nat} {A : Lk} (a : Option Addr) (n c : Nat) (l : List Stp) (hln : l.length = n) (hz : z + n ≤ 50000) (hs : ∀ W', Touch (QF X N) w W' → SlSt W' a c l) (H : Qu X N w h z A) :
    Calls Try.prog 25 #[.pointer (some ⟨h, 0, none⟩), .slice a n c] w fun e w' => e = .returned (.bool true) ∧ Qu X N w' h (z + n) (A.play l) ∧ Touch (QF X N) w w' := by
  have mixed : Try.prog.follows Departure.mixedOrders = true := by kernel_rfl
  have HS := Lib.hid hs
  have HLN := Lib.hid hln
  have HZ := Lib.hid hz
  have HQ0 := Lib.hid H
  clear hs hln hz H
  go_enter Try.func25, Try.ntmps25
  go_wp2_with fail
  go_loopg [5] n (fun gg s5 wr => ∃ (i : Nat), s5 = .int .i64 i ∧ i ≤ n ∧ n - i ≤ gg ∧ Hid (Qu X N wr h (z + i) (A.play (l.take i)) ∧ Touch (QF X N) w wr))
  case atStart => exact ⟨0, rfl, Nat.zero_le _, by omega, Lib.hid ⟨HQ0.out, Touch.refl _ _⟩⟩
  case round =>
    obtain ⟨i, rfl, hi, hgg, HQ⟩ := hrel
    by_cases hlt : i < n
    · have hltz : (i : Int) < (n : Int) := by omega
      obtain ⟨st, b, o, hst, ea, hwf, hbl, q0, q1, q2⟩ := (HS.out _ HQ.out.2).get (i := i) (by rw [HLN.out]; exact hlt)
      subst ea
      have hlc := (HS.out _ HQ.out.2).lc
      have hcm := (HS.out _ HQ.out.2).cm
      obtain ⟨y, m, d⟩ := st
      have q0 : wr.cell? ⟨b, o + i * 3, none⟩ = some (.int .i64 y) := q0
      have q1 : wr.cell? ⟨b, o + i * 3 + 1, none⟩ = some (.int .u8 m) := q1
      have q2 : wr.cell? ⟨b, o + i * 3 + 2, none⟩ = some (.bool d) := q2
      have HST := Lib.hid (And.intro hst hwf)
      have HLT := Lib.hid (And.intro hlt (And.intro hi hgg))
      have hnc : n ≤ c := by rw [← HLN.out]; exact hlc
      have hwr : wrap64 ((i : Int) + 1) = (i : Int) + 1 := wrOk (by unfold maxLen at hcm; omega)
      clear hst hwf hi hgg hlc
      cases d with
      | true =>
        have HC := Lib.hid (drop_q y HST.out.2.who (by have := HZ.out; have := HLT.out; omega) HQ.out.1)
        go_wp2_with fail
        refine HC.out.mono ?_
        rintro e w2 ⟨v, rfl, -, -, h2, ht2⟩
        have HE : Hid (Qu X N w2 h (z + (i + 1)) (A.play (l.take (i + 1))) ∧ Touch (QF X N) w w2) := Lib.hid ⟨by rw [play_take HST.out.1]; exact h2.mono (by omega), HQ.out.2.trans ht2 (fun _ _ h => h)⟩
        clear h2 ht2 HC q0 q1 q2 HQ
        go_wp2_with fail
        go_roundg (n - (i + 1))
        case measure => have := HLT.out; omega
        case rel => exact ⟨i + 1, by go_num, by have := HLT.out; omega, Nat.le_refl _, HE⟩
      | false =>
        have HC := Lib.hid (ask_q (w := wr.drew) y m HST.out.2.who HST.out.2.mode (by have := HZ.out; have := HLT.out; omega) (HQ.out.1.below (below_drw wr)))
        have p0 : wr.drew.cell? ⟨b, o + i * 3, none⟩ = some (.int .i64 y) := q0
        have p1 : wr.drew.cell? ⟨b, o + i * 3 + 1, none⟩ = some (.int .u8 m) := q1
        go_upto_region 6 with (fail)
        refine wp_region_noPanic ?_
        refine wp_region_held_drew (S := fun W => W.cell? ⟨b, o + i * 3, none⟩ = some (.int .i64 y) ∧ W.cell? ⟨b, o + i * 3 + 1, none⟩ = some (.int .u8 m)) mixed (⟨p0, p1⟩) (fun hS0 => ?_)
        have HS0 := Lib.hid hS0
        clear hS0
        show wpAnyH _ _ _ _ _ 12 _ _ _
        refine wpAnyH_take (i := 0) (oi := _) (v := .pointer (some ⟨h, 0, none⟩)) rfl (by kernel_rfl) (by kernel_rfl) (by kernel_rfl) (fun _ _ _ h => h) (Or.inl ⟨by rfl, fun w' hw' => ?_⟩) (HS0.out) ?_
        · obtain ⟨j0, j1⟩ := hw'
          go_simp
          try first | with_reducible rfl | simp
        simp only [List.getElem_toArray, List.getElem_cons_zero, Act.put, List.setIfInBounds_toArray, List.set_cons_zero, List.set_cons_succ]
        refine wpAnyH_take (i := 1) (oi := _) (v := .slice (some ⟨b, o, none⟩) n c) rfl (by kernel_rfl) (by kernel_rfl) (by kernel_rfl) (fun _ _ _ h => h) (Or.inl ⟨by rfl, fun w' hw' => ?_⟩) (HS0.out) ?_
        · obtain ⟨j0, j1⟩ := hw'
          go_simp
          try first | with_reducible rfl | simp
        simp only [List.getElem_toArray, List.getElem_cons_succ, List.getElem_cons_zero, Act.put, List.setIfInBounds_toArray, List.set_cons_zero, List.set_cons_succ]
        refine wpAnyH_take (i := 2) (oi := _) (v := .int .i64 i) rfl (by kernel_rfl) (by kernel_rfl) (by kernel_rfl) (fun _ _ _ h => h) (Or.inl ⟨by rfl, fun w' hw' => ?_⟩) (HS0.out) ?_
        · obtain ⟨j0, j1⟩ := hw'
          go_simp
          try first | with_reducible rfl | simp
        simp only [List.getElem_toArray, List.getElem_cons_succ, List.getElem_cons_zero, Act.put, List.setIfInBounds_toArray, List.set_cons_zero, List.set_cons_succ]
        refine wpAnyH_take (i := 3) (oi := _) (v := .pointer (some ⟨b, o + i * 3, none⟩)) rfl (by kernel_rfl) (by kernel_rfl) (by kernel_rfl) (fun _ _ _ h => h) (Or.inl ⟨by rfl, fun w' hw' => ?_⟩) (HS0.out) ?_
        · obtain ⟨j0, j1⟩ := hw'
          go_simp
          try first | with_reducible rfl | simp
        simp only [List.getElem_toArray, List.getElem_cons_succ, List.getElem_cons_zero, Act.put, List.setIfInBounds_toArray, List.set_cons_zero, List.set_cons_succ]
        refine wpAnyH_take (i := 4) (oi := _) (v := .pointer (some ⟨b, o + i * 3, none⟩)) rfl (by kernel_rfl) (by kernel_rfl) (by kernel_rfl) (fun _ _ _ h => h) (Or.inl ⟨by rfl, fun w' hw' => ?_⟩) (HS0.out) ?_
        · obtain ⟨j0, j1⟩ := hw'
          go_simp
          try first | with_reducible rfl | simp
        simp only [List.getElem_toArray, List.getElem_cons_succ, List.getElem_cons_zero, Act.put, List.setIfInBounds_toArray, List.set_cons_zero, List.set_cons_succ]
        refine wpAnyH_take (i := 5) (oi := _) (v := .int .i64 y) rfl (by kernel_rfl) (by kernel_rfl) (by kernel_rfl) (fun _ _ _ h => h) (Or.inl ⟨by rfl, fun w' hw' => ?_⟩) (HS0.out) ?_
        · obtain ⟨j0, j1⟩ := hw'
          go_simp
          try first | with_reducible rfl | simp
        simp only [List.getElem_toArray, List.getElem_cons_succ, List.getElem_cons_zero, Act.put, List.setIfInBounds_toArray, List.set_cons_zero, List.set_cons_succ]
        refine wpAnyH_take (i := 6) (oi := _) (v := .slice (some ⟨b, o, none⟩) n c) rfl (by kernel_rfl) (by kernel_rfl) (by kernel_rfl) (fun _ _ _ h => h) (Or.inl ⟨by rfl, fun w' hw' => ?_⟩) (HS0.out) ?_
        · obtain ⟨j0, j1⟩ := hw'
          go_simp
          try first | with_reducible rfl | simp
        simp only [List.getElem_toArray, List.getElem_cons_succ, List.getElem_cons_zero, Act.put, List.setIfInBounds_toArray, List.set_cons_zero, List.set_cons_succ]
        refine wpAnyH_take (i := 7) (oi := _) (v := .int .i64 i) rfl (by kernel_rfl) (by kernel_rfl) (by kernel_rfl) (fun _ _ _ h => h) (Or.inl ⟨by rfl, fun w' hw' => ?_⟩) (HS0.out) ?_
        · obtain ⟨j0, j1⟩ := hw'
          go_simp
          try first | with_reducible rfl | simp
        simp only [List.getElem_toArray, List.getElem_cons_succ, List.getElem_cons_zero, Act.put, List.setIfInBounds_toArray, List.set_cons_zero, List.set_cons_succ]
        refine wpAnyH_take (i := 8) (oi := _) (v := .pointer (some ⟨b, o + i * 3, none⟩)) rfl (by kernel_rfl) (by kernel_rfl) (by kernel_rfl) (fun _ _ _ h => h) (Or.inl ⟨by rfl, fun w' hw' => ?_⟩) (HS0.out) ?_
        · obtain ⟨j0, j1⟩ := hw'
          go_simp
          try first | with_reducible rfl | simp
        simp only [List.getElem_toArray, List.getElem_cons_succ, List.getElem_cons_zero, Act.put, List.setIfInBounds_toArray, List.set_cons_zero, List.set_cons_succ]
        refine wpAnyH_take (i := 9) (oi := _) (v := .pointer (some ⟨b, o + i * 3 + 1, none⟩)) rfl (by kernel_rfl) (by kernel_rfl) (by kernel_rfl) (fun _ _ _ h => h) (Or.inl ⟨by rfl, fun w' hw' => ?_⟩) (HS0.out) ?_
        · obtain ⟨j0, j1⟩ := hw'
          go_simp
          try first | with_reducible rfl | simp
        simp only [List.getElem_toArray, List.getElem_cons_succ, List.getElem_cons_zero, Act.put, List.setIfInBounds_toArray, List.set_cons_zero, List.set_cons_succ]
        refine wpAnyH_take (i := 10) (oi := _) (v := .int .u8 m) rfl (by kernel_rfl) (by kernel_rfl) (by kernel_rfl) (fun _ _ _ h => h) (Or.inl ⟨by rfl, fun w' hw' => ?_⟩) (HS0.out) ?_
        · obtain ⟨j0, j1⟩ := hw'
          go_simp
          try first | with_reducible rfl | simp
        simp only [List.getElem_toArray, List.getElem_cons_succ, List.getElem_cons_zero, Act.put, List.setIfInBounds_toArray, List.set_cons_zero, List.set_cons_succ]
        refine RX.anyH_call (i := 11) (f := 16) (args := #[.pointer (some ⟨h, 0, none⟩), .int .i64 y, .int .u8 m]) (by kernel_rfl) rfl (by rfl) (by go_simp) ?_
        refine (show Calls Try.prog _ _ _ _ from HC.out).mono ?_
        rintro e w2 ⟨rfl, h2, ht2⟩
        have HE : Hid (Qu X N w2 h (z + (i + 1)) (A.play (l.take (i + 1))) ∧ Touch (QF X N) w w2) := Lib.hid ⟨by rw [play_take HST.out.1]; exact h2, (HQ.out.2.trans (Touch.of_below (below_drw wr)) (fun _ _ h => h)).trans ht2 (fun _ _ h => h)⟩
        have HS2 : Hid (w2.cell? ⟨b, o + i * 3, none⟩ = some (.int .i64 y) ∧ w2.cell? ⟨b, o + i * 3 + 1, none⟩ = some (.int .u8 m)) := Lib.hid (by
          obtain ⟨st, b', o', hst, ea, hwf, hbl, q0, q1, q2⟩ := (HS.out _ HE.out.2).get (i := i) (by rw [HLN.out]; exact hlt)
          cases ea
          rw [HST.out.1] at hst
          cases hst
          exact ⟨q0, q1⟩)
        clear h2 ht2 HC q0 q1 q2 p0 p1 HQ
        refine ⟨.tuple #[.bool ((A.play (l.take i)).askB y m), .int .i64 ((A.play (l.take i)).askE y m)], rfl, HS2.out, ?_⟩
        simp only [List.getElem_toArray, List.getElem_cons_succ, List.getElem_cons_zero, Act.put, List.setIfInBounds_toArray, List.set_cons_zero, List.set_cons_succ]
        refine wpAnyH_done (by kernel_rfl) ?_ _
        refine NoPanic.normal ?_
        go_wp2_with fail
        go_roundg (n - (i + 1))
        case measure => have := HLT.out; omega
        case rel => exact ⟨i + 1, by go_num, by have := HLT.out; omega, Nat.le_refl _, HE⟩
    · have hltz : ¬ (i : Int) < (n : Int) := by omega
      have hni : i = n := by omega
      subst hni
      have HE : Hid (Qu X N wr h (z + i) (A.play l) ∧ Touch (QF X N) w wr) := Lib.hid ⟨by have := HQ.out.1; rw [← HLN.out, List.take_length] at this; rw [← HLN.out]; exact this, HQ.out.2⟩
      go_wp2_with fail
      go_ret
      exact ⟨rfl, HE.out.1, HE.out.2⟩

end Go.Proofs.Ytjjhmfpdbjflmaa
