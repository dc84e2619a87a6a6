/-
  key.May: sorted, the first, the last, and how many are left when equal neighbours are made one.
-/
import Derived.Test.YtkipnkbmpgjcoaaKRow
namespace Go.Proofs.Ytkipnkbmpgjcoaa
open Go.RowKit

theorem clone_ints (b o n c : Nat) (l : List Int) (hn : l.length = n) (hs : n ≤ 1000000) (w : World) (h : LstI w b o l) :
    Calls Try.prog 39 #[.slice (some ⟨b, o, none⟩) n c] w fun e w' => ∃ g cap, e = .returned (.slice (some ⟨g, 0, none⟩) n cap) ∧ n ≤ cap ∧ cap ≤ maxLen ∧ w.heap.size ≤ g ∧ OwnI w' g l ∧ Below w.heap.size w w' := by
  have hcon := Try.slices_Clone_int b o n c l w (by omega) (by omega) (fun j hj => by rw [h.2 j l[j] (List.getElem?_eq_getElem hj)]; simp [List.getD_eq_getElem?_getD, hj])
  refine hcon.mono ?_
  rintro e w' ⟨v', rfl, hown, hne, hb⟩
  rw [List.take_of_length_le (by omega)] at hown
  obtain ⟨g, cap, rfl, h1, h2, h3, h4⟩ := ownI_row hn hown hne
  exact ⟨g, cap, rfl, h1, h2, h3, h4, hb⟩

theorem sort_ints (g n cap : Nat) (l : List Int) (hn : l.length = n) (hs : n ≤ 1000000) (w : World) (h : OwnI w g l) :
    Calls Try.prog 40 #[.slice (some ⟨g, 0, none⟩) n cap] w fun e w' => e = .returned (.tuple #[]) ∧ OwnI w' g (srt l) ∧ Below g w w' := by
  subst hn
  refine (Try.slices_Sort_int g 0 cap l w h.holds h.lt (by omega)).mono ?_
  rintro e w' ⟨rfl, q, os, rfl⟩
  have ho : OwnI (Sort.ahead w q) g l := h.below (ahead_below w q)
  have ho2 := ho.putRow (m := srt l) (srt_len l)
  have hb : Below g w (Sort.putRow (Value.int .i64) (Sort.ahead w q) g 0 (srt l).toArray) := putRowI_below ((ahead_below w q).mono (Nat.le_of_lt h.lt)) (Nat.le_refl g) _
  exact ⟨rfl, ho2.below (grow_below _ os), hb.trans ((grow_below _ os).mono (Nat.le_trans (Nat.le_of_lt h.lt) hb.size))⟩

theorem compact_ints (g n cap : Nat) (l : List Int) (hn : l.length = n) (hs : n ≤ 1000000) (hc : n ≤ cap) (w : World) (h : OwnI w g l) :
    Calls Try.prog 41 #[.slice (some ⟨g, 0, none⟩) n cap] w fun e w' => e = .returned (.slice (some ⟨g, 0, none⟩) (Lib.compact l).length cap) ∧ Below g w w' := by
  subst hn
  refine (Try.slices_Compact_int g 0 cap l w h.holds (by omega) hc).mono ?_
  rintro e w' ⟨rfl, q, rfl⟩
  exact ⟨rfl, putRowI_below ((ahead_below w q).mono (Nat.le_of_lt h.lt)) (Nat.le_refl g) _⟩

set_option maxRecDepth 100000 in
set_option maxHeartbeats 1000000 in
theorem kmay_is (a : Option Addr) (c n : Nat) (l : List Int) (m : Int) (z : Bool) (hn : l.length = n) (hs : n ≤ 1000000) (hz : mayC l m.toNat = z) (w : World) (h1 : SlI w a c l) :
    Calls Try.prog 63 #[.slice a n c, .int .i64 m] w fun e w' => e = .returned (.bool z) ∧ Below w.heap.size w w' := by
  by_cases h0 : l = []
  · subst h0
    obtain rfl : n = 0 := by simpa using hn.symm
    rw [mayC_nil] at hz
    subst hz
    clear h1 hn
    go_enter Try.func63, Try.ntmps63
    go_wp2_with fail
    go_ret
    exact ⟨rfl, Below.refl _ _⟩
  · obtain ⟨b, o, rfl, hl⟩ := h1.at' h0
    have hpos : 0 < n := by rw [← hn]; exact List.length_pos_iff.mpr h0
    have hcon := clone_ints b o n c l hn hs w hl
    have HN := Lib.hid hn
    have HZ := Lib.hid hz
    clear hl h1 hn hz h0
    have hbn : n ≤ 9223372036854775807 := by omega
    go_enter Try.func63, Try.ntmps63
    go_wp2_with fail
    refine hcon.mono ?_
    rintro e w1 ⟨g, cap, rfl, hnc, hcm, hbg, hO, hb1⟩
    have hcon2 := sort_ints g n cap l HN.out hs w1 hO
    clear hcon hO
    go_wp2_with fail
    refine hcon2.mono ?_
    rintro e w2 ⟨rfl, hO2, hb2⟩
    have hls : (srt l).length = n := by rw [srt_len]; exact HN.out
    obtain ⟨x, hx⟩ : ∃ x, (srt l)[0]? = some x := ⟨(srt l)[0]'(by omega), by simp⟩
    obtain ⟨y, hy⟩ : ∃ y, (srt l)[n - 1]? = some y := ⟨(srt l)[n - 1]'(by omega), by simp⟩
    have HQ := Lib.hid (may_srt (n := m) hx (by rw [HN.out]; exact hy))
    have cx := hO2.at' 0 x hx
    have cy := hO2.at' (n - 1) y hy
    have hcon3 := compact_ints g n cap (srt l) hls hs hnc w2 hO2
    have HB2 : Hid (Below w.heap.size w w2) := Lib.hid (hb1.trans (hb2.mono hbg))
    have HB3 : Hid (w.heap.size ≤ g) := Lib.hid hbg
    have hnn : n - 1 < n := by omega
    have HLS := Lib.hid hls
    clear hcon2 hO2 hb1 hb2 hbg hx hy hls
    by_cases hA : 0 ≤ x
    · by_cases hB : y < m
      · obtain ⟨k, hk⟩ : ∃ k, (Lib.compact (srt l)).length = k := ⟨_, rfl⟩
        rw [hk] at hcon3
        have hzz : ((k : Int) == (n : Int)) = z := by
          rw [← HZ.out, HQ.out, HN.out, hk]
          simp only [hA, hB, decide_true, Bool.true_and]
          rw [Bool.eq_iff_iff, beq_iff_eq, decide_eq_true_eq]
          omega
        clear hk
        go_wp2_with fail
        refine hcon3.mono ?_
        rintro e w3 ⟨rfl, hb3⟩
        have HB4 : Hid (Below w.heap.size w w3) := Lib.hid (HB2.out.trans (hb3.mono HB3.out))
        clear hcon3 hb3 cx cy
        go_wp2_with fail
        go_ret
        exact ⟨by first | rfl | rw [hzz], HB4.out⟩
      · have hzz : z = false := by rw [← HZ.out, HQ.out]; simp [hB]
        subst hzz
        go_wp2_with fail
        go_ret
        exact ⟨rfl, HB2.out⟩
    · have hzz : z = false := by rw [← HZ.out, HQ.out]; simp [hA]
      subst hzz
      go_wp2_with fail
      go_ret
      exact ⟨rfl, HB2.out⟩

end Go.Proofs.Ytkipnkbmpgjcoaa
