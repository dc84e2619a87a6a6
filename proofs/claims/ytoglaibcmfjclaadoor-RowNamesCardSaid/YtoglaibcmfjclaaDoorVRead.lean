/-
  What value.read and what it calls answer, as walks over this translation.
-/
import Derived.Test.YtoglaibcmfjclaaDoorVNum
import Derived.Test.YtoglaibcmfjclaaDoorVText
namespace Go.Proofs.YtoglaibcmfjclaaDoor
open Go.RowKit

theorem unquotes_any (t : ByteArray) (hlen : t.size ≤ 100000) (w : World) (hg : Good w) :
    Calls Tryd.prog 45 #[.string t, .string ⟨#[39, 39]⟩, .string ⟨#[39]⟩] w fun e w' => e = .returned (.string ⟨(und t.data.toList).toArray⟩) ∧ Below w.heap.size w w' := by
  have e1 : (⟨#[39]⟩ : ByteArray).size = 1 := rfl
  have e2 : (⟨#[39, 39]⟩ : ByteArray).size = 2 := rfl
  refine (Tryd.strings_ReplaceAll_shaped t ⟨#[39, 39]⟩ ⟨#[39]⟩ _ hg.shaped (by omega) (by decide) ?_).mono ?_
  · have := Lib.countB_mul_le ⟨#[39, 39]⟩ (by decide) t.size t (Nat.le_refl _)
    rw [e2] at this
    rw [e1]
    omega
  · rintro e w2 ⟨rfl, hb2⟩
    have := replaceAll_und t.data.toList
    exact ⟨by rw [← this], hb2⟩

theorem und_length : ∀ t : List UInt8, (und t).length ≤ t.length := by
  intro t
  induction hn : t.length using Nat.strongRecOn generalizing t with
  | _ n ih =>
    match t, hn with
    | [], _ => simp [und]
    | c :: l, hn =>
      by_cases h : c = 39 ∧ l.head? = some 39
      · obtain ⟨rfl, h2⟩ := h
        obtain ⟨l', rfl⟩ : ∃ l', l = 39 :: l' := by cases l with
          | nil => simp at h2
          | cons a l' => simp at h2; exact ⟨l', by rw [h2]⟩
        have := ih l'.length (by simp at hn; omega) l' rfl
        rw [und_two]
        simp only [List.length_cons] at hn ⊢
        omega
      · have := ih l.length (by simp at hn; omega) l rfl
        rw [und_one c l h]
        simp only [List.length_cons] at hn ⊢
        omega

set_option maxHeartbeats 400000 in
theorem readText_short (s : ByteArray) (hs : s.size < 2) (w : World) :
    Calls Tryd.prog 66 #[.string s] w fun e w' => e = .returned (.tuple #[.agg #[.int .u8 0, .int .i64 0, .int .i64 0, .string ⟨#[]⟩], .bool false]) ∧ Below w.heap.size w w' := by
  go_enter Tryd.func66, Tryd.ntmps66
  go_wp2_with fail
  exact bodyPost_ret (v := .tuple #[.agg #[.int .u8 0, .int .i64 0, .int .i64 0, .string ⟨#[]⟩], .bool false]) (by simp [results, Tryd.results66, go_sem]) rfl ⟨rfl, Below.allocs _ _⟩

set_option maxHeartbeats 400000 in
theorem readText_open (s : ByteArray) (hs : 2 ≤ s.size) (h2 : s.size ≤ 100000) (hq : Lib.hasSuffix s.data.toList [39] = false) (w : World) :
    Calls Tryd.prog 66 #[.string s] w fun e w' => e = .returned (.tuple #[.agg #[.int .u8 0, .int .i64 0, .int .i64 0, .string ⟨#[]⟩], .bool false]) ∧ Below w.heap.size w w' := by
  have HQ := Lib.hid hq
  clear hq
  go_enter Tryd.func66, Tryd.ntmps66
  go_wp2_with fail
  refine (Tryd.strings_HasSuffix s _ _ (by omega)).mono ?_
  rintro e w1 ⟨rfl, rfl⟩
  rw [show (⟨#[39]⟩ : ByteArray).data.toList = [39] from rfl, HQ.out]
  go_wp2_with fail
  exact bodyPost_ret (v := .tuple #[.agg #[.int .u8 0, .int .i64 0, .int .i64 0, .string ⟨#[]⟩], .bool false]) (by simp [results, Tryd.results66, go_sem]) rfl ⟨rfl, Below.allocs _ _⟩

set_option maxHeartbeats 400000 in
theorem readText_ok (s : ByteArray) (hs : 2 ≤ s.size) (h2 : s.size ≤ 100000) (hq : Lib.hasSuffix s.data.toList [39] = true) (w : World) (hg : Good w) :
    Calls Tryd.prog 66 #[.string s] w fun e w' => e = .returned (.tuple #[.agg #[.int .u8 3, .int .i64 0, .int .i64 0, .string ⟨(und ((s.data.toList.drop 1).take (s.data.toList.length - 2))).toArray⟩], .bool true]) ∧ Below w.heap.size w w' := by
  have HQ := Lib.hid hq
  clear hq
  go_enter Tryd.func66, Tryd.ntmps66
  go_wp2_with fail
  refine (Tryd.strings_HasSuffix s _ _ (by omega)).mono ?_
  rintro e w1 ⟨rfl, rfl⟩
  rw [show (⟨#[39]⟩ : ByteArray).data.toList = [39] from rfl, HQ.out]
  go_wp2_with fail
  have hsz : (s.extract 1 (s.size - 1)).size ≤ 100000 := by rw [ByteArray.size_extract]; omega
  have hmid : (s.extract 1 (s.size - 1)).data.toList = (s.data.toList.drop 1).take (s.data.toList.length - 2) := by
    have := Lib.extract_toList s 1 (s.size - 1)
    rw [ByteArray.toList_eq] at this
    rw [this]
    congr 1
  have hul := und_length ((s.data.toList.drop 1).take (s.data.toList.length - 2))
  have hll : ((s.data.toList.drop 1).take (s.data.toList.length - 2)).length ≤ 100000 := by simp; omega
  have HM := Lib.hid hmid
  clear hmid
  have hg1 := hg.below (Below.allocs w (.cells #[.int .u8 0, .int .i64 0, .int .i64 0, .string ⟨#[]⟩] 25))
  refine (unquotes_any _ hsz _ hg1).mono ?_
  rintro e w1 ⟨rfl, hb1⟩
  rw [HM.out]
  generalize hu : und ((s.data.toList.drop 1).take (s.data.toList.length - 2)) = u at *
  have HU := Lib.hid hu
  clear hu
  have B0 := (Boxed.new w 0 0 0 ⟨#[]⟩ 25).below hb1
  have f0 : ∀ o, w1.frozen? ⟨w.heap.size, o, none⟩ = false := fun o => by rw [hb1.frozen (by simp)]; simp
  go_wp2_with fail
  refine (clone_any _ (by simp [ByteArray.size]; omega) _).mono ?_
  rintro e w2 ⟨rfl, hb2⟩
  have B1 := B0.below hb2
  have f1 : ∀ o, w2.frozen? ⟨w.heap.size, o, none⟩ = false := fun o => by rw [hb2.frozen B0.2.2.2.2]; exact f0 o
  obtain ⟨c0, c1, c2, c3, c4⟩ := B1
  go_wp2_with fail
  refine bodyPost_ret (v := .tuple #[.agg #[.int .u8 3, .int .i64 0, .int .i64 0, .string ⟨u.toArray⟩], .bool true]) (by simp [results, Tryd.results66, go_sem, c0, c1, c2, c3]) rfl ⟨by rw [HU.out], ?_⟩
  have hbb := below_tr (below_tr (Below.allocs w _) hb1) hb2
  exact (((hbb.setCell (Nat.le_refl _) _).setCell (Nat.le_refl _) _).setCell (Nat.le_refl _) _).setCell (Nat.le_refl _) _

/-- What readSpan reads: the two numbers, and whether it is a span's text as far as that goes. -/
def spanIn (l : List UInt8) : List UInt8 × List UInt8 × Bool := Lib.cut (Lib.trimSuffix (l.drop 1) [41]) [44]
def spanOK (l : List UInt8) : Bool := Lib.hasSuffix (l.drop 1) [41] && (spanIn l).2.2 && numOK (spanIn l).1 && numOK (spanIn l).2.1

theorem cut_length (s sep : List UInt8) : (Lib.cut s sep).1.length ≤ s.length ∧ (Lib.cut s sep).2.1.length ≤ s.length := by
  unfold Lib.cut
  split <;> simp <;> omega

theorem trimSuffix_length (s p : List UInt8) : (Lib.trimSuffix s p).length ≤ s.length := by
  unfold Lib.trimSuffix
  split <;> simp

set_option maxHeartbeats 1000000 in
theorem readSpan_any (s : ByteArray) (hs : 1 ≤ s.size) (h2 : s.size ≤ 100000) (w : World) (hg : Good w) :
    Calls Tryd.prog 67 #[.string s] w fun e w' => e = .returned (.tuple #[.agg #[.int .u8 4, .int .i64 (numV (spanIn s.data.toList).1), .int .i64 (numV (spanIn s.data.toList).2.1), .string ⟨#[]⟩], .bool (spanOK s.data.toList)]) ∧ Below w.heap.size w w' := by
  go_enter Tryd.func67, Tryd.ntmps67
  go_wp2_with fail
  have htl : (s.extract 1 s.size).data.toList = s.data.toList.drop 1 := by
    have := Lib.extract_toList s 1 s.size
    rw [ByteArray.toList_eq] at this
    rw [this, List.take_of_length_le (by simp)]
  have hsz : (s.extract 1 s.size).size ≤ 9223372036854775807 := by rw [ByteArray.size_extract]; omega
  have HT := Lib.hid htl
  clear htl
  have hlen : s.data.toList.length ≤ 100000 := by simp; omega
  have hl1 : (s.data.toList.drop 1).length ≤ 100000 := by rw [List.length_drop]; omega
  have hl2 := trimSuffix_length (s.data.toList.drop 1) [41]
  have hl3 := cut_length (Lib.trimSuffix (s.data.toList.drop 1) [41]) [44]
  refine (Tryd.strings_CutSuffix _ _ _ hsz).mono ?_
  rintro e w1 ⟨rfl, rfl⟩
  rw [HT.out, show (⟨#[41]⟩ : ByteArray).data.toList = [41] from rfl]
  obtain ⟨closed, hc⟩ : ∃ b, Lib.hasSuffix (s.data.toList.drop 1) [41] = b := ⟨_, rfl⟩
  obtain ⟨ti, hti⟩ : ∃ b, Lib.trimSuffix (s.data.toList.drop 1) [41] = b := ⟨_, rfl⟩
  rw [hc, hti]
  rw [hti] at hl2 hl3
  have hti2 : ti.length ≤ 100000 := by omega
  have HC := Lib.hid hc
  have HTI := Lib.hid hti
  clear hc hti
  have hg1 := hg.below (Below.allocs w (.cells #[.int .u8 0, .int .i64 0, .int .i64 0, .string ⟨#[]⟩] 25))
  have B0 := Boxed.new w 0 0 0 ⟨#[]⟩ 25
  have f0 : ∀ o, (w.alloc (.cells #[.int .u8 0, .int .i64 0, .int .i64 0, .string ⟨#[]⟩] 25)).frozen? ⟨w.heap.size, o, none⟩ = false := fun o => by simp
  go_wp2_with fail
  refine (Tryd.strings_Cut_shaped ⟨ti.toArray⟩ ⟨#[44]⟩ _ hg1.shaped (by simp [ByteArray.size]; omega)).mono ?_
  rintro e w1 ⟨rfl, n, rfl⟩
  rw [show (⟨#[44]⟩ : ByteArray).data.toList = [44] from rfl, show (⟨ti.toArray⟩ : ByteArray).data.toList = ti from rfl]
  have hbn := below_drewN (Below.refl (w.alloc (.cells #[.int .u8 0, .int .i64 0, .int .i64 0, .string ⟨#[]⟩] 25)).heap.size (w.alloc (.cells #[.int .u8 0, .int .i64 0, .int .i64 0, .string ⟨#[]⟩] 25))) n
  obtain ⟨cf, ct, cp, hcu⟩ : ∃ cf ct cp, Lib.cut ti [44] = (cf, ct, cp) := ⟨_, _, _, rfl⟩
  rw [hcu] at hl3 ⊢
  have HCU := Lib.hid hcu
  clear hcu
  go_wp2_with fail
  have hlf : cf.length ≤ 100000 := Nat.le_trans hl3.1 hti2
  have hlt : ct.length ≤ 100000 := Nat.le_trans hl3.2 hti2
  have hg2 := hg1.below hbn
  refine (number_any ⟨cf.toArray⟩ (by simpa [ByteArray.size] using hlf) _ hg2).mono ?_
  rintro e w2 ⟨rfl, hb2⟩
  rw [show (⟨cf.toArray⟩ : ByteArray).data.toList = cf from rfl]
  obtain ⟨v1, hn1⟩ : ∃ b, numV cf = b := ⟨_, rfl⟩
  obtain ⟨o1, ho1⟩ : ∃ b, numOK cf = b := ⟨_, rfl⟩
  rw [hn1, ho1]
  have HN1 := Lib.hid hn1
  have HO1 := Lib.hid ho1
  clear hn1 ho1
  go_wp2_with fail
  refine (number_any ⟨ct.toArray⟩ (by simpa [ByteArray.size] using hlt) _ (hg2.below hb2)).mono ?_
  rintro e w3 ⟨rfl, hb3⟩
  rw [show (⟨ct.toArray⟩ : ByteArray).data.toList = ct from rfl]
  obtain ⟨v2, hn2⟩ : ∃ b, numV ct = b := ⟨_, rfl⟩
  obtain ⟨o2, ho2⟩ : ∃ b, numOK ct = b := ⟨_, rfl⟩
  rw [hn2, ho2]
  have HN2 := Lib.hid hn2
  have HO2 := Lib.hid ho2
  clear hn2 ho2
  have hbb := below_tr (below_tr hbn hb2) hb3
  have B1 := B0.below hbb
  have f1 : ∀ o, w3.frozen? ⟨w.heap.size, o, none⟩ = false := fun o => by rw [hbb.frozen B0.2.2.2.2]; exact f0 o
  obtain ⟨c0, c1, c2, c3, c4⟩ := B1
  have hbe := below_tr (Below.allocs w _) hbb
  clear hg1 B0 f0 hg2 hbn hb2 hb3 hbb hl1 hl2 hl3 hlf hlt hti2 hsz hlen
  cases closed <;> cases cp <;> cases o1 <;> cases o2
  all_goals
    go_wp2_with fail
    refine bodyPost_ret (v := .tuple #[.agg #[.int .u8 4, .int .i64 v1, .int .i64 v2, .string ⟨#[]⟩], .bool _]) (by simp [results, Tryd.results67, go_sem, c0, c1, c2, c3]; rfl) rfl ⟨by simp only [spanOK, spanIn, HTI.out, HC.out, HCU.out, HN1.out, HN2.out, HO1.out, HO2.out]; rfl, ?_⟩
    exact (((hbe.setCell (Nat.le_refl _) _).setCell (Nat.le_refl _) _).setCell (Nat.le_refl _) _).setCell (Nat.le_refl _) _

end Go.Proofs.YtoglaibcmfjclaaDoor
