/-
  Package key's own: Set, Refers.
-/
import Derived.Test.YtenpjfkiehcjlaaGreatDoorKCode3
namespace Go.Proofs.YtenpjfkiehcjlaaGreatDoor
open Go.RowKit

theorem refers_no (a a' a2 : Option Addr) (c c' c2 n k m : Nat) (cs : List Int) (hk : cs.length = k) (hs : k ≤ 1000000) (hv : mayC cs n = false) (w : World) (h2 : SlI w a' c' cs) :
    Calls Tryz.prog 16 #[.slice a n c, .slice a' k c', .slice a2 m c2] w fun e w' => e = .returned (.bool false) ∧ Below w.heap.size w w' := by
  have hcon := fun W (hB : Below w.heap.size w W) => kmay_is a' c' k cs (n : Int) false hk hs (by rw [Int.toNat_natCast]; exact hv) W (h2.below hB)
  clear h2
  go_enter Tryz.func16, Tryz.ntmps16
  go_wp2_with fail
  refine (hcon _ (Below.refl _ _)).mono ?_
  rintro e w1 ⟨rfl, hb1⟩
  clear hcon
  go_wp2_with fail
  go_ret
  exact ⟨rfl, hb1⟩

theorem refers_is (a a' a2 : Option Addr) (c c' c2 n k m : Nat) (l : List Val) (cs : List Int) (q : List Val) (z : Bool) (hn : l.length = n) (hk : cs.length = k) (hq : q.length = m) (hs : k ≤ 1000000) (ht : m ≤ 1000000) (hv : mayC cs n = true) (hz : sameV (ofL Val.zero l cs) q = z) (w : World) (h1 : SlL w a c l) (h2 : SlI w a' c' cs) (h3 : SlL w a2 c2 q) :
    Calls Tryz.prog 16 #[.slice a n c, .slice a' k c', .slice a2 m c2] w fun e w' => e = .returned (.bool z) ∧ Below w.heap.size w w' := by
  have hcon := fun W (hB : Below w.heap.size w W) => kmay_is a' c' k cs (n : Int) true hk hs (by rw [Int.toNat_natCast]; exact hv) W (h2.below hB)
  have hcon2 := fun W (hB : Below w.heap.size w W) => at_is a a' c c' n k l cs hn hk hs (mayC_in hv) W (h1.below hB) (h2.below hB)
  have HW := Lib.hid h1.wf
  have HK := Lib.hid hk
  have HQ := Lib.hid hq
  have HZ := Lib.hid hz
  have HA := Lib.hid h3
  clear h1 h2 h3 hn hk hv hq hz
  go_enter Tryz.func16, Tryz.ntmps16
  go_wp2_with fail
  refine (hcon _ (Below.refl _ _)).mono ?_
  rintro e w1 ⟨rfl, hb1⟩
  have HB1 := Lib.hid hb1
  clear hcon hb1
  go_wp2_with fail
  refine (hcon2 _ HB1.out).mono ?_
  rintro e w2 ⟨g, rfl, hg, hO, hb2⟩
  have HB2 : Hid (Below w.heap.size w w2) := Lib.hid (below_tr HB1.out hb2)
  have hcon3 := ksame_is (some ⟨g, 0, none⟩) a2 k c2 k m (ofL Val.zero l cs) q z (by rw [length_ofL]; exact HK.out) HQ.out hs ht HZ.out w2 (hO.sl (by rw [length_ofL, HK.out]; exact Nat.le_refl _) (by unfold maxLen; omega) (ofL_wf HW.out)) (HA.out.below HB2.out)
  clear hcon2 hO hb2 hg
  go_wp2_with fail
  refine hcon3.mono ?_
  rintro e w3 ⟨rfl, hb3⟩
  have HB3 : Hid (Below w.heap.size w w3) := Lib.hid (below_tr HB2.out hb3)
  clear hcon3 hb3
  go_wp2_with fail
  go_ret
  exact ⟨rfl, HB3.out⟩

/-! ### Set -/

theorem clone_vals (b o n c : Nat) (l : List Val) (w : World) (hn : l.length = n) (hs : n ≤ 1000000) (hat : Lst w b o l) :
    Calls Tryz.prog 26 #[.slice (some ⟨b, o, none⟩) n c] w fun e w' => ∃ g cap, e = .returned (.slice (some ⟨g, 0, none⟩) n cap) ∧ n ≤ cap ∧ cap ≤ maxLen ∧ w.heap.size ≤ g ∧ Own w' g l ∧ Below w.heap.size w w' := by
  subst hn
  obtain ⟨i0, hi, hz0, hz1, hz2⟩ := info_parts info_v
  have hcon := AnyE.slices_Clone Tryz.cloneV i0 (.agg #[.int .u8 0, .int .i64 0, .int .i64 0, .string ⟨#[]⟩]) 4 40 hi hz0 hz1 hz2 rfl (by decide) (fun _ => by kernel_rfl) b o l.length c (flatL l) w (flatL_len l) (by unfold maxLen; omega) (by omega)
    (fun j u hj => by
      have hjl : j < l.length * 4 := by have := (List.getElem?_eq_some_iff.1 hj).1; rwa [flatL_len] at this
      have e : j = j / 4 * 4 + j % 4 := by omega
      obtain ⟨x, hx⟩ := get_is (l := l) (i := j / 4) (by omega)
      rw [e] at hj
      rw [flatL_get l _ _ x hx (by omega)] at hj
      have := encV_get (hat (j / 4) x hx) hj
      rw [show o + j = o + j / 4 * 4 + j % 4 by omega]
      exact this)
    (flatL_one l)
  change Calls Tryz.prog 26 _ _ _ at hcon
  refine hcon.mono ?_
  rintro e w' ⟨v', rfl, hown, hne, hb⟩
  rcases own_row hown with ⟨h1, _⟩ | ⟨g, cap, rfl, h1, h2, h3, h4, h5, h6⟩
  · exact absurd h1 hne
  · exact ⟨g, cap, rfl, h1, h2, h3, ⟨h4, h5, h6⟩, hb⟩

theorem set_no1 (a a' a2 : Option Addr) (c c' c2 n k m : Nat) (cs : List Int) (hk : cs.length = k) (hs : k ≤ 1000000) (hv : mayC cs n = false) (w : World) (h2 : SlI w a' c' cs) :
    Calls Tryz.prog 8 #[.slice a n c, .slice a' k c', .slice a2 m c2] w fun e w' => e = .returned (.tuple #[.slice none 0 0, .int .i64 4]) ∧ Below w.heap.size w w' := by
  have hcon := fun W (hB : Below w.heap.size w W) => kmay_is a' c' k cs (n : Int) false hk hs (by rw [Int.toNat_natCast]; exact hv) W (h2.below hB)
  clear h2
  go_enter Tryz.func8, Tryz.ntmps8
  go_wp2_with fail
  refine (hcon _ (Below.refl _ _)).mono ?_
  rintro e w1 ⟨rfl, hb1⟩
  clear hcon
  go_wp2_with fail
  go_ret2
  exact ⟨rfl, hb1⟩

theorem set_no2 (a a' a2 : Option Addr) (c c' c2 n k m : Nat) (cs : List Int) (hk : cs.length = k) (hs : k ≤ 1000000) (hv : mayC cs n = true) (hm : m ≠ k) (w : World) (h2 : SlI w a' c' cs) :
    Calls Tryz.prog 8 #[.slice a n c, .slice a' k c', .slice a2 m c2] w fun e w' => e = .returned (.tuple #[.slice none 0 0, .int .i64 4]) ∧ Below w.heap.size w w' := by
  have hcon := fun W (hB : Below w.heap.size w W) => kmay_is a' c' k cs (n : Int) true hk hs (by rw [Int.toNat_natCast]; exact hv) W (h2.below hB)
  have hne : ¬ (m : Int) = (k : Int) := by omega
  clear h2
  go_enter Tryz.func8, Tryz.ntmps8
  go_wp2_with fail
  refine (hcon _ (Below.refl _ _)).mono ?_
  rintro e w1 ⟨rfl, hb1⟩
  clear hcon
  go_wp2_with fail
  go_ret2
  exact ⟨rfl, hb1⟩

theorem setL_wf : ∀ {cs : List Int} {vs l : List Val}, (∀ x ∈ l, x.wf) → (∀ x ∈ vs, x.wf) → ∀ x ∈ setL l cs vs, x.wf
  | [], _, _, h, _ => by simpa [setL] using h
  | _ :: _, [], _, h, _ => by simpa [setL] using h
  | i :: cs, v :: vs, l, h, hv => by
      simp only [setL]
      refine setL_wf (fun x hx => ?_) (fun x hx => hv x (List.mem_cons_of_mem _ hx))
      rcases List.mem_or_eq_of_mem_set hx with hx | rfl
      · exact h x hx
      · exact hv _ (List.mem_cons_self ..)

set_option maxRecDepth 100000 in
set_option maxHeartbeats 1000000 in
theorem set_is (a a' a2 : Option Addr) (c c' c2 n k : Nat) (l : List Val) (cs : List Int) (vs : List Val) (hn : l.length = n) (hk : cs.length = k) (hm : vs.length = k) (hs : k ≤ 1000000) (ht : n ≤ 1000000) (hv : mayC cs n = true) (w : World) (h1 : SlL w a c l) (h2 : SlI w a' c' cs) (h3 : SlL w a2 c2 vs) :
    Calls Tryz.prog 8 #[.slice a n c, .slice a' k c', .slice a2 k c2] w fun e w' => ∃ g cap, e = .returned (.tuple #[.slice (some ⟨g, 0, none⟩) n cap, .int .i64 0]) ∧ n ≤ cap ∧ cap ≤ maxLen ∧ w.heap.size ≤ g ∧ Own w' g (setL l cs vs) ∧ Below w.heap.size w w' := by
  have hne : l ≠ [] := by
    rintro rfl
    obtain ⟨h0, h4, _⟩ := (mayC_iff cs n).mp hv
    cases cs with
    | nil => exact h0 rfl
    | cons x cs =>
      have := h4 x (List.mem_cons_self ..)
      have hn0 : 0 = n := hn
      omega
  obtain ⟨b, o, rfl, hl⟩ := h1.at' hne
  have hcon := fun W (hB : Below w.heap.size w W) => kmay_is a' c' k cs (n : Int) true hk hs (by rw [Int.toNat_natCast]; exact hv) W (h2.below hB)
  have hcon2 := fun W (hB : Below w.heap.size w W) => clone_vals b o n c l W hn ht (hl.below hB)
  have HW := Lib.hid h1.wf
  have HK := Lib.hid hk
  have HN := Lib.hid hn
  have HM := Lib.hid hm
  have HC := Lib.hid h2
  have HA := Lib.hid h3
  have HV : Hid (∀ x ∈ cs, 0 ≤ x ∧ x < l.length) := Lib.hid (by rw [hn]; exact mayC_in hv)
  have hbk : k ≤ 9223372036854775807 := by omega
  have hbn : n ≤ 9223372036854775807 := by omega
  clear h1 h2 h3 hn hk hv hm hl hne
  go_enter Tryz.func8, Tryz.ntmps8
  go_wp2_with fail
  refine (hcon _ (Below.refl _ _)).mono ?_
  rintro e w1 ⟨rfl, hb1⟩
  have HB1 := Lib.hid hb1
  clear hcon hb1
  go_wp2_with fail
  refine (hcon2 _ HB1.out).mono ?_
  rintro e w2 ⟨g, cap, rfl, hnc, hcm, hg, hO, hb2⟩
  have HB2 : Hid (Below w.heap.size w w2) := Lib.hid (below_tr HB1.out hb2)
  have HG : Hid (w.heap.size ≤ g) := Lib.hid (Nat.le_trans HB1.out.size hg)
  have HO : Hid (Own w2 g (setL l (cs.take 0) (vs.take 0))) := Lib.hid (by rw [List.take_zero, List.take_zero]; exact hO)
  clear hcon2 hO hb2 hg
  go_wp2_with fail
  go_loopg [9, 26] k (fun gg _ s26 wr => ∃ i : Nat, s26 = .int .i64 i ∧ i ≤ k ∧ k - i ≤ gg ∧ Hid (Own wr g (setL l (cs.take i) (vs.take i))) ∧ Hid (Below w.heap.size w wr))
  case atStart => exact ⟨0, rfl, Nat.zero_le _, by omega, HO, HB2⟩
  case round =>
    obtain ⟨i, rfl, hin, hgg, HOW, BW⟩ := hrel
    by_cases hlt : i < k
    · have hltz : (i : Int) < (k : Int) := by omega
      have z1 : ¬ k ≤ i := by omega
      obtain ⟨y, hy⟩ : ∃ y, cs[i]? = some y := ⟨cs[i]'(by rw [HK.out]; exact hlt), by simp⟩
      obtain ⟨v, hv⟩ := get_is (l := vs) (i := i) (by rw [HM.out]; exact hlt)
      obtain ⟨j, x, rfl, hj, hx, hd⟩ := col_at HV.out hy Val.zero
      obtain ⟨b', o', rfl, hc, hb'⟩ := at_i (HC.out.below BW.out) hy
      obtain ⟨b2, o2, rfl, d0, d1, d2, d3, d4⟩ := at_l (HA.out.below BW.out) hv
      have hjn : j < n := by rw [← HN.out]; exact hj
      have hjz : (j : Int) < (n : Int) := by omega
      have hjl : j < (setL l (cs.take i) (vs.take i)).length := by rw [length_setL]; exact hj
      have hf0 := HOW.out.fz (j * 4)
      have hf1 := HOW.out.fz (j * 4 + 1)
      have hf2 := HOW.out.fz (j * 4 + 2)
      have hf3 := HOW.out.fz (j * 4 + 3)
      obtain ⟨e0, e1, e2, e3, e4⟩ := HOW.out.get (i := j) (x := (setL l (cs.take i) (vs.take i))[j]) (by simp)
      have HY := Lib.hid hy
      have HV' := Lib.hid hv
      clear hy hd hx hj hv
      go_wp2_with fail
      go_still_tail 10, (by kernel_rfl)
      change wpList _ _ _ _ _ wr.drew
      have HOD := Lib.hid (HOW.out.below (below_drw wr))
      have BD : Hid (Below w.heap.size w wr.drew) := Lib.hid (BW.out.trans ((below_drw wr).mono BW.out.size))
      clear e0 e1 e2 e3 e4 hf0 hf1 hf2 hf3 d0 d1 d2 d3 d4 hc hb'
      generalize wr.drew = W at HOD BD ⊢
      have hf0 := HOD.out.fz (j * 4)
      have hf1 := HOD.out.fz (j * 4 + 1)
      have hf2 := HOD.out.fz (j * 4 + 2)
      have hf3 := HOD.out.fz (j * 4 + 3)
      obtain ⟨e0, e1, e2, e3, e4⟩ := HOD.out.get (i := j) (x := (setL l (cs.take i) (vs.take i))[j]) (by simp)
      go_wp2_with fail
      go_roundg (k - (i + 1))
      case measure => omega
      case rel =>
        refine ⟨i + 1, by go_num, by omega, Nat.le_refl _, Lib.hid ?_, Lib.hid (below_putAt BD.out HG.out j v)⟩
        have := HOD.out.put hjl v
        rw [setL_take _ _ _ _ _ _ HY.out HV'.out, Int.toNat_natCast]
        exact this
    · have hltz : ¬ (i : Int) < (k : Int) := by omega
      have HOW' : Hid (Own wr g (setL l cs vs)) := Lib.hid (by
        have := HOW.out
        rw [List.take_of_length_le (by rw [HK.out]; omega), List.take_of_length_le (by rw [HM.out]; omega)] at this
        exact this)
      have hcon3 := fun hwf => detach_is g n cap (setL l cs vs) (by rw [length_setL]; exact HN.out) ht hwf wr HOW'.out
      have hcon4 := hcon3 (setL_wf HW.out HA.out.wf)
      clear hcon3
      go_wp2_with fail
      refine hcon4.mono ?_
      rintro e w3 ⟨rfl, hb3⟩
      have HB3 : Hid (Below w.heap.size w w3) := Lib.hid (below_tr BW.out hb3)
      have HO3 := Lib.hid (HOW'.out.below hb3)
      clear hcon4 hb3
      go_wp2_with fail
      go_ret2
      exact ⟨g, cap, rfl, hnc, hcm, HG.out, HO3.out, HB3.out⟩

end Go.Proofs.YtenpjfkiehcjlaaGreatDoor
