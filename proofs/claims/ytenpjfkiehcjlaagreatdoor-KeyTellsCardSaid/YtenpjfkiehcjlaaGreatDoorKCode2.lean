/-
  Package key's own: values picked out of a row (at), texts made anew (detach).
-/
import Derived.Test.YtenpjfkiehcjlaaGreatDoorKCode
namespace Go.Proofs.YtenpjfkiehcjlaaGreatDoor
open Go.RowKit

/-- What has been picked so far, and zero values behind it. -/
def fillL (d : Val) (l : List Val) (c : List Int) (i : Nat) : List Val := ofL d l (c.take i) ++ List.replicate (c.length - i) Val.zero

theorem fillL_len (d : Val) (l : List Val) (c : List Int) (i : Nat) (h : i ≤ c.length) : (fillL d l c i).length = c.length := by
  simp only [fillL, List.length_append, length_ofL, List.length_take, List.length_replicate]; omega

theorem fillL_next {d : Val} {l : List Val} {c : List Int} {i : Nat} {x : Int} (h : c[i]? = some x) : (fillL d l c i).set i (l.getD x.toNat d) = fillL d l c (i + 1) := by
  have hi := (List.getElem?_eq_some_iff.mp h).1
  unfold fillL
  rw [ofL_take d l c i x h, show c.length - i = (c.length - (i + 1)) + 1 by omega, List.replicate_succ, List.set_append, if_neg (by rw [length_ofL, List.length_take]; omega)]
  rw [length_ofL, List.length_take, show i - min i c.length = 0 by omega, List.set_cons_zero, List.append_assoc]
  rfl

theorem fillL_end (d : Val) (l : List Val) (c : List Int) (i : Nat) (h : c.length ≤ i) : fillL d l c i = ofL d l c := by
  unfold fillL
  rw [List.take_of_length_le h, show c.length - i = 0 by omega]
  simp

/-- A column that is the row's. -/
theorem col_at {l : List Val} {cs : List Int} {i : Nat} {y : Int} (hv : ∀ x ∈ cs, 0 ≤ x ∧ x < l.length) (hy : cs[i]? = some y) (d : Val) : ∃ (j : Nat) (x : Val), y = j ∧ j < l.length ∧ l[j]? = some x ∧ l.getD y.toNat d = x := by
  obtain ⟨h0, h1⟩ := hv y (List.mem_of_getElem? hy)
  obtain ⟨j, rfl⟩ : ∃ j : Nat, y = j := ⟨y.toNat, by omega⟩
  have hj : j < l.length := by omega
  exact ⟨j, l[j], rfl, hj, by simp, by simp [hj]⟩

set_option maxRecDepth 100000 in
set_option maxHeartbeats 1000000 in
theorem at_is (a a' : Option Addr) (c c' n k : Nat) (l : List Val) (cs : List Int) (hn : l.length = n) (hk : cs.length = k) (hs : k ≤ 1000000) (hv : ∀ x ∈ cs, 0 ≤ x ∧ x < n) (w : World) (h1 : SlL w a c l) (h2 : SlI w a' c' cs) :
    Calls Tryz.prog 24 #[.slice a n c, .slice a' k c'] w fun e w' => ∃ g, e = .returned (.slice (some ⟨g, 0, none⟩) k k) ∧ w.heap.size ≤ g ∧ Own w' g (ofL Val.zero l cs) ∧ Below w.heap.size w w' := by
  obtain ⟨w1, hmk, ho, hb1⟩ := make_v w k hs
  have HA := Lib.hid h1
  have HC := Lib.hid h2
  have HN := Lib.hid hn
  have HK := Lib.hid hk
  have HV : Hid (∀ x ∈ cs, 0 ≤ x ∧ x < l.length) := Lib.hid (by rw [hn]; exact hv)
  have HO : Hid (Own w1 w.heap.size (fillL Val.zero l cs 0)) := Lib.hid (by
    unfold fillL
    rw [List.take_zero, show cs.length - 0 = k by omega]
    exact ho)
  have HB1 := Lib.hid hb1
  obtain ⟨g, hg⟩ : ∃ g, w.heap.size = g := ⟨_, rfl⟩
  have HG := Lib.hid hg
  have hbk : k ≤ 9223372036854775807 := by omega
  rw [hg] at HO hmk
  clear h1 h2 hn hk hv ho hb1 hg
  go_enter Tryz.func24, Tryz.ntmps24
  go_wp2_with fail
  go_loopg [6, 12] k (fun gg _ s12 wr => ∃ i : Nat, s12 = .int .i64 i ∧ i ≤ k ∧ k - i ≤ gg ∧ Hid (Own wr g (fillL Val.zero l cs i)) ∧ Hid (Below w.heap.size w wr))
  case atStart => exact ⟨0, rfl, Nat.zero_le _, by omega, HO, HB1⟩
  case round =>
    obtain ⟨i, rfl, hin, hgg, HOW, BW⟩ := hrel
    by_cases hlt : i < k
    · have hltz : (i : Int) < (k : Int) := by omega
      have z1 : ¬ k ≤ i := by omega
      obtain ⟨y, hy⟩ : ∃ y, cs[i]? = some y := ⟨cs[i]'(by rw [HK.out]; exact hlt), by simp⟩
      obtain ⟨j, x, rfl, hj, hx, hd⟩ := col_at HV.out hy Val.zero
      obtain ⟨b', o', rfl, hc, hb'⟩ := at_i (HC.out.below BW.out) hy
      obtain ⟨b, o, rfl, d0, d1, d2, d3, d4⟩ := at_l (HA.out.below BW.out) hx
      have hjn : j < n := by rw [← HN.out]; exact hj
      have hjz : (j : Int) < (n : Int) := by omega
      have hf0 := HOW.out.fz (i * 4)
      have hf1 := HOW.out.fz (i * 4 + 1)
      have hf2 := HOW.out.fz (i * 4 + 2)
      have hf3 := HOW.out.fz (i * 4 + 3)
      obtain ⟨e0, e1, e2, e3, e4⟩ := HOW.out.get (i := i) (x := (fillL Val.zero l cs i)[i]'(by rw [fillL_len _ _ _ _ (by rw [HK.out]; omega), HK.out]; exact hlt)) (by simp)
      have HY := Lib.hid hy
      have HD := Lib.hid hd
      clear hy hd hx hj
      go_wp2_with fail
      go_roundg (k - (i + 1))
      case measure => omega
      case rel =>
        refine ⟨i + 1, by go_num, by omega, Nat.le_refl _, Lib.hid ?_, Lib.hid (below_putAt BW.out (Nat.le_of_eq HG.out) i x)⟩
        have := HOW.out.put (i := i) (by rw [fillL_len _ _ _ _ (by rw [HK.out]; omega), HK.out]; exact hlt) x
        rw [← HD.out, fillL_next HY.out, HD.out] at this
        exact this
    · have hltz : ¬ (i : Int) < (k : Int) := by omega
      go_wp2_with fail
      go_ret
      have := HOW.out
      rw [fillL_end _ _ _ _ (by rw [HK.out]; omega)] at this
      exact ⟨g, rfl, Nat.le_of_eq HG.out, this, BW.out⟩

/-! ### Texts made anew -/

theorem sclone_is (s : ByteArray) (hs : s.size ≤ 140737488351232) (w : World) : Calls Tryz.prog 36 #[.string s] w fun e w' => e = .returned (.string s) ∧ Below w.heap.size w w' := by
  have hcon := fun w => Tryz.stringslite_Clone s w (by omega)
  go_enter Tryz.func36, Tryz.ntmps36
  go_wp2_with fail
  refine (hcon _).mono ?_
  rintro e w1 ⟨rfl, hb⟩
  go_wp2_with fail
  go_ret
  exact ⟨rfl, hb⟩

set_option maxRecDepth 100000 in
set_option maxHeartbeats 1000000 in
/-- Each text is the one that was there: nothing that lies in the row changes. -/
theorem detach_is (g n c : Nat) (l : List Val) (hn : l.length = n) (hs : n ≤ 1000000) (hw : ∀ x ∈ l, x.wf) (w : World) (h1 : Own w g l) :
    Calls Tryz.prog 25 #[.slice (some ⟨g, 0, none⟩) n c] w fun e w' => e = .returned (.tuple #[]) ∧ Below w.heap.size w w' := by
  have HA := Lib.hid h1
  have HN := Lib.hid hn
  have HW := Lib.hid hw
  have hbn : n ≤ 9223372036854775807 := by omega
  clear h1 hn hw
  go_enter Tryz.func25, Tryz.ntmps25
  go_wp2_with fail
  go_loopg [2, 5] n (fun gg _ s5 wr => ∃ i : Nat, s5 = .int .i64 i ∧ i ≤ n ∧ n - i ≤ gg ∧ Hid (Below w.heap.size w wr))
  case atStart => exact ⟨0, rfl, Nat.zero_le _, by omega, Lib.hid (Below.refl _ _)⟩
  case round =>
    obtain ⟨i, rfl, hin, hgg, BW⟩ := hrel
    by_cases hlt : i < n
    · have hltz : (i : Int) < (n : Int) := by omega
      have z1 : ¬ n ≤ i := by omega
      obtain ⟨x, hx⟩ := get_is (l := l) (i := i) (by rw [HN.out]; exact hlt)
      have HO := Lib.hid (HA.out.below BW.out)
      obtain ⟨e0, e1, e2, e3, e4⟩ := HO.out.get hx
      have hf3 := HO.out.fz (i * 4 + 3)
      have hcon := sclone_is x.t (get_wf HW.out hx).t
      have HX := Lib.hid hx
      clear hx
      go_wp2_with fail
      refine (hcon _).mono ?_
      rintro e w1 ⟨rfl, hb⟩
      have HO1 := Lib.hid (HO.out.below hb)
      have HB1 : Hid (Below w.heap.size w w1) := Lib.hid (BW.out.trans (hb.mono BW.out.size))
      clear e0 e1 e2 e3 e4 hf3 hcon hb
      obtain ⟨e0, e1, e2, e3, e4⟩ := HO1.out.get HX.out
      have hf3 := HO1.out.fz (i * 4 + 3)
      have HSS := Lib.hid (setCell_self e3)
      go_wp2_with fail
      rw [HSS.out]
      go_roundg (n - (i + 1))
      case measure => omega
      case rel => exact ⟨i + 1, by go_num, by omega, Nat.le_refl _, HB1⟩
    · have hltz : ¬ (i : Int) < (n : Int) := by omega
      go_wp2_with fail
      go_end0
      exact ⟨rfl, BW.out⟩

end Go.Proofs.YtenpjfkiehcjlaaGreatDoor
