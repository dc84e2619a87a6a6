/-
  The document's own answers of chapter 6 (covenantref06): May, Of, Whole, Same, Refers, Text.
-/
import Derived.Test.YtenpjfkiehcjlaaGreatDoorKApp
import Derived.Test.YtenpjfkiehcjlaaGreatDoorKTxt
import Derived.Test.YtenpjfkiehcjlaaGreatDoorKEq5
namespace Go.Proofs.YtenpjfkiehcjlaaGreatDoor
open Go.RowKit

theorem mayC_no {l : List Int} {n : Nat} {i : Nat} {x : Int} (hx : l[i]? = some x) (h : ¬ ((0 ≤ x ∧ x < n) ∧ ∀ k, k < i → l[k]? ≠ some x)) : mayC l n = false := by
  cases hm : mayC l n with
  | false => rfl
  | true => exact absurd ((mayC_at l n).mp hm |>.2 i x hx) h

set_option maxRecDepth 100000 in
set_option maxHeartbeats 2000000 in
theorem rkmay_is (a : Option Addr) (c n : Nat) (l : List Int) (m : Int) (z : Bool) (hn : l.length = n) (hs : n ≤ 1000000) (hz : mayC l m.toNat = z) (w : World) (h1 : SlI w a c l) :
    Calls Tryz.prog 13 #[.slice a n c, .int .i64 m] w fun e w' => e = .returned (.bool z) ∧ Below w.heap.size w w' := by
  by_cases h0 : l = []
  · subst h0
    obtain rfl : n = 0 := by simpa using hn.symm
    rw [mayC_nil] at hz
    subst hz
    clear h1 hn
    go_enter Tryz.func13, Tryz.ntmps13
    go_wp2_with fail
    go_ret
    exact ⟨rfl, Below.refl _ _⟩
  · obtain ⟨b, o, rfl, hl⟩ := h1.at' h0
    have hpos : 0 < n := by rw [← hn]; exact List.length_pos_iff.mpr h0
    have hnz : ((n : Int) == 0) = false := by simp; omega
    have HL := Lib.hid hl
    have HN := Lib.hid hn
    have HZ := Lib.hid hz
    have H0 := Lib.hid h0
    have hbn : n ≤ 9223372036854775807 := by omega
    clear hl h1 hn hz h0
    go_enter Tryz.func13, Tryz.ntmps13
    go_wp2_with fail
    go_loopg [5, 6] n (fun gg s5 _ wr => ∃ p : Nat, s5 = .int .i64 p ∧ p ≤ n ∧ n - p ≤ gg ∧ Hid (∀ (i : Nat) x, i < p → l[i]? = some x → (0 ≤ x ∧ x < (m.toNat : Int)) ∧ ∀ k, k < i → l[k]? ≠ some x) ∧ Hid (Below w.heap.size w wr))
    case atStart => exact ⟨0, rfl, Nat.zero_le _, by omega, Lib.hid (fun i x h => by omega), Lib.hid (Below.refl _ _)⟩
    case round =>
      obtain ⟨p, rfl, hpn, hgg, HT, BW⟩ := hrel
      by_cases hlt : p < n
      · have hltz : (p : Int) < (n : Int) := by omega
        have z1 : ¬ n ≤ p := by omega
        obtain ⟨y, hy⟩ : ∃ y, l[p]? = some y := ⟨l[p]'(by rw [HN.out]; exact hlt), by simp⟩
        have cy : wr.cell? ⟨b, o + p, none⟩ = some (.int .i64 y) := (HL.out.below BW.out).2 p y hy
        have HY := Lib.hid hy
        clear hy
        by_cases hA : y < 0
        · obtain rfl : z = false := by rw [← HZ.out]; exact mayC_no HY.out (fun h => by omega)
          go_wp2_with fail
          go_ret
          exact ⟨rfl, BW.out⟩
        · have hA' : 0 ≤ y := by omega
          by_cases hB : m ≤ y
          · obtain rfl : z = false := by rw [← HZ.out]; exact mayC_no HY.out (fun h => by omega)
            go_wp2_with fail
            go_ret
            exact ⟨rfl, BW.out⟩
          · have hB' : y < m := by omega
            go_wp2_with fail
            go_loopg [6] p (fun gg2 s6 wq => ∃ j : Nat, s6 = .int .i64 j ∧ j ≤ p ∧ p - j ≤ gg2 ∧ Hid (∀ k, k < j → l[k]? ≠ some y) ∧ Hid (Below w.heap.size w wq))
            case atStart => exact ⟨0, rfl, Nat.zero_le _, by omega, Lib.hid (fun k h => by omega), BW⟩
            case round =>
              obtain ⟨j, rfl, hjp, hgg2, HJ, BQ⟩ := hrel
              clear cy
              by_cases hjl : j < p
              · have hjz : (j : Int) < (p : Int) := by omega
                have z2 : ¬ n ≤ j := by omega
                have hjn : (j : Int) < (n : Int) := by omega
                obtain ⟨x, hx⟩ : ∃ x, l[j]? = some x := ⟨l[j]'(by rw [HN.out]; omega), by simp⟩
                have cy : wr.cell? ⟨b, o + p, none⟩ = some (.int .i64 y) := (HL.out.below BQ.out).2 p y HY.out
                have cx : wr.cell? ⟨b, o + j, none⟩ = some (.int .i64 x) := (HL.out.below BQ.out).2 j x hx
                have HX := Lib.hid hx
                clear hx
                by_cases hxy : x = y
                · subst hxy
                  obtain rfl : z = false := by rw [← HZ.out]; exact mayC_no HY.out (fun h => h.2 j hjl HX.out)
                  go_wp2_with fail
                  go_quiet (fail)
                  go_wp2_with fail
                  go_ret
                  exact ⟨rfl, BQ.out.trans ((drewN_below _ _).mono BQ.out.size)⟩
                · have hq : (x == y) = false := by simpa using hxy
                  go_wp2_with fail
                  go_quiet (fail)
                  go_wp2_with fail
                  go_roundg (p - (j + 1))
                  case measure => omega
                  case rel =>
                    refine ⟨j + 1, by go_num, by omega, Nat.le_refl _, Lib.hid (fun k hk => ?_), Lib.hid (BQ.out.trans ((drewN_below _ _).mono BQ.out.size))⟩
                    rcases Nat.lt_succ_iff_lt_or_eq.mp hk with h | rfl
                    · exact HJ.out k h
                    · rw [HX.out]; intro e; injection e with e; exact hxy e
              · have hjz : ¬ (j : Int) < (p : Int) := by omega
                go_wp2_with fail
                go_roundg (n - (p + 1))
                case measure => omega
                case rel =>
                  refine ⟨p + 1, by go_num, by omega, Nat.le_refl _, Lib.hid (fun i x hi hx => ?_), BQ⟩
                  rcases Nat.lt_succ_iff_lt_or_eq.mp hi with h | rfl
                  · exact HT.out i x h hx
                  · rw [HY.out] at hx
                    injection hx with hx
                    subst hx
                    exact ⟨⟨hA', by omega⟩, fun k hk => HJ.out k (by omega)⟩
      · have hltz : ¬ (p : Int) < (n : Int) := by omega
        obtain rfl : z = true := by
          rw [← HZ.out]
          exact (mayC_at l _).mpr ⟨H0.out, fun i x hx => HT.out i x (by have := (List.getElem?_eq_some_iff.mp hx).1; rw [HN.out] at this; omega) hx⟩
        go_wp2_with fail
        go_ret
        exact ⟨rfl, BW.out⟩

set_option maxRecDepth 100000 in
set_option maxHeartbeats 1000000 in
theorem rwhole_is (a : Option Addr) (c n : Nat) (l : List Val) (z : Bool) (hn : l.length = n) (hs : n ≤ 1000000) (hz : wholeV l = z) (w : World) (h1 : SlL w a c l) :
    Calls Tryz.prog 15 #[.slice a n c] w fun e w' => e = .returned (.bool z) ∧ Below w.heap.size w w' := by
  have HA := Lib.hid h1
  have HN := Lib.hid hn
  have HZ := Lib.hid hz
  have hbn : n ≤ 9223372036854775807 := by omega
  clear h1 hn hz
  go_enter Tryz.func15, Tryz.ntmps15
  go_wp2_with fail
  go_loopg [3] n (fun gg s3 wr => ∃ p : Nat, s3 = .int .i64 p ∧ p ≤ n ∧ n - p ≤ gg ∧ Hid (∀ x ∈ l.take p, nullV x = false) ∧ Hid (wr = w))
  case atStart => exact ⟨0, rfl, Nat.zero_le _, by omega, Lib.hid (by simp), Lib.hid rfl⟩
  case round =>
    obtain ⟨p, rfl, hpn, hgg, HT, BW⟩ := hrel
    obtain rfl := BW.out
    by_cases hlt : p < n
    · have hltz : (p : Int) < (n : Int) := by omega
      have z1 : ¬ n ≤ p := by omega
      obtain ⟨x, hx⟩ := get_is (l := l) (i := p) (by rw [HN.out]; exact hlt)
      obtain ⟨b, o, rfl, d0, d1, d2, d3, d4⟩ := at_l HA.out hx
      have HX := Lib.hid hx
      clear hx
      cases hk : (x.k == 0) with
      | true =>
        obtain rfl : z = false := by
          rw [← HZ.out, whole_any, Bool.and_eq_false_iff]
          right
          rw [Bool.not_eq_false', List.any_eq_true]
          exact ⟨x, List.mem_of_getElem? HX.out, hk⟩
        go_wp2_with fail
        go_ret
        exact ⟨rfl, Below.refl _ _⟩
      | false =>
        have HKK := Lib.hid hk
        go_wp2_with fail
        go_roundg (n - (p + 1))
        case measure => omega
        case rel =>
          refine ⟨p + 1, by go_num, by omega, Nat.le_refl _, Lib.hid (fun y hy => ?_), Lib.hid rfl⟩
          rw [List.take_add_one, HX.out] at hy
          rcases List.mem_append.mp hy with h | h
          · exact HT.out y h
          · simp at h; subst h; exact HKK.out
    · have hltz : ¬ (p : Int) < (n : Int) := by omega
      have hany : l.any nullV = false := by
        rw [List.any_eq_false]
        intro x hx
        have := HT.out x (by rw [List.take_of_length_le (by rw [HN.out]; omega)]; exact hx)
        simp [this]
      have hw : wholeV l = !l.isEmpty := by rw [whole_any, hany]; simp
      by_cases hp : 0 < n
      · have hpz : 0 < (n : Int) := by omega
        obtain rfl : z = true := by
          rw [← HZ.out, hw]
          cases hl : l with
          | nil => have := HN.out; rw [hl] at this; simp at this; omega
          | cons x l => rfl
        clear hw hany
        go_wp2_with fail
        go_ret
        exact ⟨rfl, Below.refl _ _⟩
      · have hpz : ¬ 0 < (n : Int) := by omega
        obtain rfl : z = false := by
          rw [← HZ.out, hw]
          have : l = [] := List.length_eq_zero_iff.mp (by rw [HN.out]; omega)
          rw [this]; rfl
        clear hw hany
        go_wp2_with fail
        go_ret
        exact ⟨rfl, Below.refl _ _⟩

theorem rksame_is (a a' : Option Addr) (c c' n k : Nat) (l m : List Val) (z : Bool) (hn : l.length = n) (hk : m.length = k) (hs : n ≤ 1000000) (ht : k ≤ 1000000) (hz : sameV l m = z) (w : World) (h1 : SlL w a c l) (h2 : SlL w a' c' m) :
    Calls Tryz.prog 19 #[.slice a n c, .slice a' k c'] w fun e w' => e = .returned (.bool z) ∧ Below w.heap.size w w' := by
  obtain ⟨x, hx⟩ : ∃ x, wholeV l = x := ⟨_, rfl⟩
  obtain ⟨y, hy⟩ : ∃ y, wholeV m = y := ⟨_, rfl⟩
  obtain ⟨q, hq⟩ : ∃ q, decide (l = m) = q := ⟨_, rfl⟩
  have hc1 := fun W (hB : Below w.heap.size w W) => rwhole_is a c n l x hn hs hx W (h1.below hB)
  have hc2 := fun W (hB : Below w.heap.size w W) => rwhole_is a' c' k m y hk ht hy W (h2.below hB)
  have hc3 := fun W (hB : Below w.heap.size w W) => rsame_is a a' c c' n k l m q hn hk hq W (h1.below hB) (h2.below hB)
  have hzz : (x && (y && q)) = z := by rw [← hz, ← hx, ← hy, ← hq]; rfl
  clear h1 h2 hn hk hx hy hq hz
  subst hzz
  cases x with
  | false =>
    go_enter Tryz.func19, Tryz.ntmps19
    go_wp2_with fail
    refine (hc1 _ (Below.refl _ _)).mono ?_
    rintro e w1 ⟨rfl, hb1⟩
    clear hc1 hc2 hc3
    go_wp2_with fail
    go_ret
    exact ⟨rfl, hb1⟩
  | true =>
    cases y with
    | false =>
      go_enter Tryz.func19, Tryz.ntmps19
      go_wp2_with fail
      refine (hc1 _ (Below.refl _ _)).mono ?_
      rintro e w1 ⟨rfl, hb1⟩
      have HB1 := Lib.hid hb1
      clear hc1 hc3 hb1
      go_wp2_with fail
      refine (hc2 _ HB1.out).mono ?_
      rintro e w2 ⟨rfl, hb2⟩
      have HB2 := Lib.hid (below_tr HB1.out hb2)
      clear hc2 hb2
      go_wp2_with fail
      go_ret
      exact ⟨rfl, HB2.out⟩
    | true =>
      go_enter Tryz.func19, Tryz.ntmps19
      go_wp2_with fail
      refine (hc1 _ (Below.refl _ _)).mono ?_
      rintro e w1 ⟨rfl, hb1⟩
      have HB1 := Lib.hid hb1
      clear hc1 hb1
      go_wp2_with fail
      refine (hc2 _ HB1.out).mono ?_
      rintro e w2 ⟨rfl, hb2⟩
      have HB2 := Lib.hid (below_tr HB1.out hb2)
      clear hc2 hb2
      go_wp2_with fail
      refine (hc3 _ HB2.out).mono ?_
      rintro e w3 ⟨rfl, hb3⟩
      have HB3 := Lib.hid (below_tr HB2.out hb3)
      clear hc3 hb3
      go_wp2_with fail
      go_ret
      exact ⟨rfl, HB3.out⟩

theorem rktext_is (a : Option Addr) (c n : Nat) (l : List Val) (p : ByteArray) (hn : l.length = n) (hs : n ≤ 60) (hp : rowT l = p.data.toList) (w : World) (h1 : SlL w a c l) :
    Calls Tryz.prog 21 #[.slice a n c] w fun e w' => e = .returned (.string p) ∧ Below w.heap.size w w' := by
  have hj := jt_small l h1.wf
  have hcon := fun W (hB : Below w.heap.size w W) => rtextr_is a c n l p hn (by omega) (by omega) hp W (h1.below hB)
  clear h1 hj hp hn
  go_enter Tryz.func21, Tryz.ntmps21
  go_wp2_with fail
  refine (hcon _ (Below.refl _ _)).mono ?_
  rintro e w1 ⟨rfl, hb⟩
  go_wp2_with fail
  go_ret
  exact ⟨rfl, hb⟩

/-! ### Of, Refers -/

theorem rof_no (a a' : Option Addr) (c c' n k : Nat) (cs : List Int) (hk : cs.length = k) (hs : k ≤ 1000000) (hv : mayC cs n = false) (w : World) (h2 : SlI w a' c' cs) :
    Calls Tryz.prog 7 #[.slice a n c, .slice a' k c'] w fun e w' => e = .returned (.tuple #[.slice none 0 0, .int .i64 4]) ∧ Below w.heap.size w w' := by
  have hcon := fun W (hB : Below w.heap.size w W) => rkmay_is a' c' k cs (n : Int) false hk hs (by rw [Int.toNat_natCast]; exact hv) W (h2.below hB)
  clear h2
  go_enter Tryz.func7, Tryz.ntmps7
  go_wp2_with fail
  refine (hcon _ (Below.refl _ _)).mono ?_
  rintro e w1 ⟨rfl, hb1⟩
  clear hcon
  go_wp2_with fail
  go_ret2
  exact ⟨rfl, hb1⟩

set_option maxRecDepth 100000 in
set_option maxHeartbeats 1000000 in
theorem rof_is (a a' : Option Addr) (c c' n k : Nat) (l : List Val) (cs : List Int) (hn : l.length = n) (hk : cs.length = k) (hs : k ≤ 100000) (hv : mayC cs n = true) (w : World) (h1 : SlL w a c l) (h2 : SlI w a' c' cs) :
    Calls Tryz.prog 7 #[.slice a n c, .slice a' k c'] w fun e w' => ∃ a1 c1, e = .returned (.tuple #[.slice a1 k c1, .int .i64 0]) ∧ SlL w' a1 c1 (ofL Val.zero l cs) ∧ Below w.heap.size w w' := by
  have hcon := fun W (hB : Below w.heap.size w W) => rkmay_is a' c' k cs (n : Int) true hk (by omega) (by rw [Int.toNat_natCast]; exact hv) W (h2.below hB)
  have HA := Lib.hid h1
  have HC := Lib.hid h2
  have HN := Lib.hid hn
  have HK := Lib.hid hk
  have HV : Hid (∀ x ∈ cs, 0 ≤ x ∧ x < l.length) := Lib.hid (by rw [hn]; exact mayC_in hv)
  have hbk : k ≤ 9223372036854775807 := by omega
  clear h1 h2 hn hk hv
  go_enter Tryz.func7, Tryz.ntmps7
  go_wp2_with fail
  refine (hcon _ (Below.refl _ _)).mono ?_
  rintro e w1 ⟨rfl, hb1⟩
  have HB1 := Lib.hid hb1
  clear hcon hb1
  go_wp2_with fail
  go_loopg [6, 7] k (fun gg s6 s7 wr => ∃ i : Nat, s7 = .int .i64 i ∧ i ≤ k ∧ k - i ≤ gg ∧ Hid (wr.ownsRow w.heap.size 37 4 s6 (ofL Val.zero l (cs.take i)).length (flatL (ofL Val.zero l (cs.take i)))) ∧ Hid (Below w.heap.size w wr))
  case atStart => exact ⟨0, rfl, Nat.zero_le _, by omega, Lib.hid (own_nilV _ _), HB1⟩
  case round =>
    obtain ⟨i, rfl, hin, hgg, HOW, BW⟩ := hrel
    by_cases hlt : i < k
    · have hltz : (i : Int) < (k : Int) := by omega
      have z1 : ¬ k ≤ i := by omega
      obtain ⟨y, hy⟩ : ∃ y, cs[i]? = some y := ⟨cs[i]'(by rw [HK.out]; exact hlt), by simp⟩
      obtain ⟨j, x, rfl, hj, hx, hd⟩ := col_at HV.out hy Val.zero
      obtain ⟨b', o', rfl, hc, hb'⟩ := at_i (HC.out.below BW.out) hy
      obtain ⟨b, o, rfl, d0, d1, d2, d3, d4⟩ := at_l (HA.out.below BW.out) hx
      have hjn : j < n := by rw [← HN.out]; exact hj
      have hjz : (j : Int) < (n : Int) := by omega
      obtain ⟨s', W', hrun, hO', hB'⟩ := app_val BW.out.size HOW.out (ofL_wf HA.out.wf) (by rw [length_ofL, List.length_take]; omega) x (HA.out.wf x (List.mem_of_getElem? hx))
      have HRUN := Lib.hid hrun
      have HO' : Hid (W'.ownsRow w.heap.size 37 4 s' (ofL Val.zero l (cs.take (i + 1))).length (flatL (ofL Val.zero l (cs.take (i + 1))))) := Lib.hid (by rw [ofL_take _ _ _ _ _ hy, hd]; exact hO')
      have HB' := Lib.hid (BW.out.trans hB')
      clear hrun hO' hB' hy hx hd hj
      go_wp2_with (at_builtin; refine append_stepW rfl _ _ 22 rfl _ _ _ _ rfl rfl HRUN.out ?_)
      go_roundg (k - (i + 1))
      case measure => omega
      case rel => exact ⟨i + 1, by go_num, by omega, Nat.le_refl _, HO', HB'⟩
    · have hltz : ¬ (i : Int) < (k : Int) := by omega
      have ho := HOW.out
      rw [List.take_of_length_le (by rw [HK.out]; omega)] at ho
      obtain ⟨a1, c1, e6, hsl⟩ := own_sl (ofL_wf HA.out.wf) ho
      rw [length_ofL, HK.out] at e6
      subst e6
      have HSL := Lib.hid hsl
      clear ho hsl HOW
      go_wp2_with fail
      go_ret2
      exact ⟨a1, c1, rfl, HSL.out, BW.out⟩

theorem rrefers_no (a a' a2 : Option Addr) (c c' c2 n k m : Nat) (cs : List Int) (hk : cs.length = k) (hs : k ≤ 1000000) (hv : mayC cs n = false) (w : World) (h2 : SlI w a' c' cs) :
    Calls Tryz.prog 17 #[.slice a n c, .slice a' k c', .slice a2 m c2] w fun e w' => e = .returned (.bool false) ∧ Below w.heap.size w w' := by
  have hcon := fun W (hB : Below w.heap.size w W) => rof_no a a' c c' n k cs hk hs hv W (h2.below hB)
  clear h2
  go_enter Tryz.func17, Tryz.ntmps17
  go_wp2_with fail
  refine (hcon _ (Below.refl _ _)).mono ?_
  rintro e w1 ⟨rfl, hb1⟩
  clear hcon
  go_wp2_with fail
  go_ret
  exact ⟨rfl, hb1⟩

theorem rrefers_is (a a' a2 : Option Addr) (c c' c2 n k m : Nat) (l : List Val) (cs : List Int) (q : List Val) (z : Bool) (hn : l.length = n) (hk : cs.length = k) (hq : q.length = m) (hs : k ≤ 100000) (ht : m ≤ 1000000) (hv : mayC cs n = true) (hz : sameV (ofL Val.zero l cs) q = z) (w : World) (h1 : SlL w a c l) (h2 : SlI w a' c' cs) (h3 : SlL w a2 c2 q) :
    Calls Tryz.prog 17 #[.slice a n c, .slice a' k c', .slice a2 m c2] w fun e w' => e = .returned (.bool z) ∧ Below w.heap.size w w' := by
  have hcon := fun W (hB : Below w.heap.size w W) => rof_is a a' c c' n k l cs hn hk hs hv W (h1.below hB) (h2.below hB)
  have HK := Lib.hid hk
  have HQ := Lib.hid hq
  have HZ := Lib.hid hz
  have HA := Lib.hid h3
  clear h1 h2 h3 hn hk hv hq hz
  go_enter Tryz.func17, Tryz.ntmps17
  go_wp2_with fail
  refine (hcon _ (Below.refl _ _)).mono ?_
  rintro e w1 ⟨a1, c1, rfl, hsl, hb1⟩
  have HB1 := Lib.hid hb1
  have hcon3 := fun W (hB : Below w1.heap.size w1 W) => rksame_is a1 a2 c1 c2 k m (ofL Val.zero l cs) q z (by rw [length_ofL]; exact HK.out) HQ.out (by omega) ht HZ.out W (hsl.below hB) (HA.out.below (below_tr HB1.out hB))
  clear hcon hsl hb1
  go_wp2_with fail
  refine (hcon3 _ (Below.refl _ _)).mono ?_
  rintro e w3 ⟨rfl, hb3⟩
  have HB3 : Hid (Below w.heap.size w w3) := Lib.hid (below_tr HB1.out hb3)
  clear hcon3 hb3
  go_wp2_with fail
  go_ret
  exact ⟨rfl, HB3.out⟩

end Go.Proofs.YtenpjfkiehcjlaaGreatDoor
