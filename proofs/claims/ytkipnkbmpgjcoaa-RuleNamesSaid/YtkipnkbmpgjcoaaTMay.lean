/-
  Tables: rule.twice, rule.MayTable (stage 8).
-/
import Derived.Test.YtkipnkbmpgjcoaaTCol
namespace Go.Proofs.Ytkipnkbmpgjcoaa
open Go.RowKit

def sameN (y x : Col) : Bool := x.nm.toList == y.nm.toList

/-- Have two columns the same name (the first k of them asked, each against those ahead of it)? -/
def twiceTo (l : List Col) : Nat → Bool
  | 0 => false
  | k + 1 => twiceTo l k || (match l[k]? with | some y => (l.take k).any (sameN y) | none => false)

theorem twiceTo_mono (l : List Col) {k : Nat} : ∀ {n : Nat}, k ≤ n → twiceTo l k = true → twiceTo l n = true := by
  intro n
  induction n with
  | zero => intro h1 h2; obtain rfl : k = 0 := by omega
            exact h2
  | succ n ih =>
    intro h1 h2
    rcases Nat.lt_or_ge n k with h | h
    · obtain rfl : k = n + 1 := by omega
      exact h2
    · simp only [twiceTo, ih h h2, Bool.true_or]

theorem boxC (w : World) (x : Col) : ∃ W g, w.alloc (.cells #[.string x.nm, .int .u8 x.ty, .int .u8 x.v.k, .int .i64 x.v.n, .int .i64 x.v.u, .string x.v.t] 49) = W ∧ w.heap.size = g ∧ AtC W g 0 x ∧ Below w.heap.size w W := by
  refine ⟨_, _, rfl, rfl, ⟨?_, ?_, ?_, ?_, ?_, ?_, by simp⟩, Below.allocs w _⟩ <;> go_simp

set_option maxHeartbeats 2000000 in
theorem twice_is (a : Option Addr) (c n : Nat) (l : List Col) (hn : l.length = n) (w : World) (h : SlC w a c l) (b : Bool) (hb : twiceTo l n = b) :
    Calls Try.prog 31 #[.slice a n c] w fun e w' => e = .returned (.bool b) ∧ Below w.heap.size w w' := by
  have HN := Lib.hid hn
  have HS := Lib.hid h
  have HR := Lib.hid hb
  clear hn h hb
  go_enter Try.func31, Try.ntmps31
  go_wp2_with fail
  go_loopg [7] n (fun gk i wr => ∃ k : Nat, k ≤ n ∧ gk = n - k ∧ i = .int .i64 k ∧ Hid (twiceTo l k = false) ∧ Hid (Below w.heap.size w wr))
  case atStart => exact ⟨0, Nat.zero_le _, by omega, rfl, Lib.hid rfl, Lib.hid (Below.refl _ _)⟩
  case round =>
    obtain ⟨k, hk, hgk, rfl, HA, HB⟩ := hrel
    have HG := Lib.hid hgk
    clear hgk
    by_cases hlt : k < n
    · obtain ⟨x, hx⟩ := getC (l := l) (i := k) (by rw [HN.out]; exact hlt)
      obtain ⟨bb, o, rfl, hat⟩ := at_c (HS.out.below HB.out) hx
      have hlc : n ≤ c := by have := HS.out.lc; have := HN.out; omega
      have hm : n ≤ 9223372036854775807 := by have := HS.out.cm; unfold maxLen at this; omega
      have hcc : k ≤ c := by omega
      have HX := Lib.hid hx
      clear hx
      obtain ⟨W1, g, hW1, hg, hat1, hb1⟩ := boxC wr x
      have HB1 := Lib.hid (below_tr HB.out hb1)
      have HAT := Lib.hid hat1
      obtain ⟨q, hq⟩ : ∃ q, (l.take k).any (sameN x) = q := ⟨_, rfl⟩
      have hcon := contains_cols 50 #[.pointer (some ⟨g, 0, none⟩)] (sameN x) (some ⟨bb, o, none⟩) c k (l.take k) (by rw [List.length_take, HN.out]; omega) W1 ((HS.out.take k).below HB1.out) (twin_is W1 g x hat1) q hq
      have HQ : Hid (twiceTo l (k + 1) = q) := Lib.hid (by simp only [twiceTo, HA.out, HX.out, hq, Bool.false_or])
      clear hq hat1 hb1
      obtain ⟨c0, c1, c2, c3, c4, c5, c6⟩ := hat
      go_wp2_with fail
      refine hcon.mono ?_
      rintro e w1 ⟨rfl, hb2⟩
      have HB2 := Lib.hid (below_tr HB1.out hb2)
      clear hcon hb2 c0 c1 c2 c3 c4 c5 c6 hW1
      cases q
      · go_wp2_with fail
        go_roundg (n - (k + 1))
        case measure => have := HG.out; omega
        case rel => exact ⟨k + 1, by omega, rfl, by go_num, HQ, HB2⟩
      · obtain rfl : b = true := by rw [← HR.out]; exact twiceTo_mono l (by omega : k + 1 ≤ n) HQ.out
        go_wp2_with fail
        go_ret
        exact ⟨rfl, HB2.out⟩
    · have hlt' : decide (k < n) = false := by simpa using hlt
      have hk : k = n := by omega
      obtain rfl : b = false := by rw [← HR.out, ← hk]; exact HA.out
      clear hk
      go_wp2_with fail
      go_ret
      exact ⟨rfl, HB.out⟩

/-- An api.Table. -/
structure Tb where
  nm : ByteArray
  a : Option Addr
  n : Nat
  cap : Nat
  cols : List Col
  ow : ByteArray

structure Tb.In (W : World) (t : Tb) : Prop where
  sl : SlC W t.a t.cap t.cols
  len : t.cols.length = t.n
  nm : t.nm.size ≤ 9223372036854775807
  ow : t.ow.size ≤ 9223372036854775807

theorem Tb.In.below {W W' : World} {t : Tb} (h : t.In W) (hb : Below W.heap.size W W') : t.In W' := ⟨h.sl.below hb, h.len, h.nm, h.ow⟩
theorem Tb.In.le {W : World} {t : Tb} (h : t.In W) : t.n ≤ 9223372036854775807 := by
  have := h.sl.lc; have := h.sl.cm; have := h.len; unfold maxLen at *; omega

/-- Is a table valid? -/
def tableB (t : Tb) : Bool := nameB t.nm && (nameB t.ow && (decide (1 ≤ t.cols.length) && (decide (t.cols.length ≤ 8) && (!(t.cols.any badC) && !(twiceTo t.cols t.cols.length)))))

theorem boxT (w : World) (t : Tb) : ∃ W g, w.alloc (.cells #[.string t.nm, .slice t.a t.n t.cap, .string t.ow] 32) = W ∧ w.heap.size = g ∧ Blk W g [.string t.nm, .slice t.a t.n t.cap, .string t.ow] ∧ Below w.heap.size w W :=
  ⟨_, _, rfl, rfl, Blk.new w _ _, Below.allocs w _⟩

set_option maxHeartbeats 2000000 in
theorem maytable_is (t : Tb) (b : Bool) (hb : tableB t = b) (w : World) (h : t.In w) :
    Calls Try.prog 13 #[.agg #[.string t.nm, .slice t.a t.n t.cap, .string t.ow]] w fun e w' => e = .returned (.bool b) ∧ Below w.heap.size w w' := by
  have HIN := Lib.hid h
  obtain ⟨b1, h1⟩ : ∃ b1, nameB t.nm = b1 := ⟨_, rfl⟩
  have H1 := Lib.hid h1
  unfold tableB at hb
  rw [h1] at hb
  obtain ⟨W, g, hW, hg, B, hbW⟩ := boxT w t
  have HBW := Lib.hid hbW
  have HBK := Lib.hid B
  have hlen := h.len
  clear h h1 hbW
  have c0 := B.get 0 _ rfl
  have c1 := B.get 1 _ rfl
  have c2 := B.get 2 _ rfl
  cases b1
  · obtain rfl : b = false := by rw [← hb]; rfl
    go_enter Try.func13, Try.ntmps13
    go_wp2_with fail
    refine (name_is _ false H1.out _).mono ?_
    rintro e w1 ⟨rfl, rfl⟩
    go_wp2_with fail
    go_ret
    first | exact ⟨rfl, HBW.out⟩ | exact ⟨rfl, hg ▸ HBW.out⟩
  obtain ⟨b2, h2⟩ : ∃ b2, nameB t.ow = b2 := ⟨_, rfl⟩
  have H2 := Lib.hid h2
  rw [h2] at hb
  clear h2
  cases b2
  · obtain rfl : b = false := by rw [← hb]; rfl
    go_enter Try.func13, Try.ntmps13
    go_wp2_with fail
    refine (name_is _ true H1.out _).mono ?_
    rintro e w1 ⟨rfl, rfl⟩
    go_wp2_with fail
    refine (name_is _ false H2.out _).mono ?_
    rintro e w1 ⟨rfl, rfl⟩
    go_wp2_with fail
    go_ret
    first | exact ⟨rfl, HBW.out⟩ | exact ⟨rfl, hg ▸ HBW.out⟩
  rw [hlen] at hb
  by_cases h3 : 1 ≤ t.n
  · have z3 : (1 : Int) ≤ (t.n : Int) := by omega
    by_cases h4 : t.n ≤ 8
    · have z4 : (t.n : Int) ≤ 8 := by omega
      obtain ⟨q, hq⟩ : ∃ q, t.cols.any badC = q := ⟨_, rfl⟩
      have hcon := contains_cols 28 #[] badC t.a t.cap t.n t.cols hlen W (HIN.out.below HBW.out).sl (invalid_is W) q hq
      rw [hq] at hb
      clear hq
      cases q
      · obtain ⟨r, hr⟩ : ∃ r, twiceTo t.cols t.n = r := ⟨_, rfl⟩
        obtain rfl : (!r) = b := by rw [← hb, ← hr]; simp [h3, h4]
        have HR := Lib.hid hr
        clear hb hr
        have HL := Lib.hid hlen
        clear hlen
        go_enter Try.func13, Try.ntmps13
        go_wp2_with fail
        refine (name_is _ true H1.out _).mono ?_
        rintro e w1 ⟨rfl, rfl⟩
        go_wp2_with fail
        refine (name_is _ true H2.out _).mono ?_
        rintro e w1 ⟨rfl, rfl⟩
        go_wp2_with fail
        refine hcon.mono ?_
        rintro e w1 ⟨rfl, hb1⟩
        have HB1 := Lib.hid (below_tr HBW.out hb1)
        have hcon2 := twice_is t.a t.cap t.n t.cols HL.out w1 (HIN.out.below HB1.out).sl r HR.out
        have d1 := (HBK.out.below hb1).get 1 _ rfl
        clear hcon hb1 c0 c1 c2 hW
        go_wp2_with fail
        refine hcon2.mono ?_
        rintro e w2 ⟨rfl, hb2⟩
        have HB2 := Lib.hid (below_tr HB1.out hb2)
        clear hcon2 hb2 d1
        go_wp2_with fail
        go_ret
        exact ⟨rfl, HB2.out⟩
      · obtain rfl : b = false := by rw [← hb]; simp
        clear hb
        go_enter Try.func13, Try.ntmps13
        go_wp2_with fail
        refine (name_is _ true H1.out _).mono ?_
        rintro e w1 ⟨rfl, rfl⟩
        go_wp2_with fail
        refine (name_is _ true H2.out _).mono ?_
        rintro e w1 ⟨rfl, rfl⟩
        go_wp2_with fail
        refine hcon.mono ?_
        rintro e w1 ⟨rfl, hb1⟩
        have HB1 := Lib.hid (below_tr HBW.out hb1)
        clear hcon hb1 c0 c1 c2 hW
        go_wp2_with fail
        go_ret
        exact ⟨rfl, HB1.out⟩
    · obtain rfl : b = false := by rw [← hb]; simp [h4]
      have z4 : ¬ (t.n : Int) ≤ 8 := by omega
      clear hb
      go_enter Try.func13, Try.ntmps13
      go_wp2_with fail
      refine (name_is _ true H1.out _).mono ?_
      rintro e w1 ⟨rfl, rfl⟩
      go_wp2_with fail
      refine (name_is _ true H2.out _).mono ?_
      rintro e w1 ⟨rfl, rfl⟩
      go_wp2_with fail
      go_ret
      first | exact ⟨rfl, HBW.out⟩ | exact ⟨rfl, hg ▸ HBW.out⟩
  · obtain rfl : b = false := by rw [← hb]; simp [h3]
    have z3 : ¬ (1 : Int) ≤ (t.n : Int) := by omega
    clear hb
    go_enter Try.func13, Try.ntmps13
    go_wp2_with fail
    refine (name_is _ true H1.out _).mono ?_
    rintro e w1 ⟨rfl, rfl⟩
    go_wp2_with fail
    refine (name_is _ true H2.out _).mono ?_
    rintro e w1 ⟨rfl, rfl⟩
    go_wp2_with fail
    go_ret
    first | exact ⟨rfl, HBW.out⟩ | exact ⟨rfl, hg ▸ HBW.out⟩
end Go.Proofs.Ytkipnkbmpgjcoaa
