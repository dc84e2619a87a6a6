/-
  The laws' own helpers of stage 7, and the document's, that ask no tree: Ints, Height, one, size.
-/
import Derived.Test.YtfikaccgpjiedaaJJ11
import Derived.Test.YtfikaccgpjiedaaJJ9
import Derived.Test.YtfikaccgpjiedaaJJ13
namespace Go.Proofs.Ytfikaccgpjiedaa
open Go.RowKit

set_option maxRecDepth 100000 in
set_option maxHeartbeats 1000000 in
theorem ints_is (a a' : Option Addr) (c c' n k : Nat) (l m : List Int) (z0 : Bool) (hn : l.length = n) (hk : m.length = k) (hz : decide (l = m) = z0) (w : World) (h1 : SlI w a c l) (h2 : SlI w a' c' m) :
    Calls Try.prog 22 #[.slice a n c, .slice a' k c'] w fun e w' => e = .returned (.bool z0) ∧ Below w.heap.size w w' := by
  have HA := Lib.hid h1
  have HB := Lib.hid h2
  have HN := Lib.hid hn
  have HK := Lib.hid hk
  have HZ := Lib.hid hz
  have hbn : n ≤ 9223372036854775807 := by have a := h1.lc; have b := h1.cm; rw [hn] at a; unfold maxLen at b; omega
  clear h1 h2
  by_cases hnk : n = k
  · subst hnk
    clear hn hk hz
    go_enter Try.func22, Try.ntmps22
    go_wp2_with fail
    go_loopg [5] n (fun gg s5 wr => ∃ p : Nat, s5 = .int .i64 p ∧ p ≤ n ∧ n - p ≤ gg ∧ Hid (l.take p = m.take p) ∧ Hid (Below w.heap.size w wr))
    case atStart => exact ⟨0, rfl, Nat.zero_le _, by omega, Lib.hid rfl, Lib.hid (Below.refl _ _)⟩
    case round =>
      obtain ⟨p, rfl, hpn, hgg, HT, BW⟩ := hrel
      by_cases hlt : p < n
      · have hltz : (p : Int) < (n : Int) := by omega
        have z1 : ¬ n ≤ p := by omega
        obtain ⟨x, hx⟩ : ∃ x, l[p]? = some x := ⟨l[p]'(by rw [HN.out]; exact hlt), by simp⟩
        obtain ⟨y, hy⟩ : ∃ y, m[p]? = some y := ⟨m[p]'(by rw [HK.out]; exact hlt), by simp⟩
        obtain ⟨b, o, rfl, q1, q2⟩ := at_i (HA.out.below BW.out) hx
        obtain ⟨b', o', rfl, p1, p2⟩ := at_i (HB.out.below BW.out) hy
        have HX := Lib.hid hx
        have HY := Lib.hid hy
        clear hx hy
        by_cases hxy : x = y
        · subst hxy
          go_wp2_with fail
          go_quiet (fail)
          go_wp2_with fail
          go_roundg (n - (p + 1))
          case measure => omega
          case rel => exact ⟨p + 1, by go_num, by omega, Nat.le_refl _, Lib.hid (by rw [List.take_add_one, List.take_add_one, HT.out, HX.out, HY.out]), Lib.hid (BW.out.trans ((drewN_below _ _).mono BW.out.size))⟩
        · have hq : (x == y) = false := by simpa using hxy
          obtain rfl : z0 = false := by
            rw [← HZ.out]
            refine decide_eq_false ?_
            rintro rfl
            rw [HX.out] at HY
            exact hxy (Option.some.inj HY.out)
          go_wp2_with fail
          go_quiet (fail)
          go_wp2_with fail
          go_ret
          exact ⟨rfl, BW.out.trans ((drewN_below _ _).mono BW.out.size)⟩
      · have hltz : ¬ (p : Int) < (n : Int) := by omega
        go_wp2_with fail
        go_ret
        have ht := HT.out
        rw [List.take_of_length_le (by rw [HN.out]; omega), List.take_of_length_le (by rw [HK.out]; omega)] at ht
        obtain rfl : z0 = true := by rw [← HZ.out]; exact decide_eq_true ht
        exact ⟨rfl, BW.out⟩
  · have hne : ¬ (n : Int) = (k : Int) := by omega
    have hz' : z0 = false := by rw [← hz]; exact decide_eq_false (fun e => hnk (by rw [← hn, ← hk, e]))
    subst hz'
    clear hn hk hz HZ
    go_enter Try.func22, Try.ntmps22
    go_wp2_with fail
    go_ret
    exact ⟨rfl, Below.refl _ _⟩

/-! ### Height -/

theorem four_le {n h : Nat} (h1 : 2 * 4 ^ h ≤ n + 1) (k : Nat) (hk : k ≤ h) : 2 * 4 ^ k ≤ n + 1 :=
  Nat.le_trans (Nat.mul_le_mul_left 2 (Nat.pow_le_pow_right (by omega) hk)) h1

theorem eight_le {n h : Nat} (hn : n ≤ 100000) (h1 : 2 * 4 ^ h ≤ n + 1) : 8 ^ (h + 1) ≤ 16777216 := by
  have h2 : h < 8 := by
    apply Classical.byContradiction
    intro hh
    have := four_le h1 8 (by omega)
    omega
  exact Nat.le_trans (Nat.pow_le_pow_right (by omega) (by omega : h + 1 ≤ 8)) (by decide)

set_option maxRecDepth 100000 in
set_option maxHeartbeats 1000000 in
/-- A tree of h + 1 levels with as many entries as it may have. -/
theorem height_more (n h : Nat) (hn : n ≤ 100000) (h1 : 2 * 4 ^ h ≤ n + 1) (h2 : n + 1 ≤ 8 ^ (h + 1)) (w : World) :
    Calls Try.prog 13 #[.int .i64 (n : Int), .int .i64 (((h + 1 : Nat)) : Int)] w fun e w' => e = .returned (.bool true) ∧ Below w.heap.size w w' := by
  have hn0 : ((n : Int) == 0) = false := by have := four_le h1 0 (by omega); simp; omega
  have hh0 : ¬ (((h + 1 : Nat)) : Int) < 1 := by omega
  have h8 := eight_le hn h1
  have H1 := Lib.hid h1
  have H2 := Lib.hid h2
  have H8 := Lib.hid h8
  obtain ⟨g, hg⟩ : ∃ g : Nat, h + 1 = g := ⟨_, rfl⟩
  have HG := Lib.hid hg
  rw [hg] at hh0 ⊢
  have hgb : g ≤ 100 := by
    have : h < 8 := by
      apply Classical.byContradiction
      intro hh
      have := four_le h1 8 (by omega)
      omega
    omega
  clear h1 h2 h8 hg
  go_enter Try.func13, Try.ntmps13
  go_wp2_with fail
  go_loopg [5, 6, 7] g (fun gg s5 s6 s7 wr => ∃ k f e : Nat, s7 = .int .i64 (((k + 1 : Nat)) : Int) ∧ s5 = .int .i64 (f : Int) ∧ s6 = .int .i64 (e : Int) ∧ k + 1 ≤ g ∧ g - (k + 1) ≤ gg ∧ f ≤ 100000 ∧ e ≤ 16777216 ∧ Hid (f = 4 ^ k) ∧ Hid (e = 8 ^ (k + 1)) ∧ Hid (Below w.heap.size w wr))
  case atStart => exact ⟨0, 1, 8, rfl, rfl, rfl, by have := HG.out; omega, by omega, by omega, by omega, Lib.hid rfl, Lib.hid rfl, Lib.hid (Below.refl _ _)⟩
  case round =>
    obtain ⟨k, f, e, rfl, rfl, rfl, hkg, hgg, hf, he, HF, HE, BW⟩ := hrel
    have hfn : (f : Int) ≤ (n : Int) := by
      have := four_le H1.out k (by have := HG.out; omega)
      have := HF.out
      omega
    by_cases hlt : k + 1 < g
    · have hltz : (((k + 1 : Nat)) : Int) < (g : Int) := by omega
      have hf4 : f * 4 ≤ 100000 := by
        have := four_le H1.out (k + 1) (by have := HG.out; omega)
        have h4 := HF.out
        rw [Nat.pow_succ] at this
        omega
      have he8 : e * 8 ≤ 16777216 := by
        have h5 : 8 ^ (k + 2) ≤ 8 ^ (h + 1) := Nat.pow_le_pow_right (by omega) (by have := HG.out; omega)
        have h6 := HE.out
        have h7 := H8.out
        rw [Nat.pow_succ 8 (k + 1)] at h5
        omega
      go_wp2_with fail
      go_roundg (g - (k + 2))
      case measure => omega
      case rel => exact ⟨k + 1, f * 4, e * 8, by go_num, by go_num, by go_num, by omega, by omega, hf4, he8, Lib.hid (by rw [HF.out, Nat.pow_succ]), Lib.hid (by rw [HE.out, Nat.pow_succ 8 (k + 1)]), BW⟩
    · have hltz : ¬ (((k + 1 : Nat)) : Int) < (g : Int) := by omega
      have hkh : k = h := by have := HG.out; omega
      have hlo : 2 * (f : Int) - 1 ≤ (n : Int) := by
        have := four_le H1.out k (by omega)
        have := HF.out
        omega
      have hhi : (n : Int) ≤ (e : Int) - 1 := by
        have h3 := H2.out
        have h4 := HE.out
        rw [hkh] at h4
        omega
      go_wp2_with fail
      go_ret
      exact ⟨by first | rfl | simp [hlo, hhi], BW.out⟩

/-- No entries, no height. -/
theorem height_none (w : World) : Calls Try.prog 13 #[.int .i64 0, .int .i64 0] w fun e w' => e = .returned (.bool true) ∧ Below w.heap.size w w' := by
  go_enter Try.func13, Try.ntmps13
  go_wp2_with fail
  go_ret
  exact ⟨rfl, Below.refl _ _⟩

/-! ### one, size -/

def vn (n : Int) : Val := ⟨1, n, 0, ⟨#[]⟩⟩
theorem wfn {n : Int} (h : I64 n) : (vn n).wf := ⟨(by decide : (0 : Int) ≤ 1), (by decide : (1 : Int) ≤ 255), h, i64_0, (by decide : (⟨#[]⟩ : ByteArray).size ≤ 140737488351232)⟩

theorem one_is (n : Int) (hn : I64 n) (w : World) : Calls Try.prog 25 #[.int .i64 n] w fun e w' => ∃ a c, e = .returned (.slice a 1 c) ∧ SlG (fun k => w.heap.size ≤ k) w' a c [vn n] ∧ Below w.heap.size w w' := by
  have h1 := new1 w (vn n) (wfn hn)
  have hal := Below.allocs w (.cells #[.int .u8 (vn n).k, .int .i64 (vn n).n, .int .i64 (vn n).u, .string (vn n).t] 66)
  have H1 := Lib.hid h1
  have HAL := Lib.hid hal
  clear h1 hal
  go_enter Try.func25, Try.ntmps25
  go_wp2_with fail
  go_ret
  exact ⟨_, _, rfl, ⟨H1.out, fun _ b o e => by cases e; exact Nat.le_refl _⟩, HAL.out⟩

/-- How much values are (no more is counted once 100000 are reached). -/
def sizA : List Val → Int → Int
  | [], n => n
  | x :: l, n => if n < 100000 then sizA l (n + 4 + x.t.size) else n

theorem sizA_stop : ∀ (l : List Val) (n : Int), ¬ n < 100000 → sizA l n = n
  | [], _, _ => rfl
  | x :: l, n, h => by rw [sizA, if_neg h]

theorem sizA_at {l : List Val} {p : Nat} {x : Val} (hx : l[p]? = some x) (n : Int) : sizA (l.drop p) n = if n < 100000 then sizA (l.drop (p + 1)) (n + 4 + x.t.size) else n := by
  have h1 : p < l.length := (List.getElem?_eq_some_iff.1 hx).1
  have e1 : l[p] = x := (List.getElem?_eq_some_iff.1 hx).2
  rw [List.drop_eq_getElem_cons h1, sizA, e1]

theorem sizA_low : ∀ (l : List Val) (n : Int), 0 ≤ n → n ≤ sizA l n ∧ (sizA l n < 100000 → n + 4 * l.length ≤ sizA l n)
  | [], n, _ => by simp [sizA]
  | x :: l, n, h => by
      rw [sizA]
      split
      · have ⟨h1, h2⟩ := sizA_low l (n + 4 + x.t.size) (by omega)
        refine ⟨by omega, fun h3 => ?_⟩
        have := h2 h3
        simp only [List.length_cons]
        omega
      · exact ⟨Int.le_refl _, fun h3 => by omega⟩

theorem sizA_high : ∀ (l : List Val) (n : Int), (∀ x ∈ l, x.wf) → n ≤ 140737488551232 → sizA l n ≤ 140737488551232
  | [], n, _, h => h
  | x :: l, n, hw, h => by
      rw [sizA]
      split
      · have := (hw x (List.mem_cons_self ..)).t
        exact sizA_high l _ (fun y hy => hw y (List.mem_cons_of_mem _ hy)) (by omega)
      · exact h

set_option maxRecDepth 100000 in
set_option maxHeartbeats 1000000 in
theorem size_is (a : Option Addr) (c n : Nat) (l : List Val) (r : Int) (hn : l.length = n) (hr : sizA l 4 = r) (w : World) (h1 : SlL w a c l) :
    Calls Try.prog 18 #[.slice a n c] w fun e w' => e = .returned (.int .i64 r) ∧ Below w.heap.size w w' := by
  have HA := Lib.hid h1
  have HN := Lib.hid hn
  have HZ := Lib.hid hr
  have hbn : n ≤ 9223372036854775807 := by have a := h1.lc; have b := h1.cm; rw [hn] at a; unfold maxLen at b; omega
  clear h1 hn hr
  go_enter Try.func18, Try.ntmps18
  go_wp2_with fail
  go_loopg [3, 4] n (fun gg s3 s4 wr => ∃ (p : Nat) (t : Int), s4 = .int .i64 p ∧ s3 = .int .i64 t ∧ p ≤ n ∧ n - p ≤ gg ∧ 0 ≤ t ∧ t ≤ 140737488551232 ∧ Hid (sizA (l.drop p) t = r) ∧ Hid (Below w.heap.size w wr))
  case atStart => exact ⟨0, 4, rfl, rfl, Nat.zero_le _, by omega, by omega, by omega, Lib.hid HZ.out, Lib.hid (Below.refl _ _)⟩
  case round =>
    obtain ⟨p, t, rfl, rfl, hpn, hgg, ht0, ht1, HT, BW⟩ := hrel
    by_cases hlt : p < n
    · have hltz : (p : Int) < (n : Int) := by omega
      have z1 : ¬ n ≤ p := by omega
      by_cases htt : t < 100000
      · obtain ⟨x, hx⟩ := get_is (l := l) (i := p) (by rw [HN.out]; exact hlt)
        obtain ⟨b, o, rfl, ha⟩ := at_l HA.out hx
        obtain ⟨d0, d1, d2, d3, d4⟩ := ha.below BW.out
        have hts := (get_wf HA.out.wf hx).t
        have HG := Lib.hid (sizA_at hx t)
        clear ha hx
        go_wp2_with fail
        go_roundg (n - (p + 1))
        case measure => omega
        case rel =>
          refine ⟨p + 1, t + 4 + x.t.size, by go_num, by go_num, by omega, Nat.le_refl _, by omega, by omega, Lib.hid ?_, BW⟩
          have := HG.out
          rw [if_pos htt] at this
          rw [← this]
          exact HT.out
      · have hge : 100000 ≤ t := by omega
        have HG := Lib.hid (sizA_stop (l.drop p) t htt)
        go_wp2_with fail
        go_ret
        obtain rfl : r = t := by rw [← HT.out, HG.out]
        exact ⟨rfl, BW.out⟩
    · have hltz : ¬ (p : Int) < (n : Int) := by omega
      have HG : Hid (sizA (l.drop p) t = t) := Lib.hid (by rw [List.drop_eq_nil_of_le (by rw [HN.out]; omega)]; rfl)
      go_wp2_with fail
      go_ret
      obtain rfl : r = t := by rw [← HT.out, HG.out]
      exact ⟨rfl, BW.out⟩

end Go.Proofs.Ytfikaccgpjiedaa

/-
  The laws' own helpers of stage 7: large, same (of entries).
-/
namespace Go.Proofs.Ytfikaccgpjiedaa
open Go.RowKit

theorem wrapI {x : Int} (h : I64 x) : IntKind.i64.wrap x = x := by
  rw [IntKind.wrap_i64]
  unfold I64 at h
  omega

/-- How much steps are (no more is counted once 30000 are reached). -/
def larA : List Stp → Int → Int
  | [], n => n
  | s :: l, n => if n < 30000 then larA l (n + sizA s.key 4 + sizA s.to 4) else n

def largeS (l : List Stp) : Bool := decide (30000 ≤ larA l 0) || decide (800 < l.length)

theorem larA_stop : ∀ (l : List Stp) (n : Int), ¬ n < 30000 → larA l n = n
  | [], _, _ => rfl
  | x :: l, n, h => by rw [larA, if_neg h]

theorem larA_at {l : List Stp} {p : Nat} {s : Stp} (hx : l[p]? = some s) (n : Int) : larA (l.drop p) n = if n < 30000 then larA (l.drop (p + 1)) (n + sizA s.key 4 + sizA s.to 4) else n := by
  have h1 : p < l.length := (List.getElem?_eq_some_iff.1 hx).1
  have e1 : l[p] = s := (List.getElem?_eq_some_iff.1 hx).2
  rw [List.drop_eq_getElem_cons h1, larA, e1]

theorem larA_low : ∀ (l : List Stp) (n : Int), 0 ≤ n → n ≤ larA l n ∧ (larA l n < 30000 → ∀ s ∈ l, 4 * (s.key.length : Int) ≤ larA l n ∧ 4 * (s.to.length : Int) ≤ larA l n)
  | [], n, _ => by simp [larA]
  | x :: l, n, h => by
      have k1 := sizA_low x.key 4 (by omega)
      have k2 := sizA_low x.to 4 (by omega)
      rw [larA]
      split
      · have ⟨h1, h2⟩ := larA_low l (n + sizA x.key 4 + sizA x.to 4) (by omega)
        refine ⟨by omega, fun h3 s hs => ?_⟩
        rcases List.mem_cons.mp hs with rfl | hs
        · have := k1.2 (by omega)
          have := k2.2 (by omega)
          omega
        · exact h2 h3 s hs
      · exact ⟨Int.le_refl _, fun h3 => by omega⟩

/-- What is asked of steps that are not large. -/
theorem small_steps {l : List Stp} (h : largeS l = false) : l.length ≤ 800 ∧ ∀ s ∈ l, s.key.length ≤ 7500 ∧ s.to.length ≤ 7500 := by
  unfold largeS at h
  rw [Bool.or_eq_false_iff, decide_eq_false_iff_not, decide_eq_false_iff_not] at h
  refine ⟨by omega, fun s hs => ?_⟩
  have := (larA_low l 0 (by omega)).2 (by omega) s hs
  omega

set_option maxRecDepth 100000 in
set_option maxHeartbeats 2000000 in
theorem large_is (a : Option Addr) (c n : Nat) (l : List Stp) (z : Bool) (hn : l.length = n) (hz : largeS l = z) (w : World) (h1 : SlSt w a c l) :
    Calls Try.prog 8 #[.slice a n c] w fun e w' => e = .returned (.bool z) ∧ Below w.heap.size w w' := by
  have HA := Lib.hid h1
  have HN := Lib.hid hn
  have HZ := Lib.hid hz
  have hbn : n ≤ 9223372036854775807 := by have a := h1.lc; have b := h1.cm; rw [hn] at a; unfold maxLen at b; omega
  clear h1 hn hz
  go_enter Try.func8, Try.ntmps8
  go_wp2_with fail
  go_loopg [3, 4] n (fun gg s3 s4 wr => ∃ (p : Nat) (t : Int), s4 = .int .i64 p ∧ s3 = .int .i64 t ∧ p ≤ n ∧ n - p ≤ gg ∧ 0 ≤ t ∧ t ≤ 300000000000000 ∧ Hid (larA (l.drop p) t = larA l 0) ∧ Hid (Below w.heap.size w wr))
  case atStart => exact ⟨0, 0, rfl, rfl, Nat.zero_le _, by omega, by omega, by omega, Lib.hid rfl, Lib.hid (Below.refl _ _)⟩
  case round =>
    obtain ⟨p, t, rfl, rfl, hpn, hgg, ht0, ht1, HT, BW⟩ := hrel
    by_cases hlt : p < n
    · have hltz : (p : Int) < (n : Int) := by omega
      have z1 : ¬ n ≤ p := by omega
      by_cases htt : t < 30000
      · obtain ⟨s, hs⟩ : ∃ s, l[p]? = some s := ⟨l[p]'(by rw [HN.out]; exact hlt), by simp⟩
        obtain ⟨b, o, rfl, ka, kc, ta, tc, d0, d1, d2, d3, hkey, hto, d4⟩ := at_st (HA.out.below BW.out) hs
        have HKEY := Lib.hid hkey
        have HTO := Lib.hid hto
        have HATS := Lib.hid (show wr.cell? ⟨b, o + p * 4 + 1, none⟩ = some (.slice ka s.key.length kc) ∧ wr.cell? ⟨b, o + p * 4 + 2, none⟩ = some (.slice ta s.to.length tc) ∧ b < wr.heap.size from ⟨d1, d2, d4⟩)
        have HGG := Lib.hid (larA_at hs t)
        obtain ⟨r1, hr1⟩ : ∃ r, sizA s.key 4 = r := ⟨_, rfl⟩
        obtain ⟨r2, hr2⟩ : ∃ r, sizA s.to 4 = r := ⟨_, rfl⟩
        have b1 : 4 ≤ r1 := by rw [← hr1]; exact (sizA_low _ 4 (by omega)).1
        have b2 : 4 ≤ r2 := by rw [← hr2]; exact (sizA_low _ 4 (by omega)).1
        have b3 : r1 ≤ 140737488551232 := by rw [← hr1]; exact sizA_high _ 4 hkey.wf (by omega)
        have b4 : r2 ≤ 140737488551232 := by rw [← hr2]; exact sizA_high _ 4 hto.wf (by omega)
        have HR1 := Lib.hid hr1
        have HR2 := Lib.hid hr2
        obtain ⟨kn, hkn⟩ : ∃ kn, s.key.length = kn := ⟨_, rfl⟩
        obtain ⟨tn, htn⟩ : ∃ tn, s.to.length = tn := ⟨_, rfl⟩
        have HKN := Lib.hid hkn
        have HTN := Lib.hid htn
        rw [hkn, htn] at HATS
        clear d0 d1 d2 d3 d4 hkey hto hs hr1 hr2 hkn htn
        have s1 : IntKind.i64.wrap (t + r1) = t + r1 := wrapI (by unfold I64; omega)
        have s2 : IntKind.i64.wrap (t + r1 + r2) = t + r1 + r2 := wrapI (by unfold I64; omega)
        go_wp2_with fail
        have hdr := below_drw wr
        try simp only [List.append_eq, List.cons_append, List.nil_append]
        refine RX.wp_region_plan (fun w w' => Below w.heap.size w w') [.it (.int .i64 t), .it (.slice (some ⟨b, o, none⟩) n c), .it (.int .i64 (p : Int)), .it (.pointer (some ⟨b, o + p * 4, none⟩)), .it (.pointer (some ⟨b, o + p * 4 + 1, none⟩)), .it (.slice ka kn kc), .it (.int .i64 r1), .it (.int .i64 (t + r1)), .it (.slice (some ⟨b, o, none⟩) n c), .it (.int .i64 (p : Int)), .it (.pointer (some ⟨b, o + p * 4, none⟩)), .it (.pointer (some ⟨b, o + p * 4 + 2, none⟩)), .it (.slice ta tn tc), .it (.int .i64 r2), .it (.int .i64 (t + r1 + r2)), .it (.int .i64 (t + r1 + r2))] (by kernel_rfl) (by kernel_rfl) (fun _ => Below.refl _ _) (fun _ _ _ => below_tr) ?_
        refine RX.seqP_value (fun _ => Below.refl _ _) _ (by first | rfl | simp) (fun w' hw' hctx => by (go_simp); (try first | with_reducible rfl | simp)) ?_
        simp only [Act.put, List.setIfInBounds_toArray, List.set_cons_zero, List.set_cons_succ]
        refine RX.seqP_value (fun _ => Below.refl _ _) _ (by first | rfl | simp) (fun w' hw' hctx => by (go_simp); (try first | with_reducible rfl | simp)) ?_
        simp only [Act.put, List.setIfInBounds_toArray, List.set_cons_zero, List.set_cons_succ]
        refine RX.seqP_value (fun _ => Below.refl _ _) _ (by first | rfl | simp) (fun w' hw' hctx => by (go_simp); (try first | with_reducible rfl | simp)) ?_
        simp only [Act.put, List.setIfInBounds_toArray, List.set_cons_zero, List.set_cons_succ]
        refine RX.seqP_value (fun _ => Below.refl _ _) _ (by first | rfl | simp) (fun w' hw' hctx => by (go_simp); (try first | with_reducible rfl | simp)) ?_
        simp only [Act.put, List.setIfInBounds_toArray, List.set_cons_zero, List.set_cons_succ]
        refine RX.seqP_value (fun _ => Below.refl _ _) _ (by first | rfl | simp) (fun w' hw' hctx => by (go_simp); (try first | with_reducible rfl | simp)) ?_
        simp only [Act.put, List.setIfInBounds_toArray, List.set_cons_zero, List.set_cons_succ]
        refine RX.seqP_value (fun _ => Below.refl _ _) _ (by first | rfl | simp) (fun w' hw' hctx => ?_) ?_
        · obtain ⟨c1, c2⟩ : w'.cell? ⟨b, o + p * 4 + 1, none⟩ = some (.slice ka kn kc) ∧ w'.cell? ⟨b, o + p * 4 + 2, none⟩ = some (.slice ta tn tc) := ⟨by rw [(below_tr hdr hw').cell HATS.out.2.2]; exact HATS.out.1, by rw [(below_tr hdr hw').cell HATS.out.2.2]; exact HATS.out.2.1⟩
          go_simp
          try first | with_reducible rfl | simp
        simp only [Act.put, List.setIfInBounds_toArray, List.set_cons_zero, List.set_cons_succ]
        refine RX.seqP_call (18) #[.slice ka kn kc] (.int .i64 r1) (by first | rfl | simp) (fun w' hw' hctx => ?_) (fun w' hw' hctx => size_is ka kc kn s.key r1 HKN.out HR1.out w' (HKEY.out.below (below_tr hdr hw'))) ?_
        · go_simp
        simp only [Act.put, List.setIfInBounds_toArray, List.set_cons_zero, List.set_cons_succ]
        refine RX.seqP_value (fun _ => Below.refl _ _) _ (by first | rfl | simp) (fun w' hw' hctx => by (go_simp); (try first | with_reducible rfl | simp)) ?_
        simp only [Act.put, List.setIfInBounds_toArray, List.set_cons_zero, List.set_cons_succ]
        refine RX.seqP_value (fun _ => Below.refl _ _) _ (by first | rfl | simp) (fun w' hw' hctx => by (go_simp); (try first | with_reducible rfl | simp)) ?_
        simp only [Act.put, List.setIfInBounds_toArray, List.set_cons_zero, List.set_cons_succ]
        refine RX.seqP_value (fun _ => Below.refl _ _) _ (by first | rfl | simp) (fun w' hw' hctx => by (go_simp); (try first | with_reducible rfl | simp)) ?_
        simp only [Act.put, List.setIfInBounds_toArray, List.set_cons_zero, List.set_cons_succ]
        refine RX.seqP_value (fun _ => Below.refl _ _) _ (by first | rfl | simp) (fun w' hw' hctx => by (go_simp); (try first | with_reducible rfl | simp)) ?_
        simp only [Act.put, List.setIfInBounds_toArray, List.set_cons_zero, List.set_cons_succ]
        refine RX.seqP_value (fun _ => Below.refl _ _) _ (by first | rfl | simp) (fun w' hw' hctx => by (go_simp); (try first | with_reducible rfl | simp)) ?_
        simp only [Act.put, List.setIfInBounds_toArray, List.set_cons_zero, List.set_cons_succ]
        refine RX.seqP_value (fun _ => Below.refl _ _) _ (by first | rfl | simp) (fun w' hw' hctx => ?_) ?_
        · obtain ⟨c1, c2⟩ : w'.cell? ⟨b, o + p * 4 + 1, none⟩ = some (.slice ka kn kc) ∧ w'.cell? ⟨b, o + p * 4 + 2, none⟩ = some (.slice ta tn tc) := ⟨by rw [(below_tr hdr hw').cell HATS.out.2.2]; exact HATS.out.1, by rw [(below_tr hdr hw').cell HATS.out.2.2]; exact HATS.out.2.1⟩
          go_simp
          try first | with_reducible rfl | simp
        simp only [Act.put, List.setIfInBounds_toArray, List.set_cons_zero, List.set_cons_succ]
        refine RX.seqP_call (18) #[.slice ta tn tc] (.int .i64 r2) (by first | rfl | simp) (fun w' hw' hctx => ?_) (fun w' hw' hctx => size_is ta tc tn s.to r2 HTN.out HR2.out w' (HTO.out.below (below_tr hdr hw'))) ?_
        · go_simp
        simp only [Act.put, List.setIfInBounds_toArray, List.set_cons_zero, List.set_cons_succ]
        refine RX.seqP_value (fun _ => Below.refl _ _) _ (by first | rfl | simp) (fun w' hw' hctx => by (go_simp); (try first | with_reducible rfl | simp)) ?_
        simp only [Act.put, List.setIfInBounds_toArray, List.set_cons_zero, List.set_cons_succ]
        refine RX.seqP_value (fun _ => Below.refl _ _) _ (by first | rfl | simp) (fun w' hw' hctx => by (go_simp); (try first | with_reducible rfl | simp)) ?_
        simp only [Act.put, List.setIfInBounds_toArray, List.set_cons_zero, List.set_cons_succ]
        refine RX.seqP_nil (fun v1 hR hctx _ => ?_)
        have hv1 := below_tr hdr hR
        clear hctx hR
        have BV := Lib.hid (BW.out.trans (hv1.mono BW.out.size))
        clear hv1
        go_wp2_with fail
        go_roundg (n - (p + 1))
        case measure => omega
        case rel =>
          refine ⟨p + 1, t + r1 + r2, by go_num, rfl, by omega, Nat.le_refl _, by omega, by omega, Lib.hid ?_, BV⟩
          have := HGG.out
          rw [if_pos htt, HR1.out, HR2.out] at this
          rw [← this]
          exact HT.out
      · have hge : 30000 ≤ t := by omega
        have hL : larA l 0 = t := by rw [← HT.out, larA_stop _ t htt]
        obtain rfl : z = true := by rw [← HZ.out, largeS, hL]; simp [hge]
        clear hL
        go_wp2_with fail
        go_ret
        exact ⟨rfl, BW.out⟩
    · have hltz : ¬ (p : Int) < (n : Int) := by omega
      have hL : larA l 0 = t := by rw [← HT.out, List.drop_eq_nil_of_le (by rw [HN.out]; omega)]; rfl
      by_cases hge : 30000 ≤ t
      · obtain rfl : z = true := by rw [← HZ.out, largeS, hL]; simp [hge]
        clear hL
        go_wp2_with fail
        go_ret
        exact ⟨rfl, BW.out⟩
      · have hge' : t < 30000 := by omega
        by_cases h8 : 800 < n
        · have h8z : 800 < (n : Int) := by omega
          obtain rfl : z = true := by rw [← HZ.out, largeS, HN.out]; simp [h8]
          clear hL
          go_wp2_with fail
          go_ret
          exact ⟨rfl, BW.out⟩
        · have h8z : ¬ 800 < (n : Int) := by omega
          obtain rfl : z = false := by rw [← HZ.out, largeS, hL, HN.out]; simp [hge, h8]
          clear hL
          go_wp2_with fail
          go_ret
          exact ⟨rfl, BW.out⟩

end Go.Proofs.Ytfikaccgpjiedaa

/-
  The laws' own helper same (of entries): stage 7.
-/
namespace Go.Proofs.Ytfikaccgpjiedaa
open Go.RowKit

theorem take_ent {l m : List Ent} {p : Nat} {x y : Ent} (h : l.take p = m.take p) (hx : l[p]? = some x) (hy : m[p]? = some y) (e : x = y) : l.take (p + 1) = m.take (p + 1) := by
  rw [List.take_add_one, List.take_add_one, h, hx, hy, e]

theorem ne_ent {l m : List Ent} {p : Nat} {x y : Ent} (hx : l[p]? = some x) (hy : m[p]? = some y) (e : x ≠ y) : l ≠ m := by
  rintro rfl
  rw [hx] at hy
  exact e (Option.some.inj hy)

set_option maxRecDepth 100000 in
set_option maxHeartbeats 2000000 in
theorem sameE_is (G G' : Nat → Prop) (a a' : Option Addr) (c c' n k : Nat) (l m : List Ent) (z0 : Bool) (hn : l.length = n) (hk : m.length = k) (hz : decide (l = m) = z0) (w : World) (h1 : SlEn G w a c l) (h2 : SlEn G' w a' c' m) :
    Calls Try.prog 20 #[.slice a n c, .slice a' k c'] w fun e w' => e = .returned (.bool z0) ∧ Below w.heap.size w w' := by
  have HA := Lib.hid h1
  have HB := Lib.hid h2
  have HN := Lib.hid hn
  have HK := Lib.hid hk
  have HZ := Lib.hid hz
  have hbn : n ≤ 9223372036854775807 := by have a := h1.lc; have b := h1.cm; rw [hn] at a; unfold maxLen at b; omega
  clear h1 h2
  by_cases hnk : n = k
  · subst hnk
    clear hn hk hz
    go_enter Try.func20, Try.ntmps20
    go_wp2_with fail
    go_loopg [5] n (fun gg s5 wr => ∃ p : Nat, s5 = .int .i64 p ∧ p ≤ n ∧ n - p ≤ gg ∧ Hid (l.take p = m.take p) ∧ Hid (Below w.heap.size w wr))
    case atStart => exact ⟨0, rfl, Nat.zero_le _, by omega, Lib.hid rfl, Lib.hid (Below.refl _ _)⟩
    case round =>
      obtain ⟨p, rfl, hpn, hgg, HT, BW⟩ := hrel
      by_cases hlt : p < n
      · have hltz : (p : Int) < (n : Int) := by omega
        have z1 : ¬ n ≤ p := by omega
        obtain ⟨x, hx⟩ : ∃ x, l[p]? = some x := ⟨l[p]'(by rw [HN.out]; exact hlt), by simp⟩
        obtain ⟨y, hy⟩ : ∃ y, m[p]? = some y := ⟨m[p]'(by rw [HK.out]; exact hlt), by simp⟩
        obtain ⟨b, o, rfl, ka, kc, d0, d1, d2, d3, _⟩ := at_en (HA.out.below BW.out) hx
        obtain ⟨b', o', rfl, ka', kc', e0, e1, e2, e3, _⟩ := at_en (HB.out.below BW.out) hy
        obtain ⟨kn, hkn⟩ : ∃ kn, x.key.length = kn := ⟨_, rfl⟩
        obtain ⟨kn', hkn'⟩ : ∃ kn, y.key.length = kn := ⟨_, rfl⟩
        rw [hkn] at d0
        rw [hkn'] at e0
        have HKX := Lib.hid hkn
        have HKY := Lib.hid hkn'
        have HCX : Hid (∀ W', Below wr.heap.size wr W' → W'.cell? ⟨b, o + p * 2, none⟩ = some (.slice ka kn kc) ∧ W'.cell? ⟨b, o + p * 2 + 1, none⟩ = some (.int .i64 x.id)) := Lib.hid (fun W' hb => ⟨by rw [hb.cell d3]; exact d0, by rw [hb.cell d3]; exact d1⟩)
        have HCY : Hid (∀ W', Below wr.heap.size wr W' → W'.cell? ⟨b', o' + p * 2, none⟩ = some (.slice ka' kn' kc') ∧ W'.cell? ⟨b', o' + p * 2 + 1, none⟩ = some (.int .i64 y.id)) := Lib.hid (fun W' hb => ⟨by rw [hb.cell e3]; exact e0, by rw [hb.cell e3]; exact e1⟩)
        have HSX := Lib.hid d2.sl
        have HSY := Lib.hid e2.sl
        have HX := Lib.hid hx
        have HY := Lib.hid hy
        clear hx hy d0 d1 d2 d3 e0 e1 e2 e3 hkn hkn'
        by_cases hid : x.id = y.id
        · have hq : (x.id == y.id) = true := by simpa using hid
          obtain ⟨z, hz⟩ : ∃ z, decide (x.key = y.key) = z := ⟨_, rfl⟩
          have HZK := Lib.hid hz
          have HID := Lib.hid hid
          rw [← hid] at HCY
          clear hz hid hq
          go_wp2_with fail
          have hdr := below_drw wr
          try simp only [List.append_eq, List.cons_append, List.nil_append]
          refine RX.wp_region_plan (fun w w' => Below w.heap.size w w') [.it (.slice (some ⟨b, o, none⟩) n c), .it (.int .i64 (p : Int)), .it (.pointer (some ⟨b, o + p * 2, none⟩)), .it (.pointer (some ⟨b, o + p * 2 + 1, none⟩)), .it (.int .i64 x.id), .it (.slice (some ⟨b', o', none⟩) n c'), .it (.int .i64 (p : Int)), .it (.pointer (some ⟨b', o' + p * 2, none⟩)), .it (.pointer (some ⟨b', o' + p * 2 + 1, none⟩)), .it (.int .i64 x.id), .it (.bool false), .it (.bool false), .it (.slice (some ⟨b, o, none⟩) n c), .it (.int .i64 (p : Int)), .it (.pointer (some ⟨b, o + p * 2, none⟩)), .it (.pointer (some ⟨b, o + p * 2, none⟩)), .it (.slice ka kn kc), .it (.slice (some ⟨b', o', none⟩) n c'), .it (.int .i64 (p : Int)), .it (.pointer (some ⟨b', o' + p * 2, none⟩)), .it (.pointer (some ⟨b', o' + p * 2, none⟩)), .it (.slice ka' kn' kc'), .it (.bool z), .it (.bool (!z)), .it (.bool (!z))] (by kernel_rfl) (by kernel_rfl) (fun _ => Below.refl _ _) (fun _ _ _ => below_tr) ?_
          refine RX.seqP_value (fun _ => Below.refl _ _) _ (by first | rfl | simp) (fun w' hw' hctx => by (go_simp); (try first | with_reducible rfl | simp)) ?_
          simp only [Act.put, List.setIfInBounds_toArray, List.set_cons_zero, List.set_cons_succ]
          refine RX.seqP_value (fun _ => Below.refl _ _) _ (by first | rfl | simp) (fun w' hw' hctx => by (go_simp); (try first | with_reducible rfl | simp)) ?_
          simp only [Act.put, List.setIfInBounds_toArray, List.set_cons_zero, List.set_cons_succ]
          refine RX.seqP_value (fun _ => Below.refl _ _) _ (by first | rfl | simp) (fun w' hw' hctx => by (go_simp); (try first | with_reducible rfl | simp)) ?_
          simp only [Act.put, List.setIfInBounds_toArray, List.set_cons_zero, List.set_cons_succ]
          refine RX.seqP_value (fun _ => Below.refl _ _) _ (by first | rfl | simp) (fun w' hw' hctx => by (go_simp); (try first | with_reducible rfl | simp)) ?_
          simp only [Act.put, List.setIfInBounds_toArray, List.set_cons_zero, List.set_cons_succ]
          refine RX.seqP_value (fun _ => Below.refl _ _) _ (by first | rfl | simp) (fun w' hw' hctx => ?_) ?_
          · have c1 := HCX.out w' (below_tr hdr hw') |>.2
            go_simp
            try first | with_reducible rfl | simp
          simp only [Act.put, List.setIfInBounds_toArray, List.set_cons_zero, List.set_cons_succ]
          refine RX.seqP_value (fun _ => Below.refl _ _) _ (by first | rfl | simp) (fun w' hw' hctx => by (go_simp); (try first | with_reducible rfl | simp)) ?_
          simp only [Act.put, List.setIfInBounds_toArray, List.set_cons_zero, List.set_cons_succ]
          refine RX.seqP_value (fun _ => Below.refl _ _) _ (by first | rfl | simp) (fun w' hw' hctx => by (go_simp); (try first | with_reducible rfl | simp)) ?_
          simp only [Act.put, List.setIfInBounds_toArray, List.set_cons_zero, List.set_cons_succ]
          refine RX.seqP_value (fun _ => Below.refl _ _) _ (by first | rfl | simp) (fun w' hw' hctx => by (go_simp); (try first | with_reducible rfl | simp)) ?_
          simp only [Act.put, List.setIfInBounds_toArray, List.set_cons_zero, List.set_cons_succ]
          refine RX.seqP_value (fun _ => Below.refl _ _) _ (by first | rfl | simp) (fun w' hw' hctx => by (go_simp); (try first | with_reducible rfl | simp)) ?_
          simp only [Act.put, List.setIfInBounds_toArray, List.set_cons_zero, List.set_cons_succ]
          refine RX.seqP_value (fun _ => Below.refl _ _) _ (by first | rfl | simp) (fun w' hw' hctx => ?_) ?_
          · have c1 := HCY.out w' (below_tr hdr hw') |>.2
            go_simp
            try first | with_reducible rfl | simp
          simp only [Act.put, List.setIfInBounds_toArray, List.set_cons_zero, List.set_cons_succ]
          refine RX.seqP_value (fun _ => Below.refl _ _) _ (by first | rfl | simp) (fun w' hw' hctx => by (go_simp); (try first | with_reducible rfl | simp)) ?_
          simp only [Act.put, List.setIfInBounds_toArray, List.set_cons_zero, List.set_cons_succ]
          refine RX.seqP_value (fun _ => Below.refl _ _) _ (by first | rfl | simp) (fun w' hw' hctx => by (go_simp); (try first | with_reducible rfl | simp)) ?_
          simp only [Act.put, List.setIfInBounds_toArray, List.set_cons_zero, List.set_cons_succ]
          refine RX.seqP_value (fun _ => Below.refl _ _) _ (by first | rfl | simp) (fun w' hw' hctx => by (go_simp); (try first | with_reducible rfl | simp)) ?_
          simp only [Act.put, List.setIfInBounds_toArray, List.set_cons_zero, List.set_cons_succ]
          refine RX.seqP_value (fun _ => Below.refl _ _) _ (by first | rfl | simp) (fun w' hw' hctx => by (go_simp); (try first | with_reducible rfl | simp)) ?_
          simp only [Act.put, List.setIfInBounds_toArray, List.set_cons_zero, List.set_cons_succ]
          refine RX.seqP_value (fun _ => Below.refl _ _) _ (by first | rfl | simp) (fun w' hw' hctx => by (go_simp); (try first | with_reducible rfl | simp)) ?_
          simp only [Act.put, List.setIfInBounds_toArray, List.set_cons_zero, List.set_cons_succ]
          refine RX.seqP_value (fun _ => Below.refl _ _) _ (by first | rfl | simp) (fun w' hw' hctx => by (go_simp); (try first | with_reducible rfl | simp)) ?_
          simp only [Act.put, List.setIfInBounds_toArray, List.set_cons_zero, List.set_cons_succ]
          refine RX.seqP_value (fun _ => Below.refl _ _) _ (by first | rfl | simp) (fun w' hw' hctx => ?_) ?_
          · have c1 := HCX.out w' (below_tr hdr hw') |>.1
            go_simp
            try first | with_reducible rfl | simp
          simp only [Act.put, List.setIfInBounds_toArray, List.set_cons_zero, List.set_cons_succ]
          refine RX.seqP_value (fun _ => Below.refl _ _) _ (by first | rfl | simp) (fun w' hw' hctx => by (go_simp); (try first | with_reducible rfl | simp)) ?_
          simp only [Act.put, List.setIfInBounds_toArray, List.set_cons_zero, List.set_cons_succ]
          refine RX.seqP_value (fun _ => Below.refl _ _) _ (by first | rfl | simp) (fun w' hw' hctx => by (go_simp); (try first | with_reducible rfl | simp)) ?_
          simp only [Act.put, List.setIfInBounds_toArray, List.set_cons_zero, List.set_cons_succ]
          refine RX.seqP_value (fun _ => Below.refl _ _) _ (by first | rfl | simp) (fun w' hw' hctx => by (go_simp); (try first | with_reducible rfl | simp)) ?_
          simp only [Act.put, List.setIfInBounds_toArray, List.set_cons_zero, List.set_cons_succ]
          refine RX.seqP_value (fun _ => Below.refl _ _) _ (by first | rfl | simp) (fun w' hw' hctx => by (go_simp); (try first | with_reducible rfl | simp)) ?_
          simp only [Act.put, List.setIfInBounds_toArray, List.set_cons_zero, List.set_cons_succ]
          refine RX.seqP_value (fun _ => Below.refl _ _) _ (by first | rfl | simp) (fun w' hw' hctx => ?_) ?_
          · have c1 := HCY.out w' (below_tr hdr hw') |>.1
            go_simp
            try first | with_reducible rfl | simp
          simp only [Act.put, List.setIfInBounds_toArray, List.set_cons_zero, List.set_cons_succ]
          refine RX.seqP_call (21) #[.slice ka kn kc, .slice ka' kn' kc'] (.bool z) (by first | rfl | simp) (fun w' hw' hctx => ?_) (fun w' hw' hctx => rsame_is ka ka' kc kc' kn kn' x.key y.key z HKX.out HKY.out HZK.out w' (HSX.out.below (below_tr hdr hw')) (HSY.out.below (below_tr hdr hw'))) ?_
          · go_simp
          simp only [Act.put, List.setIfInBounds_toArray, List.set_cons_zero, List.set_cons_succ]
          refine RX.seqP_value (fun _ => Below.refl _ _) _ (by first | rfl | simp) (fun w' hw' hctx => by (go_simp); (try first | with_reducible rfl | simp)) ?_
          simp only [Act.put, List.setIfInBounds_toArray, List.set_cons_zero, List.set_cons_succ]
          refine RX.seqP_value (fun _ => Below.refl _ _) _ (by first | rfl | simp) (fun w' hw' hctx => by (go_simp); (try first | with_reducible rfl | simp)) ?_
          simp only [Act.put, List.setIfInBounds_toArray, List.set_cons_zero, List.set_cons_succ]
          refine RX.seqP_nil (fun v1 hR hctx _ => ?_)
          have hv1 := below_tr hdr hR
          clear hctx hR
          have BV := Lib.hid (BW.out.trans (hv1.mono BW.out.size))
          clear hv1
          cases z with
          | true =>
            have hxy : x = y := by
              obtain ⟨k1, i1⟩ := x
              obtain ⟨k2, i2⟩ := y
              rw [Ent.mk.injEq]
              exact ⟨of_decide_eq_true HZK.out, HID.out⟩
            go_wp2_with fail
            go_roundg (n - (p + 1))
            case measure => omega
            case rel => exact ⟨p + 1, by go_num, by omega, Nat.le_refl _, Lib.hid (take_ent HT.out HX.out HY.out hxy), BV⟩
          | false =>
            obtain rfl : z0 = false := by
              rw [← HZ.out]
              exact decide_eq_false (ne_ent HX.out HY.out (fun e => by have := of_decide_eq_false HZK.out; exact this (by rw [e])))
            go_wp2_with fail
            go_ret
            exact ⟨rfl, BV.out⟩
        · have hq : (x.id == y.id) = false := by simpa using hid
          obtain rfl : z0 = false := by
            rw [← HZ.out]
            exact decide_eq_false (ne_ent HX.out HY.out (fun e => hid (by rw [e])))
          go_wp2_with fail
          have hdr := below_drw wr
          try simp only [List.append_eq, List.cons_append, List.nil_append]
          refine RX.wp_region_plan (fun w w' => Below w.heap.size w w') [.it (.slice (some ⟨b, o, none⟩) n c), .it (.int .i64 (p : Int)), .it (.pointer (some ⟨b, o + p * 2, none⟩)), .it (.pointer (some ⟨b, o + p * 2 + 1, none⟩)), .it (.int .i64 x.id), .it (.slice (some ⟨b', o', none⟩) n c'), .it (.int .i64 (p : Int)), .it (.pointer (some ⟨b', o' + p * 2, none⟩)), .it (.pointer (some ⟨b', o' + p * 2 + 1, none⟩)), .it (.int .i64 y.id), .it (.bool true), .it (.bool true), .it undef, .it undef, .it undef, .it undef, .it undef, .it undef, .it undef, .it undef, .it undef, .it undef, .it undef, .it undef, .it (.bool true)] (by kernel_rfl) (by kernel_rfl) (fun _ => Below.refl _ _) (fun _ _ _ => below_tr) ?_
          refine RX.seqP_value (fun _ => Below.refl _ _) _ (by first | rfl | simp) (fun w' hw' hctx => by (go_simp); (try first | with_reducible rfl | simp)) ?_
          simp only [Act.put, List.setIfInBounds_toArray, List.set_cons_zero, List.set_cons_succ]
          refine RX.seqP_value (fun _ => Below.refl _ _) _ (by first | rfl | simp) (fun w' hw' hctx => by (go_simp); (try first | with_reducible rfl | simp)) ?_
          simp only [Act.put, List.setIfInBounds_toArray, List.set_cons_zero, List.set_cons_succ]
          refine RX.seqP_value (fun _ => Below.refl _ _) _ (by first | rfl | simp) (fun w' hw' hctx => by (go_simp); (try first | with_reducible rfl | simp)) ?_
          simp only [Act.put, List.setIfInBounds_toArray, List.set_cons_zero, List.set_cons_succ]
          refine RX.seqP_value (fun _ => Below.refl _ _) _ (by first | rfl | simp) (fun w' hw' hctx => by (go_simp); (try first | with_reducible rfl | simp)) ?_
          simp only [Act.put, List.setIfInBounds_toArray, List.set_cons_zero, List.set_cons_succ]
          refine RX.seqP_value (fun _ => Below.refl _ _) _ (by first | rfl | simp) (fun w' hw' hctx => ?_) ?_
          · have c1 := HCX.out w' (below_tr hdr hw') |>.2
            go_simp
            try first | with_reducible rfl | simp
          simp only [Act.put, List.setIfInBounds_toArray, List.set_cons_zero, List.set_cons_succ]
          refine RX.seqP_value (fun _ => Below.refl _ _) _ (by first | rfl | simp) (fun w' hw' hctx => by (go_simp); (try first | with_reducible rfl | simp)) ?_
          simp only [Act.put, List.setIfInBounds_toArray, List.set_cons_zero, List.set_cons_succ]
          refine RX.seqP_value (fun _ => Below.refl _ _) _ (by first | rfl | simp) (fun w' hw' hctx => by (go_simp); (try first | with_reducible rfl | simp)) ?_
          simp only [Act.put, List.setIfInBounds_toArray, List.set_cons_zero, List.set_cons_succ]
          refine RX.seqP_value (fun _ => Below.refl _ _) _ (by first | rfl | simp) (fun w' hw' hctx => by (go_simp); (try first | with_reducible rfl | simp)) ?_
          simp only [Act.put, List.setIfInBounds_toArray, List.set_cons_zero, List.set_cons_succ]
          refine RX.seqP_value (fun _ => Below.refl _ _) _ (by first | rfl | simp) (fun w' hw' hctx => by (go_simp); (try first | with_reducible rfl | simp)) ?_
          simp only [Act.put, List.setIfInBounds_toArray, List.set_cons_zero, List.set_cons_succ]
          refine RX.seqP_value (fun _ => Below.refl _ _) _ (by first | rfl | simp) (fun w' hw' hctx => ?_) ?_
          · have c1 := HCY.out w' (below_tr hdr hw') |>.2
            go_simp
            try first | with_reducible rfl | simp
          simp only [Act.put, List.setIfInBounds_toArray, List.set_cons_zero, List.set_cons_succ]
          refine RX.seqP_value (fun _ => Below.refl _ _) _ (by first | rfl | simp) (fun w' hw' hctx => by (go_simp); (try first | with_reducible rfl | simp)) ?_
          simp only [Act.put, List.setIfInBounds_toArray, List.set_cons_zero, List.set_cons_succ]
          refine RX.seqP_value (fun _ => Below.refl _ _) _ (by first | rfl | simp) (fun w' hw' hctx => by (go_simp); (try first | with_reducible rfl | simp)) ?_
          simp only [Act.put, List.setIfInBounds_toArray, List.set_cons_zero, List.set_cons_succ]
          refine RX.seqP_skip (by first | rfl | simp) ?_
          simp only [Act.put, List.setIfInBounds_toArray, List.set_cons_zero, List.set_cons_succ]
          refine RX.seqP_skip (by first | rfl | simp) ?_
          simp only [Act.put, List.setIfInBounds_toArray, List.set_cons_zero, List.set_cons_succ]
          refine RX.seqP_skip (by first | rfl | simp) ?_
          simp only [Act.put, List.setIfInBounds_toArray, List.set_cons_zero, List.set_cons_succ]
          refine RX.seqP_skip (by first | rfl | simp) ?_
          simp only [Act.put, List.setIfInBounds_toArray, List.set_cons_zero, List.set_cons_succ]
          refine RX.seqP_skip (by first | rfl | simp) ?_
          simp only [Act.put, List.setIfInBounds_toArray, List.set_cons_zero, List.set_cons_succ]
          refine RX.seqP_skip (by first | rfl | simp) ?_
          simp only [Act.put, List.setIfInBounds_toArray, List.set_cons_zero, List.set_cons_succ]
          refine RX.seqP_skip (by first | rfl | simp) ?_
          simp only [Act.put, List.setIfInBounds_toArray, List.set_cons_zero, List.set_cons_succ]
          refine RX.seqP_skip (by first | rfl | simp) ?_
          simp only [Act.put, List.setIfInBounds_toArray, List.set_cons_zero, List.set_cons_succ]
          refine RX.seqP_skip (by first | rfl | simp) ?_
          simp only [Act.put, List.setIfInBounds_toArray, List.set_cons_zero, List.set_cons_succ]
          refine RX.seqP_skip (by first | rfl | simp) ?_
          simp only [Act.put, List.setIfInBounds_toArray, List.set_cons_zero, List.set_cons_succ]
          refine RX.seqP_skip (by first | rfl | simp) ?_
          simp only [Act.put, List.setIfInBounds_toArray, List.set_cons_zero, List.set_cons_succ]
          refine RX.seqP_skip (by first | rfl | simp) ?_
          simp only [Act.put, List.setIfInBounds_toArray, List.set_cons_zero, List.set_cons_succ]
          refine RX.seqP_value (fun _ => Below.refl _ _) _ (by first | rfl | simp) (fun w' hw' hctx => by (go_simp); (try first | with_reducible rfl | simp)) ?_
          simp only [Act.put, List.setIfInBounds_toArray, List.set_cons_zero, List.set_cons_succ]
          refine RX.seqP_nil (fun v1 hR hctx _ => ?_)
          have hv1 := below_tr hdr hR
          clear hctx hR
          have BV := Lib.hid (BW.out.trans (hv1.mono BW.out.size))
          clear hv1
          go_wp2_with fail
          go_ret
          exact ⟨rfl, BV.out⟩
      · have hltz : ¬ (p : Int) < (n : Int) := by omega
        go_wp2_with fail
        go_ret
        have ht := HT.out
        rw [List.take_of_length_le (by rw [HN.out]; omega), List.take_of_length_le (by rw [HK.out]; omega)] at ht
        obtain rfl : z0 = true := by rw [← HZ.out]; exact decide_eq_true ht
        exact ⟨rfl, BW.out⟩
  · have hne : ¬ (n : Int) = (k : Int) := by omega
    have hz' : z0 = false := by rw [← hz]; exact decide_eq_false (fun e => hnk (by rw [← hn, ← hk, e]))
    subst hz'
    clear hn hk hz HZ
    go_enter Try.func20, Try.ntmps20
    go_wp2_with fail
    go_ret
    exact ⟨rfl, Below.refl _ _⟩

end Go.Proofs.Ytfikaccgpjiedaa

