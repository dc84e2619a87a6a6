/-
  The document's own May, Has, together: walked (stage 13).
-/
import Derived.Test.YtjjhmfpdbjflmaaOMath
namespace Go.Proofs.Ytjjhmfpdbjflmaa
open Go.RowKit
set_option linter.unusedVariables false

set_option maxRecDepth 100000 in
set_option maxHeartbeats 4000000 in
theorem rmay_is (c m : Int) (hm : U8 m) (w : World) (b : Bool) (hb : mayB c m = b) : Calls Try.prog 62 #[.int .u8 c, .int .u8 m] w fun e w' => e = .returned (.bool b) ∧ Below w.heap.size w w' := by
  by_cases h1 : c = 1
  · subst h1
    by_cases m1 : 1 ≤ m
    · by_cases m8 : m ≤ 8
      · obtain rfl : b = true := by rw [← hb]; unfold mayB; simp [m1, m8]
        clear hb
        go_enter Try.func62, Try.ntmps62
        go_wp2_with fail
        go_ret
        exact ⟨rfl, Below.refl _ _⟩
      · obtain rfl : b = false := by rw [← hb]; unfold mayB; simp; omega
        clear hb
        go_enter Try.func62, Try.ntmps62
        go_wp2_with fail
        go_ret
        exact ⟨rfl, Below.refl _ _⟩
    · obtain rfl : b = false := by rw [← hb]; unfold mayB; simp; omega
      clear hb
      go_enter Try.func62, Try.ntmps62
      go_wp2_with fail
      go_ret
      exact ⟨rfl, Below.refl _ _⟩
  · have e1 : (c == 1) = false := by simpa using h1
    by_cases h2 : c = 2
    · subst h2
      by_cases m1 : m = 1
      · subst m1
        obtain rfl : b = true := by rw [← hb]; decide
        clear hb
        go_enter Try.func62, Try.ntmps62
        go_wp2_with fail
        go_ret
        exact ⟨rfl, Below.refl _ _⟩
      · have f1 : (m == 1) = false := by simpa using m1
        by_cases m2 : m = 2
        · subst m2
          obtain rfl : b = true := by rw [← hb]; decide
          clear hb
          go_enter Try.func62, Try.ntmps62
          go_wp2_with fail
          go_ret
          exact ⟨rfl, Below.refl _ _⟩
        · have f2 : (m == 2) = false := by simpa using m2
          obtain rfl : b = false := by rw [← hb]; unfold mayB; simp; omega
          clear hb
          go_enter Try.func62, Try.ntmps62
          go_wp2_with fail
          go_ret
          exact ⟨rfl, Below.refl _ _⟩
    · have e2 : (c == 2) = false := by simpa using h2
      obtain rfl : b = false := by rw [← hb]; exact may_other h1 h2 m
      clear hb
      go_enter Try.func62, Try.ntmps62
      go_wp2_with fail
      go_ret
      exact ⟨rfl, Below.refl _ _⟩

/-- Do two modes of Tables go together, the lesser one first? -/
def tog1 (a b : Int) : Bool := if a == 1 then !(b == 8) else if a == 2 then decide (b < 7) else if a == 3 then decide (b < 5) else if a == 4 then false else if a == 5 then b == 5 else false
def togB (c a b : Int) : Bool := if c = 2 then (a == 1) && (b == 1) else tog1 (if a > b then b else a) (if a > b then a else b)

set_option maxRecDepth 100000 in
set_option maxHeartbeats 4000000 in
theorem rtog_is (c a b : Int) (w : World) (r : Bool) (hr : togB c a b = r) : Calls Try.prog 63 #[.int .u8 c, .int .u8 a, .int .u8 b] w fun e w' => e = .returned (.bool r) ∧ Below w.heap.size w w' := by
  by_cases h2 : c = 2
  · subst h2
    by_cases a1 : a = 1
    · subst a1
      by_cases b1 : b = 1
      · subst b1
        obtain rfl : r = true := by rw [← hr]; decide
        clear hr
        go_enter Try.func63, Try.ntmps63
        go_wp2_with fail
        go_ret
        exact ⟨rfl, Below.refl _ _⟩
      · have f1 : (b == 1) = false := by simpa using b1
        obtain rfl : r = false := by rw [← hr]; simp [togB, f1]
        clear hr
        go_enter Try.func63, Try.ntmps63
        go_wp2_with fail
        go_ret
        exact ⟨rfl, Below.refl _ _⟩
    · have f1 : (a == 1) = false := by simpa using a1
      obtain rfl : r = false := by rw [← hr]; simp [togB, f1]
      clear hr
      go_enter Try.func63, Try.ntmps63
      go_wp2_with fail
      go_ret
      exact ⟨rfl, Below.refl _ _⟩
  · have e2 : (c == 2) = false := by simpa using h2
    have hr2 : tog1 (if a > b then b else a) (if a > b then a else b) = r := by rw [← hr]; simp [togB, h2]
    clear hr
    by_cases hab : a > b
    · rw [if_pos hab, if_pos hab] at hr2
      by_cases k1 : b = 1
      · subst k1
        by_cases g : a = 8
        · subst g
          obtain rfl : r = false := by rw [← hr2]; rfl
          clear hr2
          go_enter Try.func63, Try.ntmps63
          go_wp2_with fail
          go_ret
          exact ⟨rfl, Below.refl _ _⟩
        · have g1 : (a == 8) = false := by simpa using g
          have g2 : (a != 8) = true := by simpa using g
          obtain rfl : r = true := by rw [← hr2]; simp [tog1, g]
          clear hr2
          go_enter Try.func63, Try.ntmps63
          go_wp2_with fail
          go_ret
          exact ⟨rfl, Below.refl _ _⟩
      · have n1 : (b == 1) = false := by simpa using k1
        by_cases k2 : b = 2
        · subst k2
          by_cases g : a < 7
          · obtain rfl : r = true := by rw [← hr2]; simp [tog1, g]
            clear hr2
            go_enter Try.func63, Try.ntmps63
            go_wp2_with fail
            go_ret
            exact ⟨rfl, Below.refl _ _⟩
          · obtain rfl : r = false := by rw [← hr2]; simp [tog1]; omega
            clear hr2
            go_enter Try.func63, Try.ntmps63
            go_wp2_with fail
            go_ret
            exact ⟨rfl, Below.refl _ _⟩
        · have n2 : (b == 2) = false := by simpa using k2
          by_cases k3 : b = 3
          · subst k3
            by_cases g : a < 5
            · obtain rfl : r = true := by rw [← hr2]; simp [tog1, g]
              clear hr2
              go_enter Try.func63, Try.ntmps63
              go_wp2_with fail
              go_ret
              exact ⟨rfl, Below.refl _ _⟩
            · obtain rfl : r = false := by rw [← hr2]; simp [tog1]; omega
              clear hr2
              go_enter Try.func63, Try.ntmps63
              go_wp2_with fail
              go_ret
              exact ⟨rfl, Below.refl _ _⟩
          · have n3 : (b == 3) = false := by simpa using k3
            by_cases k4 : b = 4
            · subst k4
              obtain rfl : r = false := by rw [← hr2]; rfl
              clear hr2
              go_enter Try.func63, Try.ntmps63
              go_wp2_with fail
              go_ret
              exact ⟨rfl, Below.refl _ _⟩
            · have n4 : (b == 4) = false := by simpa using k4
              by_cases k5 : b = 5
              · subst k5
                by_cases g : a = 5
                · subst g
                  obtain rfl : r = true := by rw [← hr2]; rfl
                  clear hr2
                  go_enter Try.func63, Try.ntmps63
                  go_wp2_with fail
                  go_ret
                  exact ⟨rfl, Below.refl _ _⟩
                · have g1 : (a == 5) = false := by simpa using g
                  obtain rfl : r = false := by rw [← hr2]; simp [tog1, g]
                  clear hr2
                  go_enter Try.func63, Try.ntmps63
                  go_wp2_with fail
                  go_ret
                  exact ⟨rfl, Below.refl _ _⟩
              · have n5 : (b == 5) = false := by simpa using k5
                obtain rfl : r = false := by rw [← hr2]; simp [tog1, n1, n2, n3, n4, n5]
                clear hr2
                go_enter Try.func63, Try.ntmps63
                go_wp2_with fail
                go_ret
                exact ⟨rfl, Below.refl _ _⟩
    · rw [if_neg hab, if_neg hab] at hr2
      by_cases k1 : a = 1
      · subst k1
        by_cases g : b = 8
        · subst g
          obtain rfl : r = false := by rw [← hr2]; rfl
          clear hr2
          go_enter Try.func63, Try.ntmps63
          go_wp2_with fail
          go_ret
          exact ⟨rfl, Below.refl _ _⟩
        · have g1 : (b == 8) = false := by simpa using g
          have g2 : (b != 8) = true := by simpa using g
          obtain rfl : r = true := by rw [← hr2]; simp [tog1, g]
          clear hr2
          go_enter Try.func63, Try.ntmps63
          go_wp2_with fail
          go_ret
          exact ⟨rfl, Below.refl _ _⟩
      · have n1 : (a == 1) = false := by simpa using k1
        by_cases k2 : a = 2
        · subst k2
          by_cases g : b < 7
          · obtain rfl : r = true := by rw [← hr2]; simp [tog1, g]
            clear hr2
            go_enter Try.func63, Try.ntmps63
            go_wp2_with fail
            go_ret
            exact ⟨rfl, Below.refl _ _⟩
          · obtain rfl : r = false := by rw [← hr2]; simp [tog1]; omega
            clear hr2
            go_enter Try.func63, Try.ntmps63
            go_wp2_with fail
            go_ret
            exact ⟨rfl, Below.refl _ _⟩
        · have n2 : (a == 2) = false := by simpa using k2
          by_cases k3 : a = 3
          · subst k3
            by_cases g : b < 5
            · obtain rfl : r = true := by rw [← hr2]; simp [tog1, g]
              clear hr2
              go_enter Try.func63, Try.ntmps63
              go_wp2_with fail
              go_ret
              exact ⟨rfl, Below.refl _ _⟩
            · obtain rfl : r = false := by rw [← hr2]; simp [tog1]; omega
              clear hr2
              go_enter Try.func63, Try.ntmps63
              go_wp2_with fail
              go_ret
              exact ⟨rfl, Below.refl _ _⟩
          · have n3 : (a == 3) = false := by simpa using k3
            by_cases k4 : a = 4
            · subst k4
              obtain rfl : r = false := by rw [← hr2]; rfl
              clear hr2
              go_enter Try.func63, Try.ntmps63
              go_wp2_with fail
              go_ret
              exact ⟨rfl, Below.refl _ _⟩
            · have n4 : (a == 4) = false := by simpa using k4
              by_cases k5 : a = 5
              · subst k5
                by_cases g : b = 5
                · subst g
                  obtain rfl : r = true := by rw [← hr2]; rfl
                  clear hr2
                  go_enter Try.func63, Try.ntmps63
                  go_wp2_with fail
                  go_ret
                  exact ⟨rfl, Below.refl _ _⟩
                · have g1 : (b == 5) = false := by simpa using g
                  obtain rfl : r = false := by rw [← hr2]; simp [tog1, g]
                  clear hr2
                  go_enter Try.func63, Try.ntmps63
                  go_wp2_with fail
                  go_ret
                  exact ⟨rfl, Below.refl _ _⟩
              · have n5 : (a == 5) = false := by simpa using k5
                obtain rfl : r = false := by rw [← hr2]; simp [tog1, n1, n2, n3, n4, n5]
                clear hr2
                go_enter Try.func63, Try.ntmps63
                go_wp2_with fail
                go_ret
                exact ⟨rfl, Below.refl _ _⟩

theorem tb1 : ∀ x : Nat, x < 9 → ∀ y : Nat, y < 9 → mayB 1 (x : Int) = true → mayB 1 (y : Int) = true → togB 1 (x : Int) (y : Int) = !oppB 1 (y : Int) x := by decide +kernel
theorem tb2 : ∀ x : Nat, x < 9 → ∀ y : Nat, y < 9 → mayB 2 (x : Int) = true → mayB 2 (y : Int) = true → togB 2 (x : Int) (y : Int) = !oppB 2 (y : Int) x := by decide +kernel
theorem tog_opp {c : Int} {x y : Nat} (hx : mayB c (x : Int) = true) (hy : mayB c (y : Int) = true) : togB c (x : Int) (y : Int) = !oppB c (y : Int) x := by
  have h1 := may_8 hx
  have h2 := may_8 hy
  rcases may_class hx with rfl | rfl
  · exact tb1 x (by omega) y (by omega) hx hy
  · exact tb2 x (by omega) y (by omega) hx hy

theorem has_mod {h m : Int} (hh : U16 h) (hm : U8 m) (h15 : m < 16) : (Int.tmod (h / 2 ^ m.toNat) 2 == 1) = hasB h m.toNat := by
  obtain ⟨k, hk⟩ : ∃ k : Nat, m.toNat = k := ⟨_, rfl⟩
  obtain ⟨x, rfl⟩ : ∃ x : Nat, h = x := ⟨h.toNat, by have := hh.1; omega⟩
  rw [hk]
  have hd : ((x : Int) / 2 ^ k) = ((x / 2 ^ k : Nat) : Int) := by rw [Int.natCast_ediv, Int.natCast_pow]; rfl
  rw [hd]
  unfold hasB
  rw [Int.toNat_natCast, Nat.testBit_eq_decide_div_mod_eq]
  generalize x / 2 ^ k = y
  rw [Int.tmod_eq_emod_of_nonneg (by omega)]
  by_cases hy : y % 2 = 1
  · have : (y : Int) % 2 = 1 := by omega
    rw [this]; simp [hy]
  · have : (y : Int) % 2 = 0 := by omega
    rw [this]; simp [hy]

set_option maxRecDepth 100000 in
set_option maxHeartbeats 4000000 in
theorem rhas_is (h m : Int) (hm : U8 m) (hh : U16 h) (w : World) (b : Bool) (hb : (decide (m < 16) && hasB h m.toNat) = b) : Calls Try.prog 68 #[.int .u16 h, .int .u8 m] w fun e w' => e = .returned (.bool b) ∧ Below w.heap.size w w' := by
  have hm0 := hm.1
  have hh0 := hh.1
  by_cases h16 : m < 16
  · have hq := has_mod hh hm h16
    rw [decide_eq_true h16, Bool.true_and] at hb
    rw [hb] at hq
    clear hb
    go_enter Try.func68, Try.ntmps68
    go_wp2_with fail
    go_ret
    exact ⟨rfl, Below.refl _ _⟩
  · obtain rfl : b = false := by rw [← hb]; simp [h16]
    clear hb
    go_enter Try.func68, Try.ntmps68
    go_wp2_with fail
    go_ret
    exact ⟨rfl, Below.refl _ _⟩

end Go.Proofs.Ytjjhmfpdbjflmaa
