/-
  What value.Compare and its order functions answer, as walks over this translation.
-/
import Derived.Test.YtoglaibcmfjclaaDoorChecked
import Derived.Test.YtoglaibcmfjclaaDoorReg
import Derived.WalkKit
import Derived.WalkSpells
import Derived.WalkLawsBesides
import Derived.Deep.RegionHeld3
import Derived.Deep.DrawnRows
namespace Go.Proofs.YtoglaibcmfjclaaDoor
open Go.RowKit
attribute [local go_sem ↓] Go.wp_at_zero Go.wp_at_succ

def cmpI (a b : Int) : Int := if a < b then -1 else if b < a then 1 else 0
def cmpS (a b : ByteArray) : Int := if Op.bytesLess a.toList b.toList = true then -1 else if Op.bytesLess b.toList a.toList = true then 1 else 0
def pick4 (c x y z : Int) : Int := if c ≠ 0 then c else if x ≠ 0 then x else if y ≠ 0 then y else z
def cmpV (k n hi : Int) (t : ByteArray) (k' n' hi' : Int) (t' : ByteArray) : Int := pick4 (cmpI k k') (cmpI n n') (cmpI hi hi') (cmpS t t')

set_option maxHeartbeats 400000 in
theorem order_i64_nil (a b : Int) (w : World) :
    Calls Tryd.prog 51 #[.int .i64 a, .int .i64 b, .slice none 0 0] w fun e w' => e = .returned (.int .i64 (cmpI a b)) ∧ w = w' := by
  by_cases h1 : a < b
  · go_enter Tryd.func51, Tryd.ntmps51
    go_wp2
    go_ret
    exact ⟨by simp [cmpI, h1], rfl⟩
  · by_cases h2 : b < a
    · go_enter Tryd.func51, Tryd.ntmps51
      go_wp2
      go_ret
      exact ⟨by simp [cmpI, h1, h2], rfl⟩
    · go_enter Tryd.func51, Tryd.ntmps51
      go_wp2
      refine wp_loop_rounds 1 ?_
      rw [rounds_succ]
      go_wp2
      go_ret
      exact ⟨by simp [cmpI]; omega, rfl⟩

set_option maxHeartbeats 400000 in
theorem order_str_nil (a b : ByteArray) (w : World) :
    Calls Tryd.prog 52 #[.string a, .string b, .slice none 0 0] w fun e w' => e = .returned (.int .i64 (cmpS a b)) ∧ w = w' := by
  cases h1 : Op.bytesLess a.toList b.toList
  · cases h2 : Op.bytesLess b.toList a.toList
    · go_enter Tryd.func52, Tryd.ntmps52
      go_wp2
      refine wp_loop_rounds 1 ?_
      rw [rounds_succ]
      go_wp2
      go_ret
      exact ⟨by simp [cmpS, h1, h2], rfl⟩
    · go_enter Tryd.func52, Tryd.ntmps52
      go_wp2
      go_ret
      exact ⟨by simp [cmpS, h1, h2], rfl⟩
  · go_enter Tryd.func52, Tryd.ntmps52
    go_wp2
    go_ret
    exact ⟨by simp [cmpS, h1], rfl⟩

set_option maxHeartbeats 1000000 in
theorem order_u8 (a b : Int) (g : Nat) (x y z : Int) (w : World) (hx : w.cell? ⟨g, 0, none⟩ = some (.int .i64 x)) (hy : w.cell? ⟨g, 1, none⟩ = some (.int .i64 y)) (hz : w.cell? ⟨g, 2, none⟩ = some (.int .i64 z)) :
    Calls Tryd.prog 50 #[.int .u8 a, .int .u8 b, .slice (some ⟨g, 0, none⟩) 3 3] w fun e w' => e = .returned (.int .i64 (pick4 (cmpI a b) x y z)) ∧ w = w' := by
  by_cases h1 : a < b
  · go_enter Tryd.func50, Tryd.ntmps50
    go_wp2
    go_ret
    exact ⟨by simp [pick4, cmpI, h1], rfl⟩
  · by_cases h2 : b < a
    · go_enter Tryd.func50, Tryd.ntmps50
      go_wp2
      go_ret
      have h3 : ¬ a < b := by omega
      exact ⟨by simp [pick4, cmpI, h2, h3], rfl⟩
    · have hc : cmpI a b = 0 := by simp [cmpI]; omega
      have HC : Hid (cmpI a b = 0) := hc
      clear hc
      by_cases hx0 : x = 0
      · subst hx0
        by_cases hy0 : y = 0
        · subst hy0
          by_cases hz0 : z = 0
          · subst hz0
            go_enter Tryd.func50, Tryd.ntmps50
            go_wp2
            refine wp_loop_rounds 4 ?_
            iterate 4 (rw [rounds_succ]; go_wp2)
            go_ret
            exact ⟨by simp [pick4, HC.out], rfl⟩
          · have hz1 : (z != 0) = true := by simpa using hz0
            go_enter Tryd.func50, Tryd.ntmps50
            go_wp2
            refine wp_loop_rounds 4 ?_
            iterate 3 (rw [rounds_succ]; go_wp2)
            go_ret
            exact ⟨by simp [pick4, HC.out], rfl⟩
        · have hy1 : (y != 0) = true := by simpa using hy0
          go_enter Tryd.func50, Tryd.ntmps50
          go_wp2
          refine wp_loop_rounds 4 ?_
          iterate 2 (rw [rounds_succ]; go_wp2)
          go_ret
          exact ⟨by simp [pick4, HC.out, hy0], rfl⟩
      · have hx1 : (x != 0) = true := by simpa using hx0
        go_enter Tryd.func50, Tryd.ntmps50
        go_wp2
        refine wp_loop_rounds 4 ?_
        rw [rounds_succ]
        go_wp2
        go_ret
        exact ⟨by simp [pick4, HC.out, hx0], rfl⟩

/-- An api.Value lies in block g. -/
def Boxed (W : World) (g : Nat) (k n hi : Int) (t : ByteArray) : Prop :=
  W.cell? ⟨g, 0, none⟩ = some (.int .u8 k) ∧ W.cell? ⟨g, 1, none⟩ = some (.int .i64 n) ∧ W.cell? ⟨g, 2, none⟩ = some (.int .i64 hi) ∧ W.cell? ⟨g, 3, none⟩ = some (.string t) ∧ g < W.heap.size

theorem Boxed.new (w : World) (k n hi : Int) (t : ByteArray) (ty : TypeId) : Boxed (w.alloc (.cells #[.int .u8 k, .int .i64 n, .int .i64 hi, .string t] ty)) w.heap.size k n hi t := by
  refine ⟨?_, ?_, ?_, ?_, by simp⟩ <;> go_simp

theorem Boxed.below {W W' : World} {g : Nat} {k n hi : Int} {t : ByteArray} (h : Boxed W g k n hi t) (hb : Below W.heap.size W W') : Boxed W' g k n hi t := by
  obtain ⟨h0, h1, h2, h3, h4⟩ := h
  exact ⟨by rw [hb.cell h4]; exact h0, by rw [hb.cell h4]; exact h1, by rw [hb.cell h4]; exact h2, by rw [hb.cell h4]; exact h3, Nat.lt_of_lt_of_le h4 hb.size⟩

theorem Below.allocs (w : World) (o : Obj) : Below w.heap.size w (w.alloc o) := (Below.refl _ _).alloc (Nat.le_refl _) _

set_option maxHeartbeats 1000000 in
theorem compare_any (k n hi : Int) (t : ByteArray) (k' n' hi' : Int) (t' : ByteArray) (w : World) :
    Calls Tryd.prog 36 #[.agg #[.int .u8 k, .int .i64 n, .int .i64 hi, .string t], .agg #[.int .u8 k', .int .i64 n', .int .i64 hi', .string t']] w fun e w' => e = .returned (.int .i64 (cmpV k n hi t k' n' hi' t')) ∧ Below w.heap.size w w' := by
  go_enter Tryd.func36, Tryd.ntmps36
  go_wp2
  have B0 := (Boxed.new w k n hi t 25).below (Below.allocs _ (.cells #[.int .u8 k', .int .i64 n', .int .i64 hi', .string t'] 25))
  have B1 := Boxed.new (w.alloc (.cells #[.int .u8 k, .int .i64 n, .int .i64 hi, .string t] 25)) k' n' hi' t' 25
  have hb : Below w.heap.size w ((w.alloc (.cells #[.int .u8 k, .int .i64 n, .int .i64 hi, .string t] 25)).alloc (.cells #[.int .u8 k', .int .i64 n', .int .i64 hi', .string t'] 25)) := ((Below.refl _ _).alloc (Nat.le_refl _) _).alloc (by simp) _
  have hsz : (w.alloc (.cells #[.int .u8 k, .int .i64 n, .int .i64 hi, .string t] 25)).heap.size = w.heap.size + 1 := by simp
  rw [hsz] at B1
  clear hsz
  obtain ⟨g, hg⟩ : ∃ g, g = w.heap.size := ⟨_, rfl⟩
  have HG : Hid (g = w.heap.size) := hg
  rw [← hg] at B0 B1 ⊢
  clear hg
  generalize (w.alloc (.cells #[.int .u8 k, .int .i64 n, .int .i64 hi, .string t] 25)).alloc (.cells #[.int .u8 k', .int .i64 n', .int .i64 hi', .string t'] 25) = W at *
  obtain ⟨a0, a1, a2, a3, a4⟩ := B0
  obtain ⟨b0, b1, b2, b3, b4⟩ := B1
  go_region_held3 (fun W => W.cell? ⟨g, 0, none⟩ = some (.int .u8 k) ∧ W.cell? ⟨g, 1, none⟩ = some (.int .i64 n) ∧ W.cell? ⟨g, 2, none⟩ = some (.int .i64 hi) ∧ W.cell? ⟨g, 3, none⟩ = some (.string t) ∧ W.cell? ⟨g + 1, 0, none⟩ = some (.int .u8 k') ∧ W.cell? ⟨g + 1, 1, none⟩ = some (.int .i64 n') ∧ W.cell? ⟨g + 1, 2, none⟩ = some (.int .i64 hi') ∧ W.cell? ⟨g + 1, 3, none⟩ = some (.string t')) (go_keep) (first | (go_at_call 51; refine (order_i64_nil _ _ _).mono ?_; rintro e w' ⟨rfl, rfl⟩) | (go_at_call 52; refine (order_str_nil _ _ _).mono ?_; rintro e w' ⟨rfl, rfl⟩) | (go_at_call 50; refine (order_u8 _ _ _ (cmpI n n') (cmpI hi hi') (cmpS t t') _ ?_ ?_ ?_).mono ?_; (go_simp); (go_simp); (go_simp); rintro e w' ⟨rfl, rfl⟩))
  go_wp2
  go_ret
  refine ⟨rfl, ?_⟩
  exact (hb.alloc hb.size _).drew
end Go.Proofs.YtoglaibcmfjclaaDoor
