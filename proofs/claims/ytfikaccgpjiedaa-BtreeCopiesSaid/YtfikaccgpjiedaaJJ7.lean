/-
  What value.Compare and its order functions answer, as walks over this translation.
-/
import Derived.Test.YtfikaccgpjiedaaJJ1
import Derived.Test.YtfikaccgpjiedaaJReg
import Derived.WalkKit
import Derived.WalkSpells
import Derived.WalkLawsBesides
import Derived.Deep.RegionHeld3
import Derived.Deep.DrawnRows
namespace Go.Proofs.Ytfikaccgpjiedaa
open Go.RowKit
attribute [local go_sem ↓] Go.wp_at_zero Go.wp_at_succ

def cmpI (a b : Int) : Int := if a < b then -1 else if b < a then 1 else 0
def cmpS (a b : ByteArray) : Int := if Op.bytesLess a.toList b.toList = true then -1 else if Op.bytesLess b.toList a.toList = true then 1 else 0
def pick4 (c x y z : Int) : Int := if c ≠ 0 then c else if x ≠ 0 then x else if y ≠ 0 then y else z
def cmpV (k n hi : Int) (t : ByteArray) (k' n' hi' : Int) (t' : ByteArray) : Int := pick4 (cmpI k k') (cmpI n n') (cmpI hi hi') (cmpS t t')

set_option maxHeartbeats 400000 in
theorem order_i64_nil (a b : Int) (w : World) :
    Calls Try.prog 71 #[.int .i64 a, .int .i64 b, .slice none 0 0] w fun e w' => e = .returned (.int .i64 (cmpI a b)) ∧ w = w' := by
  by_cases h1 : a < b
  · go_enter Try.func71, Try.ntmps71
    go_wp2
    go_ret
    exact ⟨by simp [cmpI, h1], rfl⟩
  · by_cases h2 : b < a
    · go_enter Try.func71, Try.ntmps71
      go_wp2
      go_ret
      exact ⟨by simp [cmpI, h1, h2], rfl⟩
    · go_enter Try.func71, Try.ntmps71
      go_wp2
      refine wp_loop_rounds 1 ?_
      rw [rounds_succ]
      go_wp2
      go_ret
      exact ⟨by simp [cmpI]; omega, rfl⟩

set_option maxHeartbeats 400000 in
theorem order_str_nil (a b : ByteArray) (w : World) :
    Calls Try.prog 72 #[.string a, .string b, .slice none 0 0] w fun e w' => e = .returned (.int .i64 (cmpS a b)) ∧ w = w' := by
  cases h1 : Op.bytesLess a.toList b.toList
  · cases h2 : Op.bytesLess b.toList a.toList
    · go_enter Try.func72, Try.ntmps72
      go_wp2
      refine wp_loop_rounds 1 ?_
      rw [rounds_succ]
      go_wp2
      go_ret
      exact ⟨by simp [cmpS, h1, h2], rfl⟩
    · go_enter Try.func72, Try.ntmps72
      go_wp2
      go_ret
      exact ⟨by simp [cmpS, h1, h2], rfl⟩
  · go_enter Try.func72, Try.ntmps72
    go_wp2
    go_ret
    exact ⟨by simp [cmpS, h1], rfl⟩

set_option maxHeartbeats 1000000 in
theorem order_u8 (a b : Int) (g : Nat) (x y z : Int) (w : World) (hx : w.cell? ⟨g, 0, none⟩ = some (.int .i64 x)) (hy : w.cell? ⟨g, 1, none⟩ = some (.int .i64 y)) (hz : w.cell? ⟨g, 2, none⟩ = some (.int .i64 z)) :
    Calls Try.prog 70 #[.int .u8 a, .int .u8 b, .slice (some ⟨g, 0, none⟩) 3 3] w fun e w' => e = .returned (.int .i64 (pick4 (cmpI a b) x y z)) ∧ w = w' := by
  by_cases h1 : a < b
  · go_enter Try.func70, Try.ntmps70
    go_wp2
    go_ret
    exact ⟨by simp [pick4, cmpI, h1], rfl⟩
  · by_cases h2 : b < a
    · go_enter Try.func70, Try.ntmps70
      go_wp2
      go_ret
      have h3 : ¬ a < b := by omega
      exact ⟨by simp [pick4, cmpI, h2, h3], rfl⟩
    · have hc : cmpI a b = 0 := by simp [cmpI]; omega
      have HC : Hid (cmpI a b = 0) := hc
      clear hc
      by_cases hx0 : x = 0
      · subst hx0
        by_cases hy0 : y = 0
        · subst hy0
          by_cases hz0 : z = 0
          · subst hz0
            go_enter Try.func70, Try.ntmps70
            go_wp2
            refine wp_loop_rounds 4 ?_
            iterate 4 (rw [rounds_succ]; go_wp2)
            go_ret
            exact ⟨by simp [pick4, HC.out], rfl⟩
          · have hz1 : (z != 0) = true := by simpa using hz0
            go_enter Try.func70, Try.ntmps70
            go_wp2
            refine wp_loop_rounds 4 ?_
            iterate 3 (rw [rounds_succ]; go_wp2)
            go_ret
            exact ⟨by simp [pick4, HC.out], rfl⟩
        · have hy1 : (y != 0) = true := by simpa using hy0
          go_enter Try.func70, Try.ntmps70
          go_wp2
          refine wp_loop_rounds 4 ?_
          iterate 2 (rw [rounds_succ]; go_wp2)
          go_ret
          exact ⟨by simp [pick4, HC.out, hy0], rfl⟩
      · have hx1 : (x != 0) = true := by simpa using hx0
        go_enter Try.func70, Try.ntmps70
        go_wp2
        refine wp_loop_rounds 4 ?_
        rw [rounds_succ]
        go_wp2
        go_ret
        exact ⟨by simp [pick4, HC.out, hx0], rfl⟩

set_option maxHeartbeats 1000000 in
theorem compare_any (k n hi : Int) (t : ByteArray) (k' n' hi' : Int) (t' : ByteArray) (w : World) :
    Calls Try.prog 62 #[.agg #[.int .u8 k, .int .i64 n, .int .i64 hi, .string t], .agg #[.int .u8 k', .int .i64 n', .int .i64 hi', .string t']] w fun e w' => e = .returned (.int .i64 (cmpV k n hi t k' n' hi' t')) ∧ Below w.heap.size w w' := by
  go_enter Try.func62, Try.ntmps62
  go_wp2
  have B0 := (Boxed.new w k n hi t 66).below (Below.allocs _ (.cells #[.int .u8 k', .int .i64 n', .int .i64 hi', .string t'] 66))
  have B1 := Boxed.new (w.alloc (.cells #[.int .u8 k, .int .i64 n, .int .i64 hi, .string t] 66)) k' n' hi' t' 66
  have hb : Below w.heap.size w ((w.alloc (.cells #[.int .u8 k, .int .i64 n, .int .i64 hi, .string t] 66)).alloc (.cells #[.int .u8 k', .int .i64 n', .int .i64 hi', .string t'] 66)) := ((Below.refl _ _).alloc (Nat.le_refl _) _).alloc (by simp) _
  have hsz : (w.alloc (.cells #[.int .u8 k, .int .i64 n, .int .i64 hi, .string t] 66)).heap.size = w.heap.size + 1 := by simp
  rw [hsz] at B1
  clear hsz
  obtain ⟨g, hg⟩ : ∃ g, g = w.heap.size := ⟨_, rfl⟩
  have HG : Hid (g = w.heap.size) := hg
  rw [← hg] at B0 B1 ⊢
  clear hg
  generalize (w.alloc (.cells #[.int .u8 k, .int .i64 n, .int .i64 hi, .string t] 66)).alloc (.cells #[.int .u8 k', .int .i64 n', .int .i64 hi', .string t'] 66) = W at *
  obtain ⟨a0, a1, a2, a3, a4⟩ := B0
  obtain ⟨b0, b1, b2, b3, b4⟩ := B1
  go_region_held3 (fun W => W.cell? ⟨g, 0, none⟩ = some (.int .u8 k) ∧ W.cell? ⟨g, 1, none⟩ = some (.int .i64 n) ∧ W.cell? ⟨g, 2, none⟩ = some (.int .i64 hi) ∧ W.cell? ⟨g, 3, none⟩ = some (.string t) ∧ W.cell? ⟨g + 1, 0, none⟩ = some (.int .u8 k') ∧ W.cell? ⟨g + 1, 1, none⟩ = some (.int .i64 n') ∧ W.cell? ⟨g + 1, 2, none⟩ = some (.int .i64 hi') ∧ W.cell? ⟨g + 1, 3, none⟩ = some (.string t')) (go_keep) (first | (go_at_call 71; refine (order_i64_nil _ _ _).mono ?_; rintro e w' ⟨rfl, rfl⟩) | (go_at_call 72; refine (order_str_nil _ _ _).mono ?_; rintro e w' ⟨rfl, rfl⟩) | (go_at_call 70; refine (order_u8 _ _ _ (cmpI n n') (cmpI hi hi') (cmpS t t') _ ?_ ?_ ?_).mono ?_; (go_simp); (go_simp); (go_simp); rintro e w' ⟨rfl, rfl⟩))
  go_wp2
  go_ret
  refine ⟨rfl, ?_⟩
  exact (hb.alloc hb.size _).drew

end Go.Proofs.Ytfikaccgpjiedaa

/-
  What is of no program: the comparison of values is an order.
-/
namespace Go.Proofs.Ytfikaccgpjiedaa

theorem bl_irrefl : ∀ l : List UInt8, Op.bytesLess l l = false
  | [] => rfl
  | c :: l => by
    have := bl_irrefl l
    simp [Op.bytesLess, this]

theorem bl_asymm : ∀ a b : List UInt8, Op.bytesLess a b = true → Op.bytesLess b a = false
  | _, [], h => by simp [Op.bytesLess] at h
  | [], _ :: _, _ => by simp [Op.bytesLess]
  | x :: a, y :: b, h => by
    have ih := bl_asymm a b
    simp only [Op.bytesLess, Bool.or_eq_true, decide_eq_true_eq, Bool.and_eq_true, beq_iff_eq] at h
    rw [Bool.eq_false_iff]
    intro h2
    simp only [Op.bytesLess, Bool.or_eq_true, decide_eq_true_eq, Bool.and_eq_true, beq_iff_eq] at h2
    rcases h with h | ⟨rfl, h⟩
    · rcases h2 with h2 | ⟨rfl, _⟩
      · rw [UInt8.lt_iff_toNat_lt] at h h2; omega
      · rw [UInt8.lt_iff_toNat_lt] at h; omega
    · rcases h2 with h2 | ⟨_, h2⟩
      · rw [UInt8.lt_iff_toNat_lt] at h2; omega
      · rw [ih h] at h2; cases h2

theorem bl_total : ∀ a b : List UInt8, Op.bytesLess a b = false → Op.bytesLess b a = false → a = b
  | [], [], _, _ => rfl
  | [], _ :: _, h, _ => by simp [Op.bytesLess] at h
  | _ :: _, [], _, h => by simp [Op.bytesLess] at h
  | x :: a, y :: b, h, h2 => by
    have ih := bl_total a b
    simp only [Op.bytesLess, Bool.or_eq_false_iff, decide_eq_false_iff_not, Bool.and_eq_false_iff, beq_eq_false_iff_ne, ne_eq] at h h2
    have e : x = y := by
      have h3 := h.1; have h4 := h2.1
      rw [UInt8.lt_iff_toNat_lt] at h3 h4
      exact UInt8.toNat_inj.1 (by omega)
    subst e
    have a1 : Op.bytesLess a b = false := h.2.resolve_left (fun e => e rfl)
    have a2 : Op.bytesLess b a = false := h2.2.resolve_left (fun e => e rfl)
    rw [ih a1 a2]

theorem bl_trans : ∀ a b c : List UInt8, Op.bytesLess a b = true → Op.bytesLess b c = true → Op.bytesLess a c = true
  | _, [], _, h, _ => by simp [Op.bytesLess] at h
  | _, _ :: _, [], _, h => by simp [Op.bytesLess] at h
  | [], _ :: _, _ :: _, _, _ => by simp [Op.bytesLess]
  | x :: a, y :: b, z :: c, h, h2 => by
    have ih := bl_trans a b c
    simp only [Op.bytesLess, Bool.or_eq_true, decide_eq_true_eq, Bool.and_eq_true, beq_iff_eq] at h h2 ⊢
    rcases h with h | ⟨rfl, h⟩
    · rcases h2 with h2 | ⟨rfl, _⟩
      · left; rw [UInt8.lt_iff_toNat_lt] at h h2 ⊢; omega
      · left; exact h
    · rcases h2 with h2 | ⟨rfl, h2⟩
      · left; exact h2
      · right; exact ⟨rfl, ih h h2⟩

/-- Of three things compared: what the third comparison must be. -/
def Tri (x y z : Int) : Prop := (x = -1 ∨ x = 0 ∨ x = 1) ∧ (y = -1 ∨ y = 0 ∨ y = 1) ∧ (z = -1 ∨ z = 0 ∨ z = 1) ∧ (x = 0 → z = y) ∧ (y = 0 → z = x) ∧ (x = y → z = x)

theorem tri_cmpI (a b c : Int) : Tri (cmpI a b) (cmpI b c) (cmpI a c) := by
  unfold Tri cmpI
  repeat' split
  all_goals omega

theorem cmpI_neg (a b : Int) : cmpI b a = -cmpI a b := by
  unfold cmpI
  repeat' split
  all_goals omega
theorem cmpI_zero (a b : Int) : cmpI a b = 0 ↔ a = b := by
  unfold cmpI
  repeat' split
  all_goals omega

theorem cmpS_cases (a b : ByteArray) : (cmpS a b = -1 ∧ Op.bytesLess a.toList b.toList = true) ∨ (cmpS a b = 1 ∧ Op.bytesLess b.toList a.toList = true) ∨ (cmpS a b = 0 ∧ a.toList = b.toList) := by
  unfold cmpS
  cases h : Op.bytesLess a.toList b.toList
  · cases h2 : Op.bytesLess b.toList a.toList
    · right; right; exact ⟨by simp, bl_total _ _ h h2⟩
    · right; left; exact ⟨by simp, rfl⟩
  · left; exact ⟨by simp, rfl⟩

theorem cmpS_lt {a b : ByteArray} (h : Op.bytesLess a.toList b.toList = true) : cmpS a b = -1 := by simp [cmpS, h]
theorem cmpS_gt {a b : ByteArray} (h : Op.bytesLess b.toList a.toList = true) : cmpS a b = 1 := by simp [cmpS, h, bl_asymm _ _ h]
theorem cmpS_same {a b : ByteArray} (h : a.toList = b.toList) : cmpS a b = 0 := by simp [cmpS, h, bl_irrefl]

theorem cmpS_neg (a b : ByteArray) : cmpS b a = -cmpS a b := by
  rcases cmpS_cases a b with ⟨e, h⟩ | ⟨e, h⟩ | ⟨e, h⟩
  · rw [e, cmpS_gt h]; rfl
  · rw [e, cmpS_lt h]
  · rw [e, cmpS_same h.symm]; rfl
theorem cmpS_zero (a b : ByteArray) : cmpS a b = 0 ↔ a.toList = b.toList := by
  rcases cmpS_cases a b with ⟨e, h⟩ | ⟨e, h⟩ | ⟨e, h⟩
  · rw [e]; refine ⟨fun h => by omega, fun h2 => ?_⟩; rw [h2, bl_irrefl] at h; cases h
  · rw [e]; refine ⟨fun h => by omega, fun h2 => ?_⟩; rw [h2, bl_irrefl] at h; cases h
  · rw [e]; exact ⟨fun _ => h, fun _ => rfl⟩

theorem tri_cmpS (a b c : ByteArray) : Tri (cmpS a b) (cmpS b c) (cmpS a c) := by
  unfold Tri
  rcases cmpS_cases a b with ⟨e1, h1⟩ | ⟨e1, h1⟩ | ⟨e1, h1⟩ <;> rcases cmpS_cases b c with ⟨e2, h2⟩ | ⟨e2, h2⟩ | ⟨e2, h2⟩
  · rw [e1, e2, cmpS_lt (bl_trans _ _ _ h1 h2)]; omega
  · rw [e1, e2]; rcases cmpS_cases a c with ⟨e3, _⟩ | ⟨e3, _⟩ | ⟨e3, _⟩ <;> rw [e3] <;> omega
  · rw [e1, e2, cmpS_lt (by rw [← h2]; exact h1)]; omega
  · rw [e1, e2]; rcases cmpS_cases a c with ⟨e3, _⟩ | ⟨e3, _⟩ | ⟨e3, _⟩ <;> rw [e3] <;> omega
  · rw [e1, e2, cmpS_gt (bl_trans _ _ _ h2 h1)]; omega
  · rw [e1, e2, cmpS_gt (by rw [← h2]; exact h1)]; omega
  · rw [e1, e2, cmpS_lt (by rw [h1]; exact h2)]; omega
  · rw [e1, e2, cmpS_gt (by rw [h1]; exact h2)]; omega
  · rw [e1, e2, cmpS_same (h1.trans h2)]; omega

/-- One comparison, and where it is 0 a further one. -/
def lex (c d : Int) : Int := if c ≠ 0 then c else d

theorem tri_lex {x y z x' y' z' : Int} (h : Tri x y z) (h' : Tri x' y' z') : Tri (lex x x') (lex y y') (lex z z') := by
  unfold Tri lex at *
  repeat' split
  all_goals omega

theorem pick4_lex (a b c d : Int) : pick4 a b c d = lex a (lex b (lex c d)) := by
  unfold pick4 lex
  repeat' split
  all_goals first | rfl | omega

theorem lex_neg (a b : Int) : lex (-a) (-b) = -lex a b := by
  unfold lex
  repeat' split
  all_goals omega

theorem tri_cmpV (k n hi : Int) (t : ByteArray) (k' n' hi' : Int) (t' : ByteArray) (k2 n2 hi2 : Int) (t2 : ByteArray) : Tri (cmpV k n hi t k' n' hi' t') (cmpV k' n' hi' t' k2 n2 hi2 t2) (cmpV k n hi t k2 n2 hi2 t2) := by
  unfold cmpV
  simp only [pick4_lex]
  exact tri_lex (tri_cmpI _ _ _) (tri_lex (tri_cmpI _ _ _) (tri_lex (tri_cmpI _ _ _) (tri_cmpS _ _ _)))

theorem cmpV_neg (k n hi : Int) (t : ByteArray) (k' n' hi' : Int) (t' : ByteArray) : cmpV k' n' hi' t' k n hi t = -cmpV k n hi t k' n' hi' t' := by
  unfold cmpV
  simp only [pick4_lex]
  rw [cmpI_neg k k', cmpI_neg n n', cmpI_neg hi hi', cmpS_neg t t', lex_neg, lex_neg, lex_neg]

theorem cmpV_zero (k n hi : Int) (t : ByteArray) (k' n' hi' : Int) (t' : ByteArray) : cmpV k n hi t k' n' hi' t' = 0 ↔ (k = k' ∧ n = n' ∧ hi = hi' ∧ t.toList = t'.toList) := by
  have h1 := cmpI_zero k k'
  have h2 := cmpI_zero n n'
  have h3 := cmpI_zero hi hi'
  have h4 := cmpS_zero t t'
  unfold cmpV pick4
  constructor
  · intro h
    split at h
    · contradiction
    · split at h
      · contradiction
      · split at h
        · contradiction
        · exact ⟨h1.1 (by omega), h2.1 (by omega), h3.1 (by omega), h4.1 h⟩
  · rintro ⟨e1, e2, e3, e4⟩
    rw [if_neg (by rw [h1.2 e1]; simp), if_neg (by rw [h2.2 e2]; simp), if_neg (by rw [h3.2 e3]; simp), h4.2 e4]


end Go.Proofs.Ytfikaccgpjiedaa

/-
  What is of no program: the order of rows; what large counts.
-/
namespace Go.Proofs.Ytfikaccgpjiedaa

/-! ### The order of rows -/

def cmpX (x y : Val) : Int := cmpV x.k x.n x.u x.t y.k y.n y.u y.t

def cmpL : List Val → List Val → Int
  | [], [] => 0
  | [], _ :: _ => -1
  | _ :: _, [] => 1
  | x :: a, y :: b => lex (cmpX x y) (cmpL a b)

theorem cmpX_neg (x y : Val) : cmpX y x = -cmpX x y := cmpV_neg _ _ _ _ _ _ _ _
theorem cmpX_zero (x y : Val) : cmpX x y = 0 ↔ x = y := by
  unfold cmpX
  rw [cmpV_zero]
  obtain ⟨k, n, u, t⟩ := x
  obtain ⟨k', n', u', t'⟩ := y
  simp only [Val.mk.injEq]
  exact ⟨fun ⟨a, b, c, d⟩ => ⟨a, b, c, toList_inj d⟩, fun ⟨a, b, c, d⟩ => ⟨a, b, c, by rw [d]⟩⟩
theorem cmpX_tri (x y z : Val) : Tri (cmpX x y) (cmpX y z) (cmpX x z) := tri_cmpV _ _ _ _ _ _ _ _ _ _ _ _

theorem cmpL_neg : ∀ a b : List Val, cmpL b a = -cmpL a b
  | [], [] => rfl
  | [], _ :: _ => rfl
  | _ :: _, [] => rfl
  | x :: a, y :: b => by
    rw [cmpL, cmpL, cmpX_neg x y, cmpL_neg a b, lex_neg]

theorem cmpX_vals (x y : Val) : cmpX x y = -1 ∨ cmpX x y = 0 ∨ cmpX x y = 1 := (cmpX_tri x y x).1

theorem cmpL_vals : ∀ a b : List Val, cmpL a b = -1 ∨ cmpL a b = 0 ∨ cmpL a b = 1
  | [], [] => .inr (.inl rfl)
  | [], _ :: _ => .inl rfl
  | _ :: _, [] => .inr (.inr rfl)
  | x :: a, y :: b => by
    have h1 := cmpX_vals x y
    have h2 := cmpL_vals a b
    rw [cmpL]
    unfold lex
    split
    · exact h1
    · exact h2

theorem cmpL_tri : ∀ a b c : List Val, Tri (cmpL a b) (cmpL b c) (cmpL a c)
  | [], [], [] => by unfold Tri cmpL; omega
  | [], [], _ :: _ => by unfold Tri cmpL; omega
  | [], _ :: _, [] => by unfold Tri cmpL; omega
  | [], y :: b, z :: c => by
    have h1 := cmpL_vals (y :: b) (z :: c)
    unfold Tri
    rw [show cmpL [] (y :: b) = -1 from rfl, show cmpL [] (z :: c) = -1 from rfl]
    omega
  | _ :: _, [], [] => by unfold Tri cmpL; omega
  | x :: a, [], z :: c => by
    have h1 := cmpL_vals (x :: a) (z :: c)
    unfold Tri
    rw [show cmpL (x :: a) [] = 1 from rfl, show cmpL [] (z :: c) = -1 from rfl]
    omega
  | x :: a, y :: b, [] => by
    have h1 := cmpL_vals (x :: a) (y :: b)
    unfold Tri
    rw [show cmpL (x :: a) [] = 1 from rfl, show cmpL (y :: b) [] = 1 from rfl]
    omega
  | x :: a, y :: b, z :: c => tri_lex (cmpX_tri x y z) (cmpL_tri a b c)

theorem cmpL_zero : ∀ a b : List Val, cmpL a b = 0 ↔ a = b
  | [], [] => by simp [cmpL]
  | [], _ :: _ => by simp [cmpL]
  | _ :: _, [] => by simp [cmpL]
  | x :: a, y :: b => by
    rw [cmpL, List.cons.injEq, ← cmpL_zero a b, ← cmpX_zero x y]
    unfold lex
    split
    · rename_i h
      exact ⟨fun e => absurd e h, fun e => absurd e.1 h⟩
    · rename_i h
      have h' : cmpX x y = 0 := by omega
      exact ⟨fun e => ⟨h', e⟩, fun e => e.2⟩

theorem cmpL_app (l a b : List Val) : cmpL (l ++ a) (l ++ b) = cmpL a b := by
  induction l with
  | nil => rfl
  | cons x l ih =>
    rw [List.cons_append, List.cons_append, cmpL, ih, (cmpX_zero x x).2 rfl]
    simp [lex]

theorem cmpL_pre (l a : List Val) : cmpL l (l ++ a) = -1 ↔ a ≠ [] := by
  have h := cmpL_app l [] a
  rw [List.append_nil] at h
  rw [h]
  cases a <;> simp [cmpL]

/-- What large counts. -/
def bigN : List Val → Int → Int
  | [], n => n
  | v :: l, n => if n < 20000 then bigN l (n + 10 + v.t.size) else n

def largeB (l : List Val) : Bool := decide (20000 ≤ bigN l 0)

theorem bigN_stop : ∀ (l : List Val) (n : Int), ¬ n < 20000 → bigN l n = n
  | [], _, _ => rfl
  | v :: l, n, h => by rw [bigN, if_neg h]

def sumN (l : List Val) : Nat := (l.map fun v => 10 + v.t.size).sum

theorem bigN_small : ∀ (l : List Val) (n : Int), bigN l n < 20000 → n + sumN l < 20000
  | [], n, h => by simp [sumN]; exact h
  | v :: l, n, h => by
    rw [bigN] at h
    by_cases hn : n < 20000
    · rw [if_pos hn] at h
      have := bigN_small l _ h
      simp only [sumN, List.map_cons, List.sum_cons] at this ⊢
      omega
    · rw [if_neg hn] at h; omega

theorem small_sum {l : List Val} (h : largeB l = false) : sumN l < 20000 := by
  have h1 : ¬ (20000 ≤ bigN l 0) := by simpa [largeB] using h
  have := bigN_small l 0 (by omega)
  omega

theorem sum_len : ∀ l : List Val, 10 * l.length ≤ sumN l
  | [] => by simp [sumN]
  | v :: l => by
    have := sum_len l
    simp only [sumN, List.map_cons, List.sum_cons, List.length_cons] at this ⊢
    omega

theorem small_len {l : List Val} (h : largeB l = false) : l.length < 2000 := by
  have := small_sum h
  have := sum_len l
  omega


end Go.Proofs.Ytfikaccgpjiedaa

