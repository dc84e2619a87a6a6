/-
  What is of no program: the order of rows; what large counts.
-/
import Derived.Test.YtoglaibcmfjclaaDoorWBase
import Derived.Test.YtoglaibcmfjclaaDoorVOrd
namespace Go.Proofs.YtoglaibcmfjclaaDoor

/-! ### The order of rows -/

def cmpX (x y : Val) : Int := cmpV x.k x.n x.u x.t y.k y.n y.u y.t

def cmpL : List Val → List Val → Int
  | [], [] => 0
  | [], _ :: _ => -1
  | _ :: _, [] => 1
  | x :: a, y :: b => lex (cmpX x y) (cmpL a b)

theorem cmpX_neg (x y : Val) : cmpX y x = -cmpX x y := cmpV_neg _ _ _ _ _ _ _ _
theorem cmpX_zero (x y : Val) : cmpX x y = 0 ↔ x = y := by
  unfold cmpX
  rw [cmpV_zero]
  obtain ⟨k, n, u, t⟩ := x
  obtain ⟨k', n', u', t'⟩ := y
  simp only [Val.mk.injEq]
  exact ⟨fun ⟨a, b, c, d⟩ => ⟨a, b, c, toList_inj d⟩, fun ⟨a, b, c, d⟩ => ⟨a, b, c, by rw [d]⟩⟩
theorem cmpX_tri (x y z : Val) : Tri (cmpX x y) (cmpX y z) (cmpX x z) := tri_cmpV _ _ _ _ _ _ _ _ _ _ _ _

theorem cmpL_neg : ∀ a b : List Val, cmpL b a = -cmpL a b
  | [], [] => rfl
  | [], _ :: _ => rfl
  | _ :: _, [] => rfl
  | x :: a, y :: b => by
    rw [cmpL, cmpL, cmpX_neg x y, cmpL_neg a b, lex_neg]

theorem cmpX_vals (x y : Val) : cmpX x y = -1 ∨ cmpX x y = 0 ∨ cmpX x y = 1 := (cmpX_tri x y x).1

theorem cmpL_vals : ∀ a b : List Val, cmpL a b = -1 ∨ cmpL a b = 0 ∨ cmpL a b = 1
  | [], [] => .inr (.inl rfl)
  | [], _ :: _ => .inl rfl
  | _ :: _, [] => .inr (.inr rfl)
  | x :: a, y :: b => by
    have h1 := cmpX_vals x y
    have h2 := cmpL_vals a b
    rw [cmpL]
    unfold lex
    split
    · exact h1
    · exact h2

theorem cmpL_tri : ∀ a b c : List Val, Tri (cmpL a b) (cmpL b c) (cmpL a c)
  | [], [], [] => by unfold Tri cmpL; omega
  | [], [], _ :: _ => by unfold Tri cmpL; omega
  | [], _ :: _, [] => by unfold Tri cmpL; omega
  | [], y :: b, z :: c => by
    have h1 := cmpL_vals (y :: b) (z :: c)
    unfold Tri
    rw [show cmpL [] (y :: b) = -1 from rfl, show cmpL [] (z :: c) = -1 from rfl]
    omega
  | _ :: _, [], [] => by unfold Tri cmpL; omega
  | x :: a, [], z :: c => by
    have h1 := cmpL_vals (x :: a) (z :: c)
    unfold Tri
    rw [show cmpL (x :: a) [] = 1 from rfl, show cmpL [] (z :: c) = -1 from rfl]
    omega
  | x :: a, y :: b, [] => by
    have h1 := cmpL_vals (x :: a) (y :: b)
    unfold Tri
    rw [show cmpL (x :: a) [] = 1 from rfl, show cmpL (y :: b) [] = 1 from rfl]
    omega
  | x :: a, y :: b, z :: c => tri_lex (cmpX_tri x y z) (cmpL_tri a b c)

theorem cmpL_zero : ∀ a b : List Val, cmpL a b = 0 ↔ a = b
  | [], [] => by simp [cmpL]
  | [], _ :: _ => by simp [cmpL]
  | _ :: _, [] => by simp [cmpL]
  | x :: a, y :: b => by
    rw [cmpL, List.cons.injEq, ← cmpL_zero a b, ← cmpX_zero x y]
    unfold lex
    split
    · rename_i h
      exact ⟨fun e => absurd e h, fun e => absurd e.1 h⟩
    · rename_i h
      have h' : cmpX x y = 0 := by omega
      exact ⟨fun e => ⟨h', e⟩, fun e => e.2⟩

theorem cmpL_app (l a b : List Val) : cmpL (l ++ a) (l ++ b) = cmpL a b := by
  induction l with
  | nil => rfl
  | cons x l ih =>
    rw [List.cons_append, List.cons_append, cmpL, ih, (cmpX_zero x x).2 rfl]
    simp [lex]

theorem cmpL_pre (l a : List Val) : cmpL l (l ++ a) = -1 ↔ a ≠ [] := by
  have h := cmpL_app l [] a
  rw [List.append_nil] at h
  rw [h]
  cases a <;> simp [cmpL]

/-- What large counts. -/
def bigN : List Val → Int → Int
  | [], n => n
  | v :: l, n => if n < 20000 then bigN l (n + 10 + v.t.size) else n

def largeB (l : List Val) : Bool := decide (20000 ≤ bigN l 0)

theorem bigN_stop : ∀ (l : List Val) (n : Int), ¬ n < 20000 → bigN l n = n
  | [], _, _ => rfl
  | v :: l, n, h => by rw [bigN, if_neg h]

def sumN (l : List Val) : Nat := (l.map fun v => 10 + v.t.size).sum

theorem bigN_small : ∀ (l : List Val) (n : Int), bigN l n < 20000 → n + sumN l < 20000
  | [], n, h => by simp [sumN]; exact h
  | v :: l, n, h => by
    rw [bigN] at h
    by_cases hn : n < 20000
    · rw [if_pos hn] at h
      have := bigN_small l _ h
      simp only [sumN, List.map_cons, List.sum_cons] at this ⊢
      omega
    · rw [if_neg hn] at h; omega

theorem small_sum {l : List Val} (h : largeB l = false) : sumN l < 20000 := by
  have h1 : ¬ (20000 ≤ bigN l 0) := by simpa [largeB] using h
  have := bigN_small l 0 (by omega)
  omega

theorem sum_len : ∀ l : List Val, 10 * l.length ≤ sumN l
  | [] => by simp [sumN]
  | v :: l => by
    have := sum_len l
    simp only [sumN, List.map_cons, List.sum_cons, List.length_cons] at this ⊢
    omega

theorem small_len {l : List Val} (h : largeB l = false) : l.length < 2000 := by
  have := small_sum h
  have := sum_len l
  omega

end Go.Proofs.YtoglaibcmfjclaaDoor
