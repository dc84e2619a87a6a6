/-
  The small functions of package span, and the document's own (covenantref04): Of, May, Has, Common, Meets.
-/
import Derived.Test.YtnifpphimodonaaSBase
import Derived.OrdersHeld
import Derived.BigQuiet
import Derived.Deep.QuietTactic
namespace Go.Proofs.Ytnifpphimodonaa
open Go.RowKit

theorem of_is (n u : Int) (w : World) :
    Calls Try.prog 26 #[.int .i64 n, .int .i64 u] w fun e w' => e = .returned (.agg #[.int .u8 4, .int .i64 n, .int .i64 u, .string ⟨#[]⟩]) ∧ Below w.heap.size w w' := by
  go_enter Try.func26, Try.ntmps26
  go_wp2
  exact bodyPost_ret (v := .agg #[.int .u8 4, .int .i64 n, .int .i64 u, .string ⟨#[]⟩]) (by simp [results, Try.results26, go_sem]) rfl ⟨rfl, Below.allocs _ _⟩

theorem lof_is (n u : Int) (w : World) :
    Calls Try.prog 25 #[.int .i64 n, .int .i64 u] w fun e w' => e = .returned (.agg #[.int .u8 4, .int .i64 n, .int .i64 u, .string ⟨#[]⟩]) ∧ Below w.heap.size w w' := by
  go_enter Try.func25, Try.ntmps25
  go_wp2
  exact bodyPost_ret (v := .agg #[.int .u8 4, .int .i64 n, .int .i64 u, .string ⟨#[]⟩]) (by simp [results, Try.results25, go_sem]) rfl ⟨rfl, Below.allocs _ _⟩

theorem refMay_is (v : Val) (b : Bool) (h : okS v = b) (w : World) :
    Calls Try.prog 15 #[.agg #[.int .u8 v.k, .int .i64 v.n, .int .i64 v.u, .string v.t]] w fun e w' => e = .returned (.bool b) ∧ Below w.heap.size w w' := by
  obtain ⟨k, n, u, t⟩ := v
  subst h
  by_cases h1 : k = 4
  · subst h1
    by_cases h2 : n < u
    · have e : okS ⟨4, n, u, t⟩ = (t.toList == []) := by rw [Bool.eq_iff_iff]; simp [okS, h2]
      rw [e]
      go_enter Try.func15, Try.ntmps15
      go_wp2
      go_ret
      exact ⟨by first | rfl | simp, Below.allocs _ _⟩
    · have e : okS ⟨4, n, u, t⟩ = false := by rw [Bool.eq_iff_iff]; simp [okS, h2]
      rw [e]
      go_enter Try.func15, Try.ntmps15
      go_wp2
      go_ret
      exact ⟨rfl, Below.allocs _ _⟩
  · have hd : (k == 4) = false := by simpa using h1
    have e : okS ⟨k, n, u, t⟩ = false := by simp [okS, h1]
    rw [e]
    go_enter Try.func15, Try.ntmps15
    go_wp2
    go_ret
    exact ⟨rfl, Below.allocs _ _⟩

end Go.Proofs.Ytnifpphimodonaa
