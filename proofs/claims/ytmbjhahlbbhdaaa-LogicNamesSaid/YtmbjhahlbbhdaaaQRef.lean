/-
  The document's own Yes, Of and Int.
-/
import Derived.Test.YtmbjhahlbbhdaaaQSlice
namespace Go.Proofs.Ytmbjhahlbbhdaaa
open Go.RowKit

theorem ryes_is (k n hi : Int) (t : ByteArray) (b : Bool) (h : yesB k n = b) (w : World) :
    Calls Try.prog 11 #[.agg #[.int .u8 k, .int .i64 n, .int .i64 hi, .string t]] w fun e w' => e = .returned (.bool b) ∧ Below w.heap.size w w' := by
  subst h
  by_cases h : k = 2
  · subst h
    by_cases hn : n = 0
    · subst hn
      go_enter Try.func11, Try.ntmps11
      go_wp2
      go_ret
      exact ⟨rfl, Below.allocs _ _⟩
    · have hd : (n != 0) = true := by simpa using hn
      have e : yesB 2 n = true := by simpa [yesB] using hn
      rw [e]
      go_enter Try.func11, Try.ntmps11
      go_wp2
      go_ret
      exact ⟨rfl, Below.allocs _ _⟩
  · have hd : (k == 2) = false := by simpa using h
    have e : yesB k n = false := by simp [yesB, h]
    rw [e]
    go_enter Try.func11, Try.ntmps11
    go_wp2
    go_ret
    exact ⟨rfl, Below.allocs _ _⟩

theorem rof_is (b : Bool) (w : World) :
    Calls Try.prog 13 #[.bool b] w fun e w' => e = .returned (.agg #[.int .u8 2, .int .i64 (ofN b), .int .i64 0, .string ⟨#[]⟩]) ∧ Below w.heap.size w w' := by
  cases b
  · go_enter Try.func13, Try.ntmps13
    go_wp2
    exact bodyPost_ret (v := .agg #[.int .u8 2, .int .i64 0, .int .i64 0, .string ⟨#[]⟩]) (by simp [results, Try.results13, go_sem]) rfl ⟨rfl, Below.allocs _ _⟩
  · go_enter Try.func13, Try.ntmps13
    go_wp2
    exact bodyPost_ret (v := .agg #[.int .u8 2, .int .i64 1, .int .i64 0, .string ⟨#[]⟩]) (by simp [results, Try.results13, go_sem]) rfl ⟨rfl, Below.allocs _ _⟩

theorem rint_is (n : Int) (w : World) :
    Calls Try.prog 15 #[.int .i64 n] w fun e w' => e = .returned (.agg #[.int .u8 1, .int .i64 n, .int .i64 0, .string ⟨#[]⟩]) ∧ Below w.heap.size w w' := by
  go_enter Try.func15, Try.ntmps15
  go_wp2
  exact bodyPost_ret (v := .agg #[.int .u8 1, .int .i64 n, .int .i64 0, .string ⟨#[]⟩]) (by simp [results, Try.results15, go_sem]) rfl ⟨rfl, Below.allocs _ _⟩

end Go.Proofs.Ytmbjhahlbbhdaaa
