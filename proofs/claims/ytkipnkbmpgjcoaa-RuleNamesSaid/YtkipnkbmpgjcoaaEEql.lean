/-
  Values held against each other: v == w.
-/
import Derived.Test.YtkipnkbmpgjcoaaEBase
namespace Go.Proofs.Ytkipnkbmpgjcoaa
open Go.RowKit

set_option maxRecDepth 100000 in
set_option maxHeartbeats 1000000 in
theorem eql_any (k n u : Int) (t : ByteArray) (k' n' u' : Int) (t' : ByteArray) (w : World) :
    (Go.binOp .eql 24 (.agg #[.int .u8 k, .int .i64 n, .int .i64 u, .string t]) (.agg #[.int .u8 k', .int .i64 n', .int .i64 u', .string t'])).run Try.prog w = .ok (.bool (eqB ⟨k, n, u, t⟩ ⟨k', n', u', t'⟩)) w := by
  unfold eqB
  by_cases h1 : k = k'
  · by_cases h2 : n = n'
    · by_cases h3 : u = u'
      · by_cases h4 : t.toList = t'.toList
        · simp only [h1, h2, h3, h4]
          go_simp
        · simp only [h1, h2, h3, h4]
          go_simp
      · simp only [h1, h2, h3]
        go_simp
    · simp only [h1, h2]
      go_simp
  · simp only [h1]
    go_simp

theorem eql_is (x y : Val) (b : Bool) (h : eqB x y = b) (w : World) : (Go.binOp .eql 24 (.agg #[.int .u8 x.k, .int .i64 x.n, .int .i64 x.u, .string x.t]) (.agg #[.int .u8 y.k, .int .i64 y.n, .int .i64 y.u, .string y.t])).run Try.prog w = .ok (.bool b) w := by
  rw [← h]; exact eql_any x.k x.n x.u x.t y.k y.n y.u y.t w

theorem eql_z (x : Val) (b : Bool) (h : zeroB x = b) (w : World) : (Go.binOp .eql 24 (.agg #[.int .u8 x.k, .int .i64 x.n, .int .i64 x.u, .string x.t]) (.agg #[.int .u8 0, .int .i64 0, .int .i64 0, .string ⟨#[]⟩])).run Try.prog w = .ok (.bool b) w := by
  refine eql_is x Val.zero b ?_ w
  rw [← h, Bool.eq_iff_iff, eqB_iff, zeroB_iff]
end Go.Proofs.Ytkipnkbmpgjcoaa
