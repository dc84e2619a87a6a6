/-
  Three values that lie in one block, one behind the other (a slice of three).
-/
import Derived.Test.YtmbjhahlbbhdaaaQAwake
namespace Go.Proofs.Ytmbjhahlbbhdaaa
open Go.RowKit

def BoxAt (W : World) (g o0 o1 o2 o3 : Nat) (k n u : Int) (t : ByteArray) : Prop :=
  W.cell? ⟨g, o0, none⟩ = some (.int .u8 k) ∧ W.cell? ⟨g, o1, none⟩ = some (.int .i64 n) ∧ W.cell? ⟨g, o2, none⟩ = some (.int .i64 u) ∧ W.cell? ⟨g, o3, none⟩ = some (.string t) ∧ g < W.heap.size

theorem BoxAt.below {W W' : World} {g o0 o1 o2 o3 : Nat} {k n u : Int} {t : ByteArray} (h : BoxAt W g o0 o1 o2 o3 k n u t) (hb : Below W.heap.size W W') : BoxAt W' g o0 o1 o2 o3 k n u t := by
  obtain ⟨h0, h1, h2, h3, h4⟩ := h
  exact ⟨by rw [hb.cell h4]; exact h0, by rw [hb.cell h4]; exact h1, by rw [hb.cell h4]; exact h2, by rw [hb.cell h4]; exact h3, Nat.lt_of_lt_of_le h4 hb.size⟩

theorem three_new (w : World) (k n u : Int) (t : ByteArray) (k' n' u' : Int) (t' : ByteArray) (k'' n'' u'' : Int) (t'' : ByteArray) (ty : TypeId) :
    BoxAt (w.alloc (.cells #[.int .u8 k, .int .i64 n, .int .i64 u, .string t, .int .u8 k', .int .i64 n', .int .i64 u', .string t', .int .u8 k'', .int .i64 n'', .int .i64 u'', .string t''] ty)) w.heap.size 0 1 2 3 k n u t ∧
    BoxAt (w.alloc (.cells #[.int .u8 k, .int .i64 n, .int .i64 u, .string t, .int .u8 k', .int .i64 n', .int .i64 u', .string t', .int .u8 k'', .int .i64 n'', .int .i64 u'', .string t''] ty)) w.heap.size 4 5 6 7 k' n' u' t' ∧
    BoxAt (w.alloc (.cells #[.int .u8 k, .int .i64 n, .int .i64 u, .string t, .int .u8 k', .int .i64 n', .int .i64 u', .string t', .int .u8 k'', .int .i64 n'', .int .i64 u'', .string t''] ty)) w.heap.size 8 9 10 11 k'' n'' u'' t'' := by
  refine ⟨⟨?_, ?_, ?_, ?_, by simp⟩, ⟨?_, ?_, ?_, ?_, by simp⟩, ⟨?_, ?_, ?_, ?_, by simp⟩⟩ <;> go_simp
end Go.Proofs.Ytmbjhahlbbhdaaa
