/-
  Two values in two new blocks; a text is its bytes.
-/
import Derived.Test.YtenpjfkiehcjlaaGreatDoorKBase
namespace Go.Proofs.YtenpjfkiehcjlaaGreatDoor
open Go.RowKit

theorem two_boxes (w : World) (k n hi : Int) (t : ByteArray) (k' n' hi' : Int) (t' : ByteArray) (T : TypeId) : ∃ W : World, W = (w.alloc (.cells #[.int .u8 k, .int .i64 n, .int .i64 hi, .string t] T)).alloc (.cells #[.int .u8 k', .int .i64 n', .int .i64 hi', .string t'] T) ∧
    Boxed W w.heap.size k n hi t ∧ Boxed W (w.heap.size + 1) k' n' hi' t' ∧ Below w.heap.size w W := by
  refine ⟨_, rfl, (Boxed.new w k n hi t T).below (Below.allocs _ _), ?_, ((Below.refl _ _).alloc (Nat.le_refl _) _).alloc (by simp) _⟩
  have := Boxed.new (w.alloc (.cells #[.int .u8 k, .int .i64 n, .int .i64 hi, .string t] T)) k' n' hi' t' T
  rw [show (w.alloc (.cells #[.int .u8 k, .int .i64 n, .int .i64 hi, .string t] T)).heap.size = w.heap.size + 1 by simp] at this
  exact this

theorem ba_eta (t : ByteArray) : (⟨t.data.toList.toArray⟩ : ByteArray) = t := by cases t; simp


end Go.Proofs.YtenpjfkiehcjlaaGreatDoor
