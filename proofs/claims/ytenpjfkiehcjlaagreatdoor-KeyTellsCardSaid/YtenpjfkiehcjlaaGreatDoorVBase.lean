/-
  What the walks ask of the world (the library's tables and errors, as start-up lays them), and the library's functions that package value calls, each by the shelf's contract, in one form.
-/
import Derived.Test.YtenpjfkiehcjlaaGreatDoorKBase
import Derived.Test.YtenpjfkiehcjlaaGreatDoorVMath
import Derived.WalkKit
import Derived.WalkSpells
import Derived.WalkLawsBesides
import Derived.WalkSmall
import Derived.Lib.Hide
import Derived.Lib.ItoaLen
import Derived.Lib.SmallJoins
namespace Go.Proofs.YtenpjfkiehcjlaaGreatDoor
open Go.RowKit

/-- The library's table of powers of ten stands as start-up lays it. -/
structure GoodT (w : World) : Prop where
  shaped : w.ShapedOpen Tryz.prog
  tab : Lib.TabIs Tryz.prog w "internal/strconv.uint64pow10" .u64 Lib.pow10Tab

/-- The library's tables and errors stand as start-up lays them. -/
structure Good (w : World) : Prop where
  toGoodT : GoodT w
  syn : ∃ tp p, w.var? Tryz.prog "strconv.ErrSyntax" = some #[.iface tp p]
  ran : ∃ tp p, w.var? Tryz.prog "strconv.ErrRange" = some #[.iface tp p]

theorem Good.shaped {w : World} (h : Good w) : w.ShapedOpen Tryz.prog := h.toGoodT.shaped

theorem gTab : Tryz.prog.globalNamed "internal/strconv.uint64pow10" = some 1 := by kernel_rfl
theorem GoodT.below {w w' : World} (h : GoodT w) (hb : Below w.heap.size w w') : GoodT w' :=
  ⟨h.shaped.keptBut (hb.frame (fun _ => False)) (fun _ h => h.elim), Joins.var_stays gTab h.tab hb (Nat.le_refl _)⟩

theorem below_grow (w : World) (k : Nat) (os : Array Obj) : Below w.heap.size w (Sort.grow (w.drewN k) os) :=
  ⟨rfl, rfl, rfl, by simp [Sort.grow, World.drewN], fun i hi => by simp only [Sort.grow, World.drewN]; rw [Array.getElem?_append_left hi]⟩

set_option maxHeartbeats 400000 in
theorem decimal_any (n : Int) (h0 : -9223372036854775808 ≤ n) (h1 : n ≤ 9223372036854775807) (w : World) (hg : GoodT w) :
    Calls Tryz.prog 58 #[.int .i64 n] w fun e w' => e = .returned (.string ⟨(Lib.itoa n).toArray⟩) ∧ Below w.heap.size w w' := by
  go_enter Tryz.func58, Tryz.ntmps58
  go_wp2_with fail
  refine (Tryz.strconv_FormatInt_10 n h0 h1 _ hg.tab).mono ?_
  rintro e w' ⟨rfl, k, os, rfl⟩
  go_wp2_with fail
  go_ret
  exact ⟨rfl, below_grow _ _ _⟩

/-- The text of a truth. -/
def truthL (n : Int) : List UInt8 := if n = 1 then [121, 101, 115] else [110, 111]

theorem ba_app (a b : List UInt8) : (⟨a.toArray⟩ : ByteArray) ++ ⟨b.toArray⟩ = ⟨(a ++ b).toArray⟩ := by
  apply Go.WideShapes.bytes_inj
  simp [ByteArray.data_append]

set_option maxHeartbeats 400000 in
theorem truth_any (n : Int) (w : World) :
    Calls Tryz.prog 59 #[.int .i64 n] w fun e w' => e = .returned (.string ⟨(truthL n).toArray⟩) ∧ Below w.heap.size w w' := by
  by_cases h : n = 1
  · subst h
    go_enter Tryz.func59, Tryz.ntmps59
    go_wp2
    go_ret
    exact ⟨rfl, Below.refl _ _⟩
  · have hd : (n == 1) = false := by simpa using h
    go_enter Tryz.func59, Tryz.ntmps59
    go_wp2
    go_ret
    exact ⟨by simp [truthL, h], Below.refl _ _⟩

end Go.Proofs.YtenpjfkiehcjlaaGreatDoor
