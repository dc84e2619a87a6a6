/-
  With, and the laws' own set: walked (stage 13).
-/
import Derived.Test.YtjjhmfpdbjflmaaOCode
namespace Go.Proofs.Ytjjhmfpdbjflmaa
open Go.RowKit
set_option linter.unusedVariables false

theorem with_or (h m : Int) (hh : U16 h) (hm : U8 m) : bits .or .u16 h (IntKind.u16.wrap ((2 : Int) ^ min m.toNat 16)) = withN h m := by
  unfold withN
  split
  · rename_i h16
    have e : min m.toNat 16 = m.toNat := by omega
    have hk : m.toNat < 16 := by have := hm.1; omega
    have h2 := two_lt hk
    rw [e, wrap_two hk, u16_or h _ hh.1 hh.2 (Int.natCast_nonneg _) (Int.ofNat_lt.2 h2), Int.toNat_natCast]
  · rename_i h16
    have e : min m.toNat 16 = 16 := by omega
    have e2 : IntKind.u16.wrap ((2 : Int) ^ 16) = 0 := by decide
    rw [e, e2, u16_or h 0 hh.1 hh.2 (by decide) (by decide)]
    rfl

set_option maxRecDepth 100000 in
set_option maxHeartbeats 4000000 in
theorem with_is (h m : Int) (hm : U8 m) (hh : U16 h) (w : World) (r : Int) (hr : withN h m = r) : Calls Try.prog 61 #[.int .u16 h, .int .u8 m] w fun e w' => e = .returned (.int .u16 r) ∧ Below w.heap.size w w' := by
  have hor := with_or h m hh hm
  rw [hr] at hor
  have hm0 := hm.1
  go_enter Try.func61, Try.ntmps61
  go_wp2_with fail
  go_ret
  exact ⟨rfl, Below.refl _ _⟩

/-- What the laws' set makes of a list of modes. -/
def setN (l : List Int) : Int := l.foldl withN 0
theorem u16_0 : U16 0 := ⟨by decide, by decide⟩
theorem fold_u16 : ∀ (l : List Int) (h : Int), U16 h → (∀ x ∈ l, U8 x) → U16 (l.foldl withN h)
  | [], h, hh, _ => hh
  | x :: l, h, hh, hl => fold_u16 l _ (with_u16 hh (hl x List.mem_cons_self).1) (fun y hy => hl y (List.mem_cons_of_mem _ hy))

end Go.Proofs.Ytjjhmfpdbjflmaa
