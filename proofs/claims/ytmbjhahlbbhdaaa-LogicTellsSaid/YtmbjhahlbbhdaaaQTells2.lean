/-
  The law LogicTells: whatever the two values, the number and the truth, it answers true.
-/
import Derived.Test.YtmbjhahlbbhdaaaQTells
namespace Go.Proofs.Ytmbjhahlbbhdaaa
open Go.RowKit

theorem tells_any (k n u : Int) (t : ByteArray) (k' n' u' : Int) (t' : ByteArray) (m : Int) (d : Bool) (hn : I64 n) (hm : I64 n') (w : World) :
    Calls Try.prog 3 #[.agg #[.int .u8 k, .int .i64 n, .int .i64 u, .string t], .agg #[.int .u8 k', .int .i64 n', .int .i64 u', .string t'], .int .i64 m, .bool d] w fun e w' => e = .returned (.bool true) ∧ Below w.heap.size w w' := by
  by_cases h1 : t.size ≤ 2000
  · by_cases h2 : t'.size ≤ 2000
    · exact tells_small k n u t k' n' u' t' m d h1 h2 _ _ _ _ _ _ _ _ _ _ _ rfl rfl rfl rfl rfl rfl rfl rfl rfl rfl rfl hn hm w
    · exact tells_big2 k n u t k' n' u' t' m d h1 (by omega) w
  · exact tells_big1 k n u t k' n' u' t' m d (by omega) w
end Go.Proofs.Ytmbjhahlbbhdaaa
