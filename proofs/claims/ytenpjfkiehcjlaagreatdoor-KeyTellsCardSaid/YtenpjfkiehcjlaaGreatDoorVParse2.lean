/-
  What value.Parse answers, as a walk over this translation.
-/
import Derived.Test.YtenpjfkiehcjlaaGreatDoorVParse
import Derived.Lib.ParseIntBTie
namespace Go.Proofs.YtenpjfkiehcjlaaGreatDoor
open Go.RowKit

theorem numV_bounds (l : List UInt8) : -9223372036854775808 ≤ numV l ∧ numV l ≤ 9223372036854775807 := by
  unfold numV
  cases h : Lib.parseIntB 64 l with
  | ok v => rw [Lib.parseIntB_64] at h; exact Lib.atoiAll_bounds h
  | range => simp only [Lib.intSat]; split <;> simp
  | _ => simp

theorem readR_bounds (l : List UInt8) : (-9223372036854775808 ≤ (readR l).n ∧ (readR l).n ≤ 9223372036854775807) ∧ (-9223372036854775808 ≤ (readR l).hi ∧ (readR l).hi ≤ 9223372036854775807) := by
  have h1 := numV_bounds l
  have h2 := numV_bounds (spanIn l).1
  have h3 := numV_bounds (spanIn l).2.1
  unfold readR textR
  repeat' split
  all_goals simp only []
  all_goals omega

/-- What Parse answers: the value, and whether there is one. -/
def parseR (l : List UInt8) : Rd :=
  if (readR l).ok = true ∧ textL (readR l).k (readR l).n (readR l).hi (readR l).t = l then readR l else ⟨0, 0, 0, [], false⟩

def paV (r : Rd) : Value := .tuple #[.agg #[.int .u8 r.k, .int .i64 r.n, .int .i64 r.hi, .string ⟨r.t.toArray⟩], .int .i64 (if r.ok = true then 0 else 4)]

end Go.Proofs.YtenpjfkiehcjlaaGreatDoor
