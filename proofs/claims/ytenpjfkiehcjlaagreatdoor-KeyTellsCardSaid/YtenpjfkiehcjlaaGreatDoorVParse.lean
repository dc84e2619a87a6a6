/-
  What value.read and value.Parse answer, as walks over this translation.
-/
import Derived.Test.YtenpjfkiehcjlaaGreatDoorVRead
namespace Go.Proofs.YtenpjfkiehcjlaaGreatDoor
open Go.RowKit

/-- What is read: the four fields of a value, and whether there is one. -/
structure Rd where
  k : Int
  n : Int
  hi : Int
  t : List UInt8
  ok : Bool

def textR (l : List UInt8) : Rd :=
  if l.length < 2 ∨ Lib.hasSuffix l [39] = false then ⟨0, 0, 0, [], false⟩ else ⟨3, 0, 0, und ((l.drop 1).take (l.length - 2)), true⟩

def readR (l : List UInt8) : Rd :=
  if l = [110, 117, 108, 108] then ⟨0, 0, 0, [], true⟩
  else if l = [121, 101, 115] then ⟨2, 1, 0, [], true⟩
  else if l = [110, 111] then ⟨2, 0, 0, [], true⟩
  else if Lib.hasPrefix l [39] = true then
    textR l
  else if Lib.hasPrefix l [91] = true then ⟨4, numV (spanIn l).1, numV (spanIn l).2.1, [], spanOK l⟩
  else ⟨1, numV l, 0, [], numOK l⟩

def rdV (r : Rd) : Value := .tuple #[.agg #[.int .u8 r.k, .int .i64 r.n, .int .i64 r.hi, .string ⟨r.t.toArray⟩], .bool r.ok]

end Go.Proofs.YtenpjfkiehcjlaaGreatDoor
