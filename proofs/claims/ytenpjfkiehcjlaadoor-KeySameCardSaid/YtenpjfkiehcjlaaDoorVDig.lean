/-
  What the document's own covenantref01.Digits answers, as walks over this translation.
-/
import Derived.Test.YtenpjfkiehcjlaaDoorVRef
import Derived.Test.YtenpjfkiehcjlaaDoorRegV
namespace Go.Proofs.YtenpjfkiehcjlaaDoor
open Go.RowKit

theorem conv_one (w : World) (b c : Nat) (x : Int) (h : w.cell? ⟨b, 0, none⟩ = some (.int .u8 x)) :
    Sem.run Tryd.prog (convert 55 9 (.slice (some ⟨b, 0, none⟩) 1 c)) w = .ok (.string ⟨#[UInt8.ofNat x.toNat]⟩) w := by
  have := run_convert_bytes_arg (P := Tryd.prog) w 55 5 (by kernel_rfl) (by kernel_rfl) b 0 1 c [x] rfl (fun i hi => by
    obtain rfl : i = 0 := by omega
    exact h) 9 (by kernel_rfl)
  exact this

theorem tdiv_pos (u : Nat) : (u : Int).tdiv 10 = ((u / 10 : Nat) : Int) := rfl
theorem tmod_pos (u : Nat) : (u : Int).tmod 10 = ((u % 10 : Nat) : Int) := rfl
theorem tdiv_minus (u : Nat) : (-(u : Int)).tdiv 10 = -((u / 10 : Nat) : Int) := by rw [Int.neg_tdiv, tdiv_pos]
theorem tmod_minus (u : Nat) : (-(u : Int)).tmod 10 = -((u % 10 : Nat) : Int) := by rw [Int.neg_tmod, tmod_pos]

theorem dec_more (u : Nat) (h : 10 ≤ u) : Lib.decDigits u = Lib.decDigits (u / 10) ++ [UInt8.ofNat (48 + u % 10)] := by
  rw [Lib.decDigits, dif_neg (by omega)]

/-- A slice of one new byte. -/
def OneByte (x : Int) (w : World) (v : Value) : Prop := ∃ b, v = .slice (some ⟨b, 0, none⟩) 1 1 ∧ b < w.heap.size ∧ w.cell? ⟨b, 0, none⟩ = some (.int .u8 x)

theorem OneByte.stays {x : Int} {w w' : World} {v : Value} (h : Below w.heap.size w w') (hv : OneByte x w v) : OneByte x w' v := by
  obtain ⟨b, e, h1, h2⟩ := hv
  exact ⟨b, e, Nat.lt_of_lt_of_le h1 h.size, by rw [h.cell h1]; exact h2⟩

theorem OneByte.new (x : Int) (w : World) (t : TypeId) : OneByte x (w.alloc (.cells #[.int .u8 x] t)) (.slice (some ⟨w.heap.size, 0, none⟩) 1 1) :=
  ⟨w.heap.size, rfl, by simp, by simp⟩

end Go.Proofs.YtenpjfkiehcjlaaDoor
