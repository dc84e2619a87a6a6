/-
  What the document's own covenantref01.Text answers, as walks over this translation.
-/
import Derived.Test.YtenpjfkiehcjlaaDoorVDig
import Derived.Test.YtenpjfkiehcjlaaDoorVText
namespace Go.Proofs.YtenpjfkiehcjlaaDoor
open Go.RowKit

theorem dbl_app : ∀ a b : List UInt8, dbl (a ++ b) = dbl a ++ dbl b
  | [], b => rfl
  | c :: a, b => by
    by_cases h : c = 39 <;> simp [dbl, h, dbl_app a b]

theorem dbl_next (t : ByteArray) (i : Nat) (h : i < t.size) : dbl (t.data.toList.take (i + 1)) = dbl (t.data.toList.take i) ++ (if t[i] = 39 then [39, 39] else [t[i]]) := by
  have hl : i < t.data.toList.length := by simpa using h
  have hg : t.data.toList[i] = t[i] := rfl
  rw [List.take_succ_eq_append_getElem hl, dbl_app, hg]
  by_cases h39 : t[i] = 39 <;> simp [dbl, h39]

theorem extract_one (t : ByteArray) (i : Nat) (h : i < t.size) : t.extract i (i + 1) = ⟨#[t[i]]⟩ := by
  apply Go.WideShapes.bytes_inj
  have hl : i < t.data.toList.length := by simpa using h
  have hg : t.data.toList[i] = t[i] := rfl
  rw [ByteArray.data_extract, Array.toList_extract, List.extract_eq_take_drop, List.drop_eq_getElem_cons hl, hg]
  simp

/-- What of a text is written behind i bytes of it. -/
def halfT (t : ByteArray) (i : Nat) : ByteArray := ⟨(39 :: dbl (t.data.toList.take i)).toArray⟩

theorem halfT_zero (t : ByteArray) : halfT t 0 = ⟨#[39]⟩ := by simp [halfT, dbl]
theorem halfT_size (t : ByteArray) (i : Nat) (h : t.size ≤ 256) : (halfT t i).size ≤ 513 := by
  have := dbl_length (t.data.toList.take i)
  have hl : (t.data.toList.take i).length ≤ t.size := by rw [List.length_take]; simp; omega
  have e : (halfT t i).size = (dbl (t.data.toList.take i)).length + 1 := by simp [halfT, ByteArray.size]
  omega
theorem halfT_quote (t : ByteArray) (i : Nat) (h : i < t.size) (h39 : t[i] = 39) : halfT t i ++ t.extract i (i + 1) ++ ⟨#[39]⟩ = halfT t (i + 1) := by
  rw [extract_one t i h]
  unfold halfT
  rw [dbl_next t i h, if_pos h39, h39]
  have e1 := ba_app (39 :: dbl (t.data.toList.take i)) [39]
  have e2 := ba_app (39 :: dbl (t.data.toList.take i) ++ [39]) [39]
  rw [← e1] at e2
  refine e2.trans ?_
  simp
theorem halfT_plain (t : ByteArray) (i : Nat) (h : i < t.size) (h39 : t[i] ≠ 39) : halfT t i ++ t.extract i (i + 1) = halfT t (i + 1) := by
  rw [extract_one t i h]
  unfold halfT
  rw [dbl_next t i h, if_neg h39]
  have e1 := ba_app (39 :: dbl (t.data.toList.take i)) [t[i]]
  refine e1.trans ?_
  simp

end Go.Proofs.YtenpjfkiehcjlaaDoor
