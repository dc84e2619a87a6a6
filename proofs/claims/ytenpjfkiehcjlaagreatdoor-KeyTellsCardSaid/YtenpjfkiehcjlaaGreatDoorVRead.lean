/-
  What value.read and what it calls answer, as walks over this translation.
-/
import Derived.Test.YtenpjfkiehcjlaaGreatDoorVNum
import Derived.Test.YtenpjfkiehcjlaaGreatDoorVText
namespace Go.Proofs.YtenpjfkiehcjlaaGreatDoor
open Go.RowKit

theorem unquotes_any (t : ByteArray) (hlen : t.size ≤ 100000) (w : World) (hg : Good w) :
    Calls Tryz.prog 60 #[.string t, .string ⟨#[39, 39]⟩, .string ⟨#[39]⟩] w fun e w' => e = .returned (.string ⟨(und t.data.toList).toArray⟩) ∧ Below w.heap.size w w' := by
  have e1 : (⟨#[39]⟩ : ByteArray).size = 1 := rfl
  have e2 : (⟨#[39, 39]⟩ : ByteArray).size = 2 := rfl
  refine (Tryz.strings_ReplaceAll_shaped t ⟨#[39, 39]⟩ ⟨#[39]⟩ _ hg.shaped (by omega) (by decide) ?_).mono ?_
  · have := Lib.countB_mul_le ⟨#[39, 39]⟩ (by decide) t.size t (Nat.le_refl _)
    rw [e2] at this
    rw [e1]
    omega
  · rintro e w2 ⟨rfl, hb2⟩
    have := replaceAll_und t.data.toList
    exact ⟨by rw [← this], hb2⟩

theorem und_length : ∀ t : List UInt8, (und t).length ≤ t.length := by
  intro t
  induction hn : t.length using Nat.strongRecOn generalizing t with
  | _ n ih =>
    match t, hn with
    | [], _ => simp [und]
    | c :: l, hn =>
      by_cases h : c = 39 ∧ l.head? = some 39
      · obtain ⟨rfl, h2⟩ := h
        obtain ⟨l', rfl⟩ : ∃ l', l = 39 :: l' := by cases l with
          | nil => simp at h2
          | cons a l' => simp at h2; exact ⟨l', by rw [h2]⟩
        have := ih l'.length (by simp at hn; omega) l' rfl
        rw [und_two]
        simp only [List.length_cons] at hn ⊢
        omega
      · have := ih l.length (by simp at hn; omega) l rfl
        rw [und_one c l h]
        simp only [List.length_cons] at hn ⊢
        omega

/-- What readSpan reads: the two numbers, and whether it is a span's text as far as that goes. -/
def spanIn (l : List UInt8) : List UInt8 × List UInt8 × Bool := Lib.cut (Lib.trimSuffix (l.drop 1) [41]) [44]
def spanOK (l : List UInt8) : Bool := Lib.hasSuffix (l.drop 1) [41] && (spanIn l).2.2 && numOK (spanIn l).1 && numOK (spanIn l).2.1

theorem cut_length (s sep : List UInt8) : (Lib.cut s sep).1.length ≤ s.length ∧ (Lib.cut s sep).2.1.length ≤ s.length := by
  unfold Lib.cut
  split <;> simp <;> omega

theorem trimSuffix_length (s p : List UInt8) : (Lib.trimSuffix s p).length ≤ s.length := by
  unfold Lib.trimSuffix
  split <;> simp

end Go.Proofs.YtenpjfkiehcjlaaGreatDoor
