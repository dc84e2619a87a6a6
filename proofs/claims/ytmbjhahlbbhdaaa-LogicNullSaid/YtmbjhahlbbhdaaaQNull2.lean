/-
  The law LogicNull: whatever the value, it answers true.
-/
import Derived.Test.YtmbjhahlbbhdaaaQNullT
import Derived.Test.YtmbjhahlbbhdaaaQNullF
import Derived.Test.YtmbjhahlbbhdaaaQNullO
import Derived.Test.YtmbjhahlbbhdaaaQOrd
namespace Go.Proofs.Ytmbjhahlbbhdaaa
open Go.RowKit

theorem calc_null_l (k s : Int) (e : Int) (he : fitB 1 k = (e == 0)) (h0 : e = 0 ∨ e = 60) : calcR k 0 s = ⟨0, 0, e⟩ := by
  rcases h0 with rfl | rfl
  · have h : fitB 1 k = true := by rw [he]; rfl
    have h2 : fitB 1 0 = true := by decide
    have h3 : nullB 0 = true := by decide
    simp [calcR, h, h2, h3]
  · have h : fitB 1 k = false := by rw [he]; rfl
    simp [calcR, h]

theorem calc_null_r (k s : Int) (e : Int) (he : fitB 1 k = (e == 0)) (h0 : e = 0 ∨ e = 60) : calcR 0 k s = ⟨0, 0, e⟩ := by
  rcases h0 with rfl | rfl
  · have h : fitB 1 k = true := by rw [he]; rfl
    have h2 : fitB 1 0 = true := by decide
    have h3 : nullB 0 = true := by decide
    simp [calcR, h, h2, h3]
  · have h : fitB 1 k = false := by rw [he]; rfl
    simp [calcR, h]

theorem null_any (k n u : Int) (t : ByteArray) (hn : I64 n) (w : World) :
    Calls Try.prog 8 #[.agg #[.int .u8 k, .int .i64 n, .int .i64 u, .string t]] w fun e w' => e = .returned (.bool true) ∧ Below w.heap.size w w' := by
  by_cases h1 : t.size ≤ 2000
  · obtain ⟨e, he, h0⟩ : ∃ e : Int, fitB 1 k = (e == 0) ∧ (e = 0 ∨ e = 60) := by
      cases h : fitB 1 k
      · exact ⟨60, by decide, .inr rfl⟩
      · exact ⟨0, by decide, .inl rfl⟩
    have L := fun s => calc_null_l k s e he h0
    have R := fun s => calc_null_r k s e he h0
    have q1 : equalR k n u t 0 0 0 ⟨#[]⟩ = ⟨0, 0, 0⟩ := equalR_null (.inr rfl) ..
    have q2 : equalR 0 0 0 ⟨#[]⟩ k n u t = ⟨0, 0, 0⟩ := equalR_null (.inl rfl) ..
    have l1 : lessR k n u t 0 0 0 ⟨#[]⟩ = ⟨0, 0, 0⟩ := lessR_null (.inr rfl) ..
    have l2 : lessR 0 0 0 ⟨#[]⟩ k n u t = ⟨0, 0, 0⟩ := lessR_null (.inl rfl) ..
    have f0 : fitB 2 0 = true := by decide
    have z0 : nullB 0 = true := by decide
    have y0 : yesB 0 0 = false := by decide
    by_cases k0 : k = 0
    · subst k0
      exact null_N 0 n u t h1 hn e (L _) (R _) (L _) (R _) (L _) (R _) q1 q2 l1 l2 (by simp [connectR, knownB, f0, z0]) (by simp [connectR, knownB, f0, z0]) z0 (by simp [yesB]) rfl rfl w
    · have z : nullB k = false := by simp [nullB, k0]
      by_cases k2 : k = 2
      · subst k2
        have f2 : fitB 2 2 = true := by decide
        by_cases n0 : n = 0
        · have y : yesB 2 n = false := by simp [yesB, n0]
          exact null_F 2 n u t h1 hn e (L _) (R _) (L _) (R _) (L _) (R _) q1 q2 l1 l2 (by simp [connectR, knownB, f0, f2, z0, z, y, ofN]) (by simp [connectR, knownB, f0, f2, z0, z, y, ofN]) z y rfl rfl w
        · have y : yesB 2 n = true := by simp [yesB, n0]
          exact null_T 2 n u t h1 hn e (L _) (R _) (L _) (R _) (L _) (R _) q1 q2 l1 l2 (by simp [connectR, knownB, f0, f2, z0, z, y, ofN]) (by simp [connectR, knownB, f0, f2, z0, z, y, ofN]) z y rfl rfl w
      · have y : yesB k n = false := by simp [yesB, k2]
        have f2 : fitB 2 k = false := by simp [fitB, k2, k0]
        exact null_O k n u t h1 hn e (L _) (R _) (L _) (R _) (L _) (R _) q1 q2 l1 l2 (by simp [connectR, f2]) (by simp [connectR, f2]) z y (by simpa using k0) (by simpa using k2) w
  · exact null_big k n u t (by omega) w
end Go.Proofs.Ytmbjhahlbbhdaaa
