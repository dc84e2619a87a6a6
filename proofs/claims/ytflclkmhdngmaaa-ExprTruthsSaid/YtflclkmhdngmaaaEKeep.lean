/-
  What stays while a region runs that draws its order, makes expressions and writes one value into one new block.
-/
import Derived.Test.YtflclkmhdngmaaaQKeep
import Derived.Test.YtflclkmhdngmaaaEIs
namespace Go.Proofs.Ytflclkmhdngmaaa
open Go.RowKit

/-- KeepR, and expressions in memory stay where they are. -/
structure KeepX (B : Nat) (k n u : Int) (t : ByteArray) (w w' : World) : Prop where
  keep : KeepR B k n u t w w'
  ats : ∀ b o e, AtE w b o e → AtE w' b o e

theorem KeepX.refl (B : Nat) (k n u : Int) (t : ByteArray) (w : World) : KeepX B k n u t w w := ⟨KeepR.refl _ _ _ _ _ _, fun _ _ _ h => h⟩
theorem KeepX.trans {B : Nat} {k n u : Int} {t : ByteArray} (a b c : World) (h : KeepX B k n u t a b) (h2 : KeepX B k n u t b c) : KeepX B k n u t a c :=
  ⟨KeepR.trans _ _ _ h.keep h2.keep, fun x o e hx => h2.ats x o e (h.ats x o e hx)⟩
theorem KeepX.below {B : Nat} {k n u : Int} {t : ByteArray} {w w' : World} (h : KeepX B k n u t w w') : Below B w w' := h.keep.below
theorem KeepX.of_below {B : Nat} {k n u : Int} {t : ByteArray} {w w' : World} (h : Below w.heap.size w w') (hB : B ≤ w.heap.size) : KeepX B k n u t w w' := ⟨KeepR.of_below h hB, fun _ _ _ hx => hx.below h⟩

theorem cell_put4 {W : World} {g b o : Nat} {k n u : Int} {t : ByteArray} (h : b ≠ g ∨ 4 ≤ o) : (put4 W g k n u t).cell? ⟨b, o, none⟩ = W.cell? ⟨b, o, none⟩ := by
  have h1 : ∀ (U : World) (i : Nat) (v : Value), i < 4 → (U.setCell ⟨g, i, none⟩ v).cell? ⟨b, o, none⟩ = U.cell? ⟨b, o, none⟩ := fun U i v hi => by
    rcases h with h | h
    · exact World.cell?_of_block (Below.heap_setCell _ _ _ _ h)
    · have : (⟨b, o, none⟩ : Addr) ≠ ⟨g, i, none⟩ := by intro e; injection e; omega
      go_simp
  unfold put4
  rw [h1 _ 3 _ (by omega), h1 _ 2 _ (by omega), h1 _ 1 _ (by omega), h1 _ 0 _ (by omega)]

theorem KeepX.put {B : Nat} {k n u : Int} {t : ByteArray} {w : World} {g : Nat} (hB : B ≤ g) (hc : Cells w g) : KeepX B k n u t w (put4 w g k n u t) := by
  refine ⟨KeepR.put hB hc, fun b o e hx => ?_⟩
  obtain ⟨h0, h1, h2, h3, h4, h5, h6, h7⟩ := hx
  have hd : b ≠ g ∨ 4 ≤ o := by
    by_cases hb : b = g
    · right
      subst hb
      obtain ⟨k', n', u', t', q0, q1, q2, q3, _⟩ := hc
      apply Classical.byContradiction
      intro ho
      have : o = 0 ∨ o = 1 ∨ o = 2 ∨ o = 3 := by omega
      rcases this with rfl | rfl | rfl | rfl
      · rw [q1] at h1; cases h1
      · rw [q1] at h0; cases h0
      · rw [q2] at h0; cases h0
      · rw [q3] at h0; cases h0
    · exact .inl hb
  have hd' : ∀ i, b ≠ g ∨ 4 ≤ o + i := fun i => hd.imp id (fun h => by omega)
  exact ⟨by rw [cell_put4 hd]; exact h0, by rw [cell_put4 (hd' 1)]; exact h1, by rw [cell_put4 (hd' 2)]; exact h2, by rw [cell_put4 (hd' 3)]; exact h3, by rw [cell_put4 (hd' 4)]; exact h4, by rw [cell_put4 (hd' 5)]; exact h5, by rw [cell_put4 (hd' 6)]; exact h6, by rw [size_put4]; exact h7⟩

theorem Ex.In.keep {W W' : World} (hb : ∀ b o e, AtE W b o e → AtE W' b o e) : ∀ {e : Ex}, e.In W → e.In W' := by
  intro e
  induction e using Ex.ind with
  | h e ih =>
    intro h
    rw [Ex.in_iff] at h ⊢
    obtain ⟨h1, h2, h3⟩ := h
    refine ⟨h1, fun hl => ?_, fun i hi => ih i hi (h3 i hi)⟩
    obtain ⟨b, o, e1, h4⟩ := h2 hl
    exact ⟨b, o, e1, fun i hi => hb _ _ _ (h4 i hi)⟩

theorem IsE.keep {T : Ex} {w w' : World} {v : Value} (hb : ∀ b o e, AtE w b o e → AtE w' b o e) (h : IsE T w v) : IsE T w' v := by
  obtain ⟨e, h1, h2, h3⟩ := h; exact ⟨e, h1, h2.keep hb, h3⟩
theorem IsS.keep {n : Nat} {T : Nat → Ex} {w w' : World} {v : Value} (hb : ∀ b o e, AtE w b o e → AtE w' b o e) (h : IsS n T w v) : IsS n T w' v := by
  obtain ⟨b, x, h1, h2⟩ := h; exact ⟨b, x, h1, fun i hi => ⟨hb _ _ _ (h2 i hi).1, (h2 i hi).2.1.keep hb, (h2 i hi).2.2⟩⟩

/-- Eval, handed an expression like T. -/
theorem eval_of (T : Ex) (r : Rw) (v : Val) (f : Int) (hf : evalR r T = (v, f)) (x : Value) (w : World) (hx : IsE T w x) (hr : r.In w) :
    Calls Try.prog 12 #[x, .slice r.a r.len r.cap] w fun y w' => y = .returned (.tuple #[.agg #[.int .u8 v.k, .int .i64 v.n, .int .i64 v.u, .string v.t], .int .i64 f]) ∧ Below w.heap.size w w' := by
  obtain ⟨e, rfl, hin, hs⟩ := hx
  exact eval_is e r w hin hr v f (by rw [← hf]; exact evalR_congr rfl (fun _ _ => rfl) hs)

/-- May, handed an expression like T. -/
theorem may_of (T : Ex) (b : Bool) (hb : validB mayV hasAny T = b) (x : Value) (w : World) (hx : IsE T w x) :
    Calls Try.prog 19 #[x] w fun y w' => y = .returned (.bool b) ∧ Below w.heap.size w w' := by
  obtain ⟨e, rfl, hin, hs⟩ := hx
  exact maye_is e w hin b (by rw [← hb]; exact hs.valid _ _)
end Go.Proofs.Ytflclkmhdngmaaa
