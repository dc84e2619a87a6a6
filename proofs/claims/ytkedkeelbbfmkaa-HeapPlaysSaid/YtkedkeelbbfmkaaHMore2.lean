/-
  A step read once more; what is last of each table (stage 11).
-/
import Derived.Test.YtkedkeelbbfmkaaHMore
namespace Go.Proofs.Ytkedkeelbbfmkaa
open Go.RowKit
set_option linter.unusedVariables false

/-- The same step, later. -/
theorem step_re {w0 w : World} {b o c i : Nat} {l : List Stp} {s : Stp} (hs : SlSt w0 (some ⟨b, o, none⟩) c l) (hb : Below w0.heap.size w0 w) (hst : l[i]? = some s) :
    ∃ ra rc, SlL w ra rc s.t.row ∧ b < w.heap.size ∧
      w.cell? ⟨b, o + i * 11, none⟩ = some (.int .u8 s.kind) ∧ w.cell? ⟨b, o + i * 11 + 1, none⟩ = some (.int .i64 s.t.no) ∧ w.cell? ⟨b, o + i * 11 + 2, none⟩ = some (.int .i64 s.t.id) ∧ w.cell? ⟨b, o + i * 11 + 3, none⟩ = some (.int .i64 s.t.mn) ∧ w.cell? ⟨b, o + i * 11 + 4, none⟩ = some (.int .i64 s.t.cm) ∧ w.cell? ⟨b, o + i * 11 + 5, none⟩ = some (.int .i64 s.t.mx) ∧ w.cell? ⟨b, o + i * 11 + 6, none⟩ = some (.int .i64 s.t.cx) ∧ w.cell? ⟨b, o + i * 11 + 7, none⟩ = some (.slice ra s.t.row.length rc) ∧ w.cell? ⟨b, o + i * 11 + 8, none⟩ = some (.int .i64 s.slot) ∧ w.cell? ⟨b, o + i * 11 + 9, none⟩ = some (.int .i64 s.a) ∧ w.cell? ⟨b, o + i * 11 + 10, none⟩ = some (.int .i64 s.b) := by
  obtain ⟨b2, o2, e, hat⟩ := hs.get hst
  cases e
  obtain ⟨ra, rc, h2, h3, h4⟩ := hat.below hb
  exact ⟨ra, rc, h2, h3, h4 0 _ rfl, h4 1 _ rfl, h4 2 _ rfl, h4 3 _ rfl, h4 4 _ rfl, h4 5 _ rfl, h4 6 _ rfl, h4 7 _ rfl, h4 8 _ rfl, h4 9 _ rfl, h4 10 _ rfl⟩

/-! ### The greatest IDs -/

theorem doE_put {A : Ab} {s : Stp} (hk : s.kind = 0) (he : A.doE s = 0) : goodT s.t ∧ A.doA s = A.put s.t ∧ A.doV s = (A.slot : Int) := by
  unfold Ab.doE at he
  rw [if_pos hk] at he
  unfold Ab.ptE at he
  by_cases hg : goodT s.t
  · refine ⟨hg, ?_, ?_⟩
    · unfold Ab.doA Ab.pt; rw [if_pos hk, if_pos hg]
    · unfold Ab.doV Ab.ptV; rw [if_pos hk, if_pos hg]
  · rw [if_neg hg] at he; cases he
theorem doE_bad {A : Ab} {s : Stp} (hk : s.kind = 0) (he : A.doE s ≠ 0) : A.doA s = A := by
  unfold Ab.doE at he
  rw [if_pos hk] at he
  unfold Ab.ptE at he
  by_cases hg : goodT s.t
  · rw [if_pos hg] at he; exact absurd rfl he
  · unfold Ab.doA Ab.pt; rw [if_pos hk, if_neg hg]
theorem doA_kill {A : Ab} {s : Stp} (hk : s.kind = 1) : A.doA s = A.kl s.slot s.a s.b := by unfold Ab.doA; rw [if_neg (by omega), if_pos hk]
theorem doA_free {A : Ab} {s : Stp} (hk : s.kind = 2) : A.doA s = A.fe s.slot := by unfold Ab.doA; rw [if_neg (by omega), if_neg (by omega), if_pos hk]
theorem doA_next {A : Ab} {s : Stp} (h0 : s.kind ≠ 0) (h1 : s.kind ≠ 1) (h2 : s.kind ≠ 2) : A.doA s = A.nx s.a ∧ A.doV s = A.nxV s.a ∧ A.doE s = 0 := by
  unfold Ab.doA Ab.doV Ab.doE
  rw [if_neg h0, if_neg h1, if_neg h2, if_neg h0, if_neg h1, if_neg h2, if_neg h0, if_neg h1, if_neg h2]
  exact ⟨rfl, rfl, rfl⟩
theorem kl_lst (A : Ab) (x a c : Int) : (A.kl x a c).lst = A.lst := by unfold Ab.kl; split <;> rfl
theorem fe_lst (A : Ab) (x : Int) : (A.fe x).lst = A.lst := by unfold Ab.fe; split <;> rfl

theorem lst_skip {A : Ab} {s : Stp} (h : A.doE s ≠ 0 ∨ s.kind = 1 ∨ s.kind = 2) : (A.doA s).lst = A.lst := by
  by_cases h1 : s.kind = 1
  · rw [doA_kill h1, kl_lst]
  · by_cases h2 : s.kind = 2
    · rw [doA_free h2, fe_lst]
    · have he : A.doE s ≠ 0 := by rcases h with h | h | h <;> first | exact h | exact absurd h h1 | exact absurd h h2
      by_cases h0 : s.kind = 0
      · rw [doE_bad h0 he]
      · exact absurd (doA_next h0 h1 h2).2.2 he
theorem lst_put {A : Ab} {s : Stp} (hk : s.kind = 0) (he : A.doE s = 0) (y : Int) : (A.doA s).lst y = if y = s.t.no then max (A.lst y) s.t.id else A.lst y := by
  rw [(doE_put hk he).2.1]; rfl
theorem lst_full {A : Ab} {s : Stp} (h0 : s.kind ≠ 0) (h1 : s.kind ≠ 1) (h2 : s.kind ≠ 2) (h : ¬ Most s.a ∨ A.lst s.a = 2147483647) : (A.doA s).lst = A.lst ∧ A.doV s = 0 := by
  rw [(doA_next h0 h1 h2).1, (doA_next h0 h1 h2).2.1]
  unfold Ab.nx Ab.nxV Ab.nxt Ab.nxtI
  by_cases hm : Most s.a
  · have := h.resolve_left (fun h => h hm)
    rw [if_pos hm, if_pos hm, if_pos this, if_pos this]
    exact ⟨rfl, rfl⟩
  · rw [if_neg hm, if_neg hm]
    exact ⟨rfl, rfl⟩
theorem lst_next {A : Ab} {s : Stp} (h0 : s.kind ≠ 0) (h1 : s.kind ≠ 1) (h2 : s.kind ≠ 2) (hm : Most s.a) (h : A.lst s.a ≠ 2147483647) : (∀ y, (A.doA s).lst y = if y = s.a then A.lst s.a + 1 else A.lst y) ∧ A.doV s = A.lst s.a + 1 := by
  rw [(doA_next h0 h1 h2).1, (doA_next h0 h1 h2).2.1]
  unfold Ab.nx Ab.nxV Ab.nxt Ab.nxtI
  rw [if_pos hm, if_pos hm, if_neg h, if_neg h]
  exact ⟨fun y => rfl, rfl⟩

/-- A map of what is last: what is none is nothing. -/
def LstM (A : Ab) (f : Int → Option Value) : Prop := ∀ x, (f x).getD (.int .i64 0) = .int .i64 (A.lst x)
theorem LstM.same {A A' : Ab} {f : Int → Option Value} (h : LstM A f) (he : A'.lst = A.lst) : LstM A' f := fun x => by rw [he]; exact h x
theorem LstM.set {A A' : Ab} {f : Int → Option Value} (h : LstM A f) {x v : Int} (he : ∀ y, A'.lst y = if y = x then v else A.lst y) : LstM A' (updM f x (some (.int .i64 v))) := fun y => by
  rw [he]
  unfold updM
  by_cases e : y = x
  · rw [if_pos e, if_pos e]; rfl
  · rw [if_neg e, if_neg e]; exact h y

end Go.Proofs.Ytkedkeelbbfmkaa
