/-
  Slices of expressions that a call makes by append; an expression is written into its block.
-/
import Derived.Test.YtflclkmhdngmaaaEPutM
import Derived.Maps.AppendAt
namespace Go.Proofs.Ytflclkmhdngmaaa
open Go.RowKit

def cellsE (e : Ex) : List Value := [.int .u8 e.op, .int .u8 e.v.k, .int .i64 e.v.n, .int .i64 e.v.u, .string e.v.t, .int .i64 e.m, .slice e.a e.len e.cap]
def cellsL (q : Nat → Ex) : Nat → List Value
  | 0 => []
  | k + 1 => cellsL q k ++ cellsE (q k)

theorem cellsL_len (q : Nat → Ex) (k : Nat) : (cellsL q k).length = k * 7 := by
  induction k with
  | zero => rfl
  | succ k ih => simp only [cellsL, List.length_append, ih, cellsE, List.length_cons, List.length_nil]; omega

theorem cellsL_congr {q q' : Nat → Ex} {k : Nat} (h : ∀ i, i < k → q i = q' i) : cellsL q k = cellsL q' k := by
  induction k with
  | zero => rfl
  | succ k ih => simp only [cellsL]; rw [ih (fun i hi => h i (by omega)), h k (by omega)]

theorem cellsL_get (q : Nat → Ex) {k i j : Nat} (hi : i < k) (hj : j < 7) : (cellsL q k)[i * 7 + j]? = (cellsE (q i))[j]? := by
  induction k with
  | zero => omega
  | succ k ih =>
    simp only [cellsL]
    rcases Nat.lt_succ_iff_lt_or_eq.1 hi with h | rfl
    · rw [List.getElem?_append_left (by rw [cellsL_len]; omega)]
      exact ih h
    · rw [List.getElem?_append_right (by rw [cellsL_len]; omega), cellsL_len]
      congr 1
      omega

theorem cells_one (e : Ex) : ∀ u ∈ cellsE e, u.oneCell' = true := by
  intro u hu
  simp only [cellsE, List.mem_cons, List.not_mem_nil, or_false] at hu
  rcases hu with rfl | rfl | rfl | rfl | rfl | rfl | rfl <;> rfl

theorem news_at {W : World} {g : Nat} {e : Ex} (h : BoxE W g e) : ∀ j u, (cellsE e)[j]? = some u → W.cell? ((⟨g, 0, none⟩ : Addr).add j) = some u := by
  obtain ⟨h0, h1, h2, h3, h4, h5, h6, h7⟩ := h
  intro j u hj
  have hadd : (⟨g, 0, none⟩ : Addr).add j = ⟨g, j, none⟩ := by
    unfold Addr.add
    split
    · rename_i hz; rw [hz]
    · simp
  rw [hadd]
  match j, hj with
  | 0, hj => exact hj ▸ h0
  | 1, hj => exact hj ▸ h1
  | 2, hj => exact hj ▸ h2
  | 3, hj => exact hj ▸ h3
  | 4, hj => exact hj ▸ h4
  | 5, hj => exact hj ▸ h5
  | 6, hj => exact hj ▸ h6
  | j + 7, hj => simp [cellsE] at hj

/-- All Args of an expression, and theirs, lie in blocks from B on. -/
def Ex.New (B : Nat) : Ex → Prop
  | .nil => True
  | .node _ _ _ a len _ kid => (0 < len → ∀ b o, a = some ⟨b, o, none⟩ → B ≤ b) ∧ ∀ i, i < len → (kid i).New B
theorem Ex.new_iff {B : Nat} {e : Ex} : e.New B ↔ (0 < e.len → ∀ b o, e.a = some ⟨b, o, none⟩ → B ≤ b) ∧ ∀ i, i < e.len → (e.kid i).New B := by
  cases e with
  | nil => exact ⟨fun _ => ⟨fun h => absurd h (Nat.not_lt_zero _), fun i h => absurd h (Nat.not_lt_zero _)⟩, fun _ => trivial⟩
  | node => exact Iff.rfl
/-- None of them lies in block g. -/
def Ex.Av (g : Nat) : Ex → Prop
  | .nil => True
  | .node _ _ _ a len _ kid => (0 < len → ∀ b o, a = some ⟨b, o, none⟩ → b ≠ g) ∧ ∀ i, i < len → (kid i).Av g
theorem Ex.av_iff {g : Nat} {e : Ex} : e.Av g ↔ (0 < e.len → ∀ b o, e.a = some ⟨b, o, none⟩ → b ≠ g) ∧ ∀ i, i < e.len → (e.kid i).Av g := by
  cases e with
  | nil => exact ⟨fun _ => ⟨fun h => absurd h (Nat.not_lt_zero _), fun i h => absurd h (Nat.not_lt_zero _)⟩, fun _ => trivial⟩
  | node => exact Iff.rfl

theorem Ex.New.mono {B B' : Nat} (hB : B' ≤ B) : ∀ {e : Ex}, e.New B → e.New B' := by
  intro e
  induction e using Ex.ind with
  | h e ih =>
    intro h
    rw [Ex.new_iff] at h ⊢
    exact ⟨fun hl b o he => Nat.le_trans hB (h.1 hl b o he), fun i hi => ih i hi (h.2 i hi)⟩
theorem Ex.New.av {B g : Nat} (hg : g < B) : ∀ {e : Ex}, e.New B → e.Av g := by
  intro e
  induction e using Ex.ind with
  | h e ih =>
    intro h
    rw [Ex.new_iff] at h
    rw [Ex.av_iff]
    exact ⟨fun hl b o he => by have := h.1 hl b o he; omega, fun i hi => ih i hi (h.2 i hi)⟩
theorem Ex.In.av {W : World} {g : Nat} (hg : W.heap.size ≤ g) : ∀ {e : Ex}, e.In W → e.Av g := by
  intro e
  induction e using Ex.ind with
  | h e ih =>
    intro h
    rw [Ex.in_iff] at h
    rw [Ex.av_iff]
    refine ⟨fun hl b o he => ?_, fun i hi => ih i hi (h.2.2 i hi)⟩
    obtain ⟨b', o', he', hx⟩ := h.2.1 hl
    rw [he] at he'
    cases he'
    have := (hx 0 hl).2.2.2.2.2.2.2
    omega

theorem AtE.grown {W W' : World} {row : Option Nat} {b o : Nat} {e : Ex} (h : AtE W b o e) (hg : W.grownBy W' row) (hb : row ≠ some b) : AtE W' b o e := by
  obtain ⟨h0, h1, h2, h3, h4, h5, h6, h7⟩ := h
  have hc : ∀ i, W'.cell? ⟨b, i, none⟩ = W.cell? ⟨b, i, none⟩ := fun i => World.cell?_of_block (a := ⟨b, i, none⟩) (hg.block b h7 (fun e => hb e.symm))
  exact ⟨by rw [hc]; exact h0, by rw [hc]; exact h1, by rw [hc]; exact h2, by rw [hc]; exact h3, by rw [hc]; exact h4, by rw [hc]; exact h5, by rw [hc]; exact h6, Nat.lt_of_lt_of_le h7 hg.size⟩

theorem BoxE.grown {W W' : World} {row : Option Nat} {b : Nat} {e : Ex} (h : BoxE W b e) (hg : W.grownBy W' row) (hb : row ≠ some b) : BoxE W' b e := by
  obtain ⟨h0, h1, h2, h3, h4, h5, h6, h7⟩ := h
  have hc : ∀ i, W'.cell? ⟨b, i, none⟩ = W.cell? ⟨b, i, none⟩ := fun i => World.cell?_of_block (a := ⟨b, i, none⟩) (hg.block b h7 (fun e => hb e.symm))
  exact ⟨by rw [hc]; exact h0, by rw [hc]; exact h1, by rw [hc]; exact h2, by rw [hc]; exact h3, by rw [hc]; exact h4, by rw [hc]; exact h5, by rw [hc]; exact h6, Nat.lt_of_lt_of_le h7 hg.size⟩

theorem Ex.In.grown {W W' : World} {row : Option Nat} (hg : W.grownBy W' row) : ∀ {e : Ex}, e.In W → (∀ b, row = some b → e.Av b) → e.In W' := by
  intro e
  induction e using Ex.ind with
  | h e ih =>
    intro h hav
    rw [Ex.in_iff] at h ⊢
    obtain ⟨h1, h2, h3⟩ := h
    refine ⟨h1, fun hl => ?_, fun i hi => ih i hi (h3 i hi) (fun b hb => (Ex.av_iff.1 (hav b hb)).2 i hi)⟩
    obtain ⟨b, o, e1, h4⟩ := h2 hl
    exact ⟨b, o, e1, fun i hi => (h4 i hi).grown hg (fun hr => (Ex.av_iff.1 (hav b hr)).1 hl b o e1 rfl)⟩

/-- The cells of an expression's block may be written. -/
structure SoftE (W : World) (g : Nat) : Prop where
  f0 : W.frozen? ⟨g, 0, none⟩ = false
  f1 : W.frozen? ⟨g, 1, none⟩ = false
  f2 : W.frozen? ⟨g, 2, none⟩ = false
  f3 : W.frozen? ⟨g, 3, none⟩ = false
  f4 : W.frozen? ⟨g, 4, none⟩ = false
  f5 : W.frozen? ⟨g, 5, none⟩ = false
  f6 : W.frozen? ⟨g, 6, none⟩ = false
  lt : g < W.heap.size

theorem SoftE.below {W W' : World} {g : Nat} (h : SoftE W g) (hb : Below W.heap.size W W') : SoftE W' g := by
  have hg := h.lt
  exact ⟨by rw [hb.frozen hg]; exact h.f0, by rw [hb.frozen hg]; exact h.f1, by rw [hb.frozen hg]; exact h.f2, by rw [hb.frozen hg]; exact h.f3, by rw [hb.frozen hg]; exact h.f4, by rw [hb.frozen hg]; exact h.f5, by rw [hb.frozen hg]; exact h.f6, Nat.lt_of_lt_of_le hg hb.size⟩
theorem SoftE.grown {W W' : World} {row : Option Nat} {b : Nat} (h : SoftE W b) (hg : W.grownBy W' row) (hb : row ≠ some b) : SoftE W' b := by
  have hc : ∀ i, W'.frozen? ⟨b, i, none⟩ = W.frozen? ⟨b, i, none⟩ := fun i => World.frozen?_of_block (a := ⟨b, i, none⟩) (hg.block b h.lt (fun e => hb e.symm))
  exact ⟨by rw [hc]; exact h.f0, by rw [hc]; exact h.f1, by rw [hc]; exact h.f2, by rw [hc]; exact h.f3, by rw [hc]; exact h.f4, by rw [hc]; exact h.f5, by rw [hc]; exact h.f6, Nat.lt_of_lt_of_le h.lt hg.size⟩

def put7 (W : World) (g : Nat) (e : Ex) : World :=
  ((((((W.setCell ⟨g, 0, none⟩ (.int .u8 e.op)).setCell ⟨g, 1, none⟩ (.int .u8 e.v.k)).setCell ⟨g, 2, none⟩ (.int .i64 e.v.n)).setCell ⟨g, 3, none⟩ (.int .i64 e.v.u)).setCell ⟨g, 4, none⟩ (.string e.v.t)).setCell ⟨g, 5, none⟩ (.int .i64 e.m)).setCell ⟨g, 6, none⟩ (.slice e.a e.len e.cap)

theorem below_put7 {B : Nat} {a W : World} (h : Below B a W) {g : Nat} (hg : B ≤ g) (e : Ex) : Below B a (put7 W g e) :=
  ((((((h.setCell (by exact hg) _).setCell (by exact hg) _).setCell (by exact hg) _).setCell (by exact hg) _).setCell (by exact hg) _).setCell (by exact hg) _).setCell (by exact hg) _

theorem size_put7 (W : World) (g : Nat) (e : Ex) : (put7 W g e).heap.size = W.heap.size := by simp [put7, World.setCell]

theorem boxE_put7 {W : World} {g : Nat} {e0 : Ex} (h : BoxE W g e0) (e : Ex) : BoxE (put7 W g e) g e := by
  have hs := size_put7 W g e
  obtain ⟨h0, h1, h2, h3, h4, h5, h6, h7⟩ := h
  refine ⟨?_, ?_, ?_, ?_, ?_, ?_, ?_, by rw [hs]; exact h7⟩ <;> (unfold put7; go_simp)

theorem block_put7 (W : World) (g : Nat) (e : Ex) (k : Nat) (hk : k ≠ g) : (put7 W g e).heap[k]? = W.heap[k]? := by
  unfold put7
  rw [Below.heap_setCell _ ⟨g, 6, none⟩ _ k hk, Below.heap_setCell _ ⟨g, 5, none⟩ _ k hk, Below.heap_setCell _ ⟨g, 4, none⟩ _ k hk, Below.heap_setCell _ ⟨g, 3, none⟩ _ k hk, Below.heap_setCell _ ⟨g, 2, none⟩ _ k hk, Below.heap_setCell _ ⟨g, 1, none⟩ _ k hk, Below.heap_setCell _ ⟨g, 0, none⟩ _ k hk]

theorem AtE.put7 {W : World} {g b o : Nat} {e e' : Ex} (h : AtE W b o e) (hb : b ≠ g) : AtE (put7 W g e') b o e := by
  obtain ⟨h0, h1, h2, h3, h4, h5, h6, h7⟩ := h
  have hc : ∀ i, (Go.Proofs.Ytflclkmhdngmaaa.put7 W g e').cell? ⟨b, i, none⟩ = W.cell? ⟨b, i, none⟩ := fun i => World.cell?_of_block (a := ⟨b, i, none⟩) (block_put7 _ _ _ _ hb)
  exact ⟨by rw [hc]; exact h0, by rw [hc]; exact h1, by rw [hc]; exact h2, by rw [hc]; exact h3, by rw [hc]; exact h4, by rw [hc]; exact h5, by rw [hc]; exact h6, by rw [size_put7]; exact h7⟩

theorem Ex.In.put7 {W : World} {g : Nat} {e' : Ex} : ∀ {e : Ex}, e.In W → e.Av g → e.In (put7 W g e') := by
  intro e
  induction e using Ex.ind with
  | h e ih =>
    intro h hav
    rw [Ex.in_iff] at h ⊢
    obtain ⟨h1, h2, h3⟩ := h
    have hav2 := Ex.av_iff.1 hav
    refine ⟨h1, fun hl => ?_, fun i hi => ih i hi (h3 i hi) (hav2.2 i hi)⟩
    obtain ⟨b, o, e1, h4⟩ := h2 hl
    exact ⟨b, o, e1, fun i hi => (h4 i hi).put7 (hav2.1 hl b o e1)⟩

/-- put's first blocks: the expression's, and the result's. -/
theorem boxEP (w : World) (e : Ex) : ∃ W g, w.heap.size = g ∧ (w.alloc (.cells #[.int .u8 e.op, .int .u8 e.v.k, .int .i64 e.v.n, .int .i64 e.v.u, .string e.v.t, .int .i64 e.m, .slice e.a e.len e.cap] 26)).alloc (.cells #[.int .u8 0, .int .u8 0, .int .i64 0, .int .i64 0, .string ⟨#[]⟩, .int .i64 0, .slice none 0 0] 26) = W ∧
    BoxE W g e ∧ BoxE W (g + 1) .nil ∧ SoftE W (g + 1) ∧ Below w.heap.size w W ∧ W.heap.size = g + 1 + 1 := by
  have h1 := BoxE.new (w.alloc (.cells #[.int .u8 e.op, .int .u8 e.v.k, .int .i64 e.v.n, .int .i64 e.v.u, .string e.v.t, .int .i64 e.m, .slice e.a e.len e.cap] 26)) .nil
  rw [show (w.alloc (.cells #[.int .u8 e.op, .int .u8 e.v.k, .int .i64 e.v.n, .int .i64 e.v.u, .string e.v.t, .int .i64 e.m, .slice e.a e.len e.cap] 26)).heap.size = w.heap.size + 1 by simp] at h1
  refine ⟨_, _, rfl, rfl, (BoxE.new w e).below (Below.allocs _ _), h1, ⟨?_, ?_, ?_, ?_, ?_, ?_, ?_, by simp⟩, ((Below.refl _ _).alloc (Nat.le_refl _) _).alloc (by simp) _, by simp⟩ <;> go_simp

theorem len_le_sz (e : Ex) : e.len ≤ e.sz := by
  rw [Ex.sz_eq]
  have : ∀ n, n ≤ sumTo (fun i => (e.kid i).sz) n := by
    intro n
    induction n with
    | zero => exact Nat.zero_le _
    | succ n ih => have := (e.kid n).sz_pos; simp only [sumTo]; omega
  have := this e.len
  omega

theorem own_below {W W' : World} {B n : Nat} {e : TypeId} {s : Nat} {v : Value} {xs : List Value} (h : W.ownsRow B e s v n xs) (hb : Below W.heap.size W W') : W'.ownsRow B e s v n xs := by
  obtain ⟨h1, h2⟩ := h
  refine ⟨h1, ?_⟩
  rcases h2 with h2 | ⟨g, cap, cur, hv, hg, hh, r⟩
  · exact .inl h2
  · exact .inr ⟨g, cap, cur, hv, hg, by rw [hb.block g (Array.getElem?_eq_some_iff.1 hh).1]; exact hh, r⟩
end Go.Proofs.Ytflclkmhdngmaaa
