/-
  Rows of cells that may be written, and which cells may have changed (stage 7).
-/
import Derived.Test.YtfikaccgpjiedaaJBMem
import Derived.Lib.AppendZerosOnto
import Derived.Lib.Overlaps
import Derived.Laws.LoneSync
import Derived.Deep.Upon
import Derived.Laws.Externs
import Derived.Shelf.Spec.SlicesInsert
namespace Go.Proofs.Ytfikaccgpjiedaa
open Go.RowKit

/-- Cells, by their block and their place in it. -/
abbrev Ft := Nat → Nat → Prop
def Sub (F G : Ft) : Prop := ∀ k p, F k p → G k p
def Dis (F G : Ft) : Prop := ∀ k p, F k p → ¬ G k p
def Or2 (F G : Ft) : Ft := fun k p => F k p ∨ G k p
/-- All that lies from block B on. -/
def Fr (B : Nat) : Ft := fun k _ => B ≤ k
/-- The cells of a row, up to its capacity. -/
def SlF (s : Nat) (a : Option Addr) (c : Nat) : Ft := fun k p => ∃ o, a = some ⟨k, o, none⟩ ∧ o ≤ p ∧ p < o + c * s
/-- The first m cells of a block. -/
def Hd (g m : Nat) : Ft := fun k p => k = g ∧ p < m

theorem Dis.symm {F G : Ft} (h : Dis F G) : Dis G F := fun k p hg hf => h k p hf hg
theorem Dis.mono {F G F' G' : Ft} (h : Dis F G) (hF : Sub F' F) (hG : Sub G' G) : Dis F' G' := fun k p hf hg => h k p (hF k p hf) (hG k p hg)
theorem Sub.refl (F : Ft) : Sub F F := fun _ _ h => h
theorem Sub.trans {F G H : Ft} (h : Sub F G) (g : Sub G H) : Sub F H := fun k p x => g k p (h k p x)
theorem slf_nil (s c : Nat) (k p : Nat) : ¬ SlF s none c k p := fun ⟨_, h, _⟩ => by cases h
theorem slf_some {s b o c k p : Nat} : SlF s (some ⟨b, o, none⟩) c k p ↔ k = b ∧ o ≤ p ∧ p < o + c * s := by
  constructor
  · rintro ⟨o', h, h1, h2⟩
    injection h with h
    injection h with h3 h4
    subst h3 h4
    exact ⟨rfl, h1, h2⟩
  · rintro ⟨rfl, h1, h2⟩
    exact ⟨o, rfl, h1, h2⟩

/-- Only cells of F, and new blocks, may have changed. -/
structure TouchC (F : Ft) (W W' : World) : Prop where
  os : W'.os = W.os
  tape : W'.tape = W.tape
  output : W'.output = W.output
  size : W.heap.size ≤ W'.heap.size
  cell : ∀ k p, k < W.heap.size → ¬ F k p → W'.cell? ⟨k, p, none⟩ = W.cell? ⟨k, p, none⟩
  there : ∀ k p, k < W.heap.size → (W.cell? ⟨k, p, none⟩).isSome = true → (W'.cell? ⟨k, p, none⟩).isSome = true
  fz : ∀ k p, k < W.heap.size → W'.frozen? ⟨k, p, none⟩ = W.frozen? ⟨k, p, none⟩
  block : ∀ k, k < W.heap.size → (∀ p, ¬ F k p) → W'.heap[k]? = W.heap[k]?

theorem TouchC.refl (F : Ft) (W : World) : TouchC F W W := ⟨rfl, rfl, rfl, Nat.le_refl _, fun _ _ _ _ => rfl, fun _ _ _ h => h, fun _ _ _ => rfl, fun _ _ _ => rfl⟩
theorem TouchC.of_below {F : Ft} {W W' : World} (h : Below W.heap.size W W') : TouchC F W W' :=
  ⟨h.os, h.tape, h.output, h.size, fun k p hk _ => h.cell (p := ⟨k, p, none⟩) hk, fun k p hk hs => by rw [h.cell (p := ⟨k, p, none⟩) hk]; exact hs, fun k p hk => h.frozen (p := ⟨k, p, none⟩) hk, fun k hk _ => h.block k hk⟩
theorem TouchC.trans {F G : Ft} {W W1 W2 : World} (h : TouchC F W W1) (h2 : TouchC G W1 W2) (hG : ∀ k p, k < W.heap.size → G k p → F k p) : TouchC F W W2 :=
  ⟨h2.os.trans h.os, h2.tape.trans h.tape, h2.output.trans h.output, Nat.le_trans h.size h2.size,
   fun k p hk hn => (h2.cell k p (Nat.lt_of_lt_of_le hk h.size) (fun hg => hn (hG k p hk hg))).trans (h.cell k p hk hn),
   fun k p hk hs => h2.there k p (Nat.lt_of_lt_of_le hk h.size) (h.there k p hk hs),
   fun k p hk => (h2.fz k p (Nat.lt_of_lt_of_le hk h.size)).trans (h.fz k p hk),
   fun k hk hn => (h2.block k (Nat.lt_of_lt_of_le hk h.size) (fun p hg => hn p (hG k p hk hg))).trans (h.block k hk hn)⟩
theorem TouchC.mono {F G : Ft} {W W' : World} (h : TouchC F W W') (hF : ∀ k p, k < W.heap.size → F k p → G k p) : TouchC G W W' := (TouchC.refl G W).trans h hF
theorem TouchC.setCell {F : Ft} {W W' : World} {g o : Nat} (h : TouchC F W W') (hF : F g o) (v : Value) : TouchC F W (W'.setCell ⟨g, o, none⟩ v) := by
  refine ⟨h.os, h.tape, h.output, by simpa [World.setCell] using h.size, fun k p hk hn => ?_, fun k p hk hs => ?_, fun k p hk => ?_, fun k hk hn => ?_⟩
  · rw [World.cell?_setCell_other _ _ _ _ (fun e => hn (by injection e with e1 e2; subst e1 e2; exact hF))]
    exact h.cell k p hk hn
  · by_cases e : (⟨g, o, none⟩ : Addr) = ⟨k, p, none⟩
    · obtain ⟨u, hu⟩ := Option.isSome_iff_exists.1 (h.there k p hk hs)
      rw [← e] at hu ⊢
      rw [World.cell?_setCell_same _ _ _ hu]; rfl
    · rw [World.cell?_setCell_other _ _ _ _ e]
      exact h.there k p hk hs
  · rw [World.frozen?_setCell]; exact h.fz k p hk
  · have hne : k ≠ g := fun e => hn o (by rw [e]; exact hF)
    have e := Below.refl k W'
    rw [← h.block k hk hn]
    simp only [World.setCell]
    first
      | rw [Array.getElem?_setIfInBounds_ne (by simpa using fun e => hne e.symm)]
      | rw [Array.getElem?_modify, if_neg (by simpa using fun e => hne e.symm)]
      | simp [Ne.symm hne]

theorem TouchC.setCells {F : Ft} {g : Nat} : ∀ (vs : List Value) {W W' : World} (o : Nat), TouchC F W W' → (∀ j, j < vs.length → F g (o + j)) → TouchC F W (W'.setCells g o vs)
  | [], _, _, _, h, _ => h
  | v :: r, _, _, o, h, hF => by
      rw [World.setCells]
      exact TouchC.setCells r (o + 1) (h.setCell (by simpa using hF 0 (by simp)) v) (fun j hj => by have := hF (j + 1) (by simpa using hj); rwa [show o + (j + 1) = o + 1 + j by omega] at this)
theorem TouchC.drew {F : Ft} {W W' : World} (h : TouchC F W W') : TouchC F W W'.drew := ⟨h.os, h.tape, h.output, h.size, h.cell, h.there, h.fz, h.block⟩
theorem TouchC.alloc {F : Ft} {W W' : World} (h : TouchC F W W') (o : Obj) : TouchC F W (W'.alloc o) :=
  h.trans (G := F) (TouchC.of_below (Below.allocs W' o)) (fun _ _ _ h => h)
theorem TouchC.below {F : Ft} {W W' W2 : World} (h : TouchC F W W') (hb : Below W'.heap.size W' W2) : TouchC F W W2 := h.trans (G := F) (TouchC.of_below hb) (fun _ _ _ h => h)
/-- Told by blocks. -/
theorem TouchC.touch {F : Ft} {G : Nat → Prop} {W W' : World} (h : TouchC F W W') (hF : ∀ k p, k < W.heap.size → F k p → G k) : Touch G W W' :=
  ⟨h.os, h.tape, h.output, h.size, fun k hk hn => h.block k hk (fun p hf => hn (hF k p hk hf))⟩
theorem TouchC.stay {F : Ft} {G : Nat → Prop} {W W' : World} (h : TouchC F W W') (hG : ∀ k p, G k → ¬ F k p) : Stay G W W' := ⟨h.size, fun k hk hg => h.block k hk (fun p => hG k p hg)⟩
theorem TouchC.belowB {F : Ft} {W W' : World} (h : TouchC F W W') (hF : ∀ k p, F k p → W.heap.size ≤ k) : Below W.heap.size W W' :=
  ⟨h.os, h.tape, h.output, h.size, fun k hk => h.block k hk (fun p hf => by have := hF k p hf; omega)⟩

/-! ### Cells in a row -/

def Cells (W : World) (b o : Nat) (vs : List Value) : Prop := ∀ (j : Nat) u, vs[j]? = some u → W.cell? ⟨b, o + j, none⟩ = some u
def Room (W : World) (b o m : Nat) : Prop := ∀ j, j < m → (W.cell? ⟨b, o + j, none⟩).isSome = true ∧ W.frozen? ⟨b, o + j, none⟩ = false

theorem Cells.lt {W : World} {b o : Nat} {vs : List Value} (h : Cells W b o vs) (h0 : vs ≠ []) : b < W.heap.size := by
  cases vs with
  | nil => exact absurd rfl h0
  | cons v r => exact World.block_lt_of_cell? _ _ (h 0 v rfl)
theorem Cells.touch {F : Ft} {W W' : World} {b o : Nat} {vs : List Value} (h : Cells W b o vs) (ht : TouchC F W W') (hn : ∀ j, j < vs.length → ¬ F b (o + j)) : Cells W' b o vs := fun j u hu => by
  rw [ht.cell b (o + j) (h.lt (by rintro rfl; simp at hu)) (hn j (List.getElem?_eq_some_iff.1 hu).1)]
  exact h j u hu
theorem Cells.below {W W' : World} {b o : Nat} {vs : List Value} (h : Cells W b o vs) (hb : Below W.heap.size W W') : Cells W' b o vs := h.touch (F := fun _ _ => False) (TouchC.of_below hb) (fun _ _ h => h)
theorem Cells.take {W : World} {b o : Nat} {vs : List Value} (h : Cells W b o vs) (i : Nat) : Cells W b o (vs.take i) := fun j u hu => by
  rw [List.getElem?_take] at hu
  split at hu
  · exact h j u hu
  · cases hu
theorem Cells.drop {W : World} {b o : Nat} {vs : List Value} (h : Cells W b o vs) (i : Nat) : Cells W b (o + i) (vs.drop i) := fun j u hu => by
  rw [List.getElem?_drop] at hu
  rw [Nat.add_assoc]
  exact h _ u hu
theorem Cells.add {W : World} {b o : Nat} {vs : List Value} (h : Cells W b o vs) : ∀ (j : Nat) u, vs[j]? = some u → W.cell? ((⟨b, o, none⟩ : Addr).add j) = some u := fun j u hu => by rw [Addr.add_lit]; exact h j u hu

/-- A row of n elements of s cells each, with the capacity c, that may be written. -/
structure RowS (s : Nat) (W : World) (a : Option Addr) (n c : Nat) (vs : List Value) : Prop where
  len : vs.length = n * s
  nc : n ≤ c
  cm : c ≤ maxLen
  one : ∀ v ∈ vs, v.oneCell' = true
  at' : (a = none ∧ c = 0) ∨ ∃ b o, a = some ⟨b, o, none⟩ ∧ b < W.heap.size ∧ Cells W b o vs ∧ Room W b o (c * s)

theorem RowS.lt {s : Nat} {W : World} {a : Option Addr} {n c : Nat} {vs : List Value} (h : RowS s W a n c vs) : ∀ k p, SlF s a c k p → k < W.heap.size := by
  rintro k p ⟨o, rfl, _, _⟩
  rcases h.at' with ⟨h1, _⟩ | ⟨b, o', h1, h2, _⟩
  · cases h1
  · cases h1; exact h2

theorem RowS.touch {F : Ft} {s : Nat} {W W' : World} {a : Option Addr} {n c : Nat} {vs : List Value} (h : RowS s W a n c vs) (ht : TouchC F W W') (hd : ∀ k p, SlF s a c k p → ¬ F k p) : RowS s W' a n c vs := by
  refine ⟨h.len, h.nc, h.cm, h.one, ?_⟩
  have hle : n * s ≤ c * s := Nat.mul_le_mul_right _ h.nc
  rcases h.at' with h1 | ⟨b, o, rfl, h2, h3, h4⟩
  · exact .inl h1
  · refine .inr ⟨b, o, rfl, Nat.lt_of_lt_of_le h2 ht.size, h3.touch ht (fun j hj => hd _ _ (slf_some.2 ⟨rfl, by omega, by rw [h.len] at hj; omega⟩)), fun j hj => ?_⟩
    have := h4 j hj
    exact ⟨ht.there _ _ h2 this.1, by rw [ht.fz _ _ h2]; exact this.2⟩
theorem RowS.below {s : Nat} {W W' : World} {a : Option Addr} {n c : Nat} {vs : List Value} (h : RowS s W a n c vs) (hb : Below W.heap.size W W') : RowS s W' a n c vs :=
  h.touch (F := fun _ _ => False) (TouchC.of_below hb) (fun _ _ _ h => h)
theorem RowS.nil (s : Nat) (W : World) : RowS s W none 0 0 [] := ⟨by simp, Nat.le_refl _, by unfold maxLen; omega, fun _ h => absurd h List.not_mem_nil, .inl ⟨rfl, rfl⟩⟩

/-- A shorter one: the first i elements; the capacity k. -/
theorem RowS.cut {s : Nat} {W : World} {a : Option Addr} {n c : Nat} {vs : List Value} (h : RowS s W a n c vs) {i k : Nat} (hi : i ≤ n) (hk : i ≤ k) (hc : k ≤ c) : RowS s W a i k (vs.take (i * s)) := by
  have h1 : i * s ≤ n * s := Nat.mul_le_mul_right _ hi
  have h2 : k * s ≤ c * s := Nat.mul_le_mul_right _ hc
  refine ⟨by rw [List.length_take, h.len]; omega, hk, Nat.le_trans hc h.cm, fun v hv => h.one v (List.mem_of_mem_take hv), ?_⟩
  rcases h.at' with ⟨e1, e2⟩ | ⟨b, o, rfl, h3, h4, h5⟩
  · exact .inl ⟨e1, by omega⟩
  · exact .inr ⟨b, o, rfl, h3, h4.take _, fun j hj => h5 j (by omega)⟩
/-- What is left from element i on. -/
theorem RowS.tail {s : Nat} {W : World} {b o : Nat} {n c : Nat} {vs : List Value} (h : RowS s W (some ⟨b, o, none⟩) n c vs) {i : Nat} (hi : i ≤ n) : RowS s W (some ⟨b, o + i * s, none⟩) (n - i) (c - i) (vs.drop (i * s)) := by
  have h0 := h.nc
  have h1 : i * s ≤ n * s := Nat.mul_le_mul_right _ hi
  have h2 : i * s + (c - i) * s = c * s := by rw [← Nat.add_mul]; congr 1; omega
  refine ⟨by rw [List.length_drop, h.len, Nat.sub_mul], by omega, by have := h.cm; omega, fun v hv => h.one v (List.mem_of_mem_drop hv), ?_⟩
  rcases h.at' with ⟨e1, _⟩ | ⟨b', o', e, h3, h4, h5⟩
  · cases e1
  · cases e
    exact .inr ⟨b, o + i * s, rfl, h3, h4.drop _, fun j hj => by rw [Nat.add_assoc]; exact h5 _ (by omega)⟩

/-- Cells written over. -/
def splice (vs : List Value) (j : Nat) (news : List Value) : List Value := vs.take j ++ news ++ vs.drop (j + news.length)

theorem splice_len (vs : List Value) (j : Nat) (news : List Value) (h : j + news.length ≤ vs.length) : (splice vs j news).length = vs.length := by
  simp only [splice, List.length_append, List.length_take, List.length_drop]; omega

theorem cells_splice {W : World} {b o j : Nat} {vs news : List Value} (h : Cells W b o vs) (hj : j + news.length ≤ vs.length) : Cells (W.setCells b (o + j) news) b o (splice vs j news) := by
  intro t u hu
  have hthere : ∀ i, i < news.length → (W.cell? ⟨b, o + j + i, none⟩).isSome = true := fun i hi => by
    rw [Nat.add_assoc, h (j + i) _ (List.getElem?_eq_getElem (by omega))]; rfl
  unfold splice at hu
  by_cases h1 : t < j
  · rw [List.append_assoc, List.getElem?_append_left (by rw [List.length_take]; omega), List.getElem?_take, if_pos h1] at hu
    rw [World.cell?_setCells_out _ _ _ _ _ (fun _ _ => .inl (by dsimp; omega))]
    exact h t u hu
  · by_cases h2 : t < j + news.length
    · rw [List.getElem?_append_left (by rw [List.length_append, List.length_take]; omega), List.getElem?_append_right (by rw [List.length_take]; omega), List.length_take, show t - min j vs.length = t - j by omega] at hu
      have := World.cell?_setCells_in b news (o + j) W hthere (t - j) (by omega)
      rw [show o + j + (t - j) = o + t by omega] at this
      rw [this, ← hu, List.getElem?_eq_getElem]
    · rw [List.getElem?_append_right (by rw [List.length_append, List.length_take]; omega), List.length_append, List.length_take, List.getElem?_drop, show j + news.length + (t - (min j vs.length + news.length)) = t by omega] at hu
      rw [World.cell?_setCells_out _ _ _ _ _ (fun _ _ => .inr (by dsimp; omega))]
      exact h t u hu

theorem RowS.splice {s : Nat} {W : World} {b o : Nat} {n c : Nat} {vs : List Value} (h : RowS s W (some ⟨b, o, none⟩) n c vs) {j : Nat} {news : List Value} (hj : j + news.length ≤ n * s) (h1 : ∀ v ∈ news, v.oneCell' = true) :
    RowS s (W.setCells b (o + j) news) (some ⟨b, o, none⟩) n c (splice vs j news) ∧ TouchC (SlF s (some ⟨b, o, none⟩) c) W (W.setCells b (o + j) news) := by
  have hle : n * s ≤ c * s := Nat.mul_le_mul_right _ h.nc
  have hl := h.len
  rcases h.at' with ⟨e1, _⟩ | ⟨b', o', e, h3, h4, h5⟩
  · cases e1
  · cases e
    have ht : TouchC (SlF s (some ⟨b, o, none⟩) c) W (W.setCells b (o + j) news) := TouchC.setCells news (o + j) (TouchC.refl _ _) (fun i hi => slf_some.2 ⟨rfl, by omega, by omega⟩)
    refine ⟨⟨by rw [splice_len _ _ _ (by omega)]; exact hl, h.nc, h.cm, fun v hv => ?_, .inr ⟨b, o, rfl, Nat.lt_of_lt_of_le h3 ht.size, cells_splice h4 (by omega), fun i hi => ⟨ht.there _ _ h3 (h5 i hi).1, by rw [ht.fz _ _ h3]; exact (h5 i hi).2⟩⟩⟩, ht⟩
    simp only [Ytfikaccgpjiedaa.splice, List.mem_append] at hv
    rcases hv with (hv | hv) | hv
    · exact h.one v (List.mem_of_mem_take hv)
    · exact h1 v hv
    · exact h.one v (List.mem_of_mem_drop hv)

/-! ### A type of elements -/

structure El (t e : TypeId) (s : Nat) (i : TypeInfo) (z : Value) : Prop where
  ut : Try.prog.underlying t = some (.slice e)
  hi : Try.prog.info? e = some i
  hz : i.zero = some z
  hs : i.size = s
  hb : i.bytes ≤ 64
  zs : z.cells.size = s
  s0 : 0 < s
  z1 : ∀ v ∈ z.cells.toList, v.oneCell' = true
  zv : ∀ w, (zeroValue e).run Try.prog w = .ok z w
  so : ∀ w, (Go.sizeOf e).run Try.prog w = .ok s w

theorem zeroCells_one {z : Value} (h : ∀ v ∈ z.cells.toList, v.oneCell' = true) (n : Nat) : ∀ v ∈ (Builtin.zeroCells z.cells n).toList, v.oneCell' = true := by
  intro v hv
  simp only [Builtin.zeroCells, Array.toList_map, Array.toList_range, List.mem_map, List.mem_range] at hv
  obtain ⟨j, hj, rfl⟩ := hv
  have hp : 0 < z.cells.size := by
    rcases Nat.eq_zero_or_pos z.cells.size with h0 | h0
    · rw [h0] at hj; omega
    · exact h0
  have hm : j % z.cells.size < z.cells.size := Nat.mod_lt _ hp
  rw [getElem!_pos z.cells _ hm]
  exact h _ (by simp)

/-- A new row: the cells cs, and zeros behind them. -/
theorem RowS.fresh {s : Nat} (e : TypeId) (W : World) (cs : List Value) (n c : Nat) (h1 : ∀ v ∈ cs, v.oneCell' = true) (hl : cs.length = n * s) (hc : n ≤ c) (hm : c ≤ maxLen) (zs : Array Value) (hz : zs.size = (c - n) * s) :
    RowS s (W.alloc (.cells (cs.toArray ++ zs) e)) (some ⟨W.heap.size, 0, none⟩) n c cs ∧ Below W.heap.size W (W.alloc (.cells (cs.toArray ++ zs) e)) := by
  have hsz : (cs.toArray ++ zs).size = c * s := by
    rw [Array.size_append, hz, List.size_toArray, hl, ← Nat.add_mul]
    congr 1; omega
  refine ⟨⟨hl, hc, hm, h1, .inr ⟨W.heap.size, 0, rfl, by simp, fun j u hu => ?_, fun j hj => ⟨?_, ?_⟩⟩⟩, Below.allocs _ _⟩
  · rw [Nat.zero_add, World.cell?_alloc_at (w := W) _ _ W.heap.size j rfl, Array.getElem?_append_left (by simpa using (List.getElem?_eq_some_iff.1 hu).1)]
    simpa using hu
  · rw [Nat.zero_add, World.cell?_alloc_at (w := W) _ _ W.heap.size j rfl, Array.getElem?_eq_getElem (by rw [hsz]; exact hj)]; rfl
  · rw [Nat.zero_add, World.frozen?_alloc_at (w := W) _ _ W.heap.size j rfl]

theorem slf_new {s : Nat} {W : World} {c : Nat} {F : Ft} {B : Nat} (hB : B ≤ W.heap.size) : Sub (SlF s (some ⟨W.heap.size, 0, none⟩) c) (Or2 F (Fr B)) := fun k p h => .inr (by have := (slf_some.1 h).1; unfold Fr; omega)

/-- append: m elements more, in place or in a new row. -/
theorem row_app {t e : TypeId} {s : Nat} {i : TypeInfo} {z : Value} (E : El t e s i z) {W : World} {a : Option Addr} {n c : Nat} {vs : List Value} (h : RowS s W a n c vs) (x : Value) (m : Nat) (news : List Value) (hx : Src Try.prog s t x m news W) (hsm : n + m ≤ 100000) :
    ∃ a' c' W', (∀ ty, (Builtin.append_ #[t, t] ty #[.slice a n c, x]).run Try.prog W = .ok (.slice a' (n + m) c') W') ∧ RowS s W' a' (n + m) c' (vs ++ news) ∧ Sub (SlF s a' c') (Or2 (SlF s a c) (Fr W.heap.size)) ∧ TouchC (SlF s a c) W W' := by
  obtain ⟨ut, hi, hz, rfl, hb, hzs, s0, z1, zv, so⟩ := E
  have hnl := hx.newsLen
  have hone : ∀ v ∈ vs ++ news, v.oneCell' = true := fun v hv => by
    rcases List.mem_append.1 hv with hv | hv
    · exact h.one v hv
    · exact hx.one v hv
  by_cases hfit : n + m ≤ c
  · rcases h.at' with ⟨rfl, h0⟩ | ⟨b, o, rfl, h3, h4, h5⟩
    · obtain rfl : n = 0 := by omega
      obtain rfl : m = 0 := by omega
      obtain rfl : c = 0 := h0
      obtain rfl : news = [] := List.eq_nil_of_length_eq_zero (by simpa using hnl)
      exact ⟨none, 0, W, fun ty => run_append_nothing (P := Try.prog) W t t ty e i ut hi none 0 0 (Nat.le_refl _) x hx, by simpa using h, fun k p hk => .inl hk, TouchC.refl _ _⟩
    · have hcs : (n + m) * i.size ≤ c * i.size := Nat.mul_le_mul_right _ hfit
      rw [Nat.add_mul] at hcs
      have hl := h.len
      have ht : TouchC (SlF i.size (some ⟨b, o, none⟩) c) W (W.setCells b (o + n * i.size) news) := TouchC.setCells news _ (TouchC.refl _ _) (fun j hj => slf_some.2 ⟨rfl, by omega, by omega⟩)
      refine ⟨_, _, _, fun ty => run_append_room_src (P := Try.prog) W t t ty e i ut hi b o n c x m news hx hfit (fun j hj => by have := (h5 (n * i.size + j) (by omega)).1; rwa [← Nat.add_assoc] at this) (fun j hj => by have := (h5 (n * i.size + j) (by omega)).2; rwa [← Nat.add_assoc] at this), ⟨by rw [List.length_append, hl, hnl, Nat.add_mul], hfit, h.cm, hone, .inr ⟨b, o, rfl, Nat.lt_of_lt_of_le h3 ht.size, fun j u hu => ?_, fun j hj => ⟨ht.there _ _ h3 (h5 j hj).1, by rw [ht.fz _ _ h3]; exact (h5 j hj).2⟩⟩⟩, fun k p hk => .inl hk, ht⟩
      by_cases hj : j < vs.length
      · rw [List.getElem?_append_left hj] at hu
        rw [World.cell?_setCells_out _ _ _ _ _ (fun _ _ => .inl (by dsimp; omega))]
        exact h4 j u hu
      · rw [List.getElem?_append_right (by omega)] at hu
        have hj2 := (List.getElem?_eq_some_iff.1 hu).1
        have := World.cell?_setCells_in b news (o + n * i.size) W (fun t ht' => by rw [Nat.add_assoc]; exact (h5 _ (by omega)).1) (j - vs.length) hj2
        rw [show o + n * i.size + (j - vs.length) = o + j by omega] at this
        rw [this, ← hu, List.getElem?_eq_getElem]
  · have hm63 : n + m ≤ maxLen := by unfold maxLen; omega
    have hold : (Builtin.firstCells i.size n (.slice a n c)).run Try.prog W.drew = .ok vs.toArray W.drew := by
      rcases h.at' with ⟨rfl, h0⟩ | ⟨b, o, rfl, h3, h4, h5⟩
      · obtain rfl : n = 0 := by have := h.nc; omega
        obtain rfl : vs = [] := List.eq_nil_of_length_eq_zero (by simpa using h.len)
        exact run_firstCells_none W.drew i.size 0 0 c
      · exact run_firstCells_some W.drew i.size n ⟨b, o, none⟩ n c vs h.len (h4.add)
    have hby : (n + m) * i.bytes ≤ 140737488355328 := Nat.le_trans (Nat.mul_le_mul hsm hb) (by omega)
    have hrun := fun ty => run_append_grow_src (P := Try.prog) W t t ty e i z ut hi hz a n c vs hold x m news hx (by omega) (by omega) (growslice_fits (by omega) hby)
    have hge := grownCap_ge W (n + m) c e
    have hcm := grownCap_le_maxLen W (n + m) c e hm63
    obtain ⟨hr, hbl⟩ := RowS.fresh e W.drew (vs ++ news) (n + m) (grownCap W (n + m) c e) hone (by rw [List.length_append, h.len, hnl, Nat.add_mul]) hge hcm (Builtin.zeroCells z.cells (grownCap W (n + m) c e - (n + m))) (by rw [size_zeroCells, hzs])
    exact ⟨_, _, _, hrun, hr, slf_new (W := W) (Nat.le_refl _), TouchC.of_below ((below_drw W).trans hbl)⟩

end Go.Proofs.Ytfikaccgpjiedaa

/-
  slices.Insert of one entry.
-/
namespace Go.Proofs.Ytfikaccgpjiedaa
open Go.RowKit Go.Lib

def zE : Value := .agg #[.slice none 0 0, .int .i64 0]
def zP : Value := .pointer none

theorem el_of {t e : TypeId} {s : Nat} {z : Value} (ut : Try.prog.underlying t = some (.slice e)) (hi : ((Try.prog.info? e).map fun i => (i.zero, i.size, decide (i.bytes ≤ 64))) = some (some z, s, true)) (zs : z.cells.size = s) (s0 : 0 < s)
    (z1 : ∀ v ∈ z.cells.toList, v.oneCell' = true) (zv : ∀ w, (zeroValue e).run Try.prog w = .ok z w) (so : ∀ w, (Go.sizeOf e).run Try.prog w = .ok s w) : ∃ i, El t e s i z := by
  cases h : Try.prog.info? e with
  | none => rw [h] at hi; cases hi
  | some i =>
    rw [h] at hi
    simp only [Option.map_some, Option.some.injEq, Prod.mk.injEq, decide_eq_true_eq] at hi
    exact ⟨i, ut, h, hi.1, hi.2.1, hi.2.2, zs, s0, z1, zv, so⟩

theorem elE : ∃ i, El 33 37 2 i zE :=
  el_of (by kernel_rfl) (by kernel_rfl) rfl (by omega) (by intro v hv; simp [zE, Value.cells] at hv; rcases hv with rfl | rfl <;> rfl) (fun w => by kernel_rfl) (fun w => by kernel_rfl)

theorem elP : ∃ i, El 54 51 1 i zP :=
  el_of (by kernel_rfl) (by kernel_rfl) rfl (by omega) (by intro v hv; simp [zP, Value.cells] at hv; subst hv; rfl) (fun w => by kernel_rfl) (fun w => by kernel_rfl)

/-- A new row that stands where there was no room for k elements more: what was there, and zero values. -/
theorem row_grow {t e : TypeId} {s : Nat} {i : TypeInfo} {z : Value} (E : El t e s i z) {W : World} {a : Option Addr} {n c : Nat} {vs : List Value} (h : RowS s W a n c vs) (k : Nat) (hk : 0 < k) (hg : c < n + k) (hsm : n + k ≤ 100000) :
    ∃ c' W' zs, (∀ ty, (Builtin.append_ #[t, 3] ty #[.slice a n c, .int .i64 (k : Int)]).run Try.prog W = .ok (.slice (some ⟨W.heap.size, 0, none⟩) (n + k) c') W') ∧ n + k ≤ c' ∧ RowS s W' (some ⟨W.heap.size, 0, none⟩) (n + k) c' (vs ++ zs) ∧ zs.length = k * s ∧ Below W.heap.size W W' ∧ W.heap.size < W'.heap.size := by
  obtain ⟨ut, hi, hz, rfl, hb, hzs, s0, z1, zv, so⟩ := E
  have hm63 : n + k ≤ maxLen := by unfold maxLen; omega
  have hold : (Builtin.firstCells i.size n (.slice a n c)).run Try.prog W.drew = .ok vs.toArray W.drew := by
    rcases h.at' with ⟨rfl, h0⟩ | ⟨b, o, rfl, h3, h4, h5⟩
    · obtain rfl : n = 0 := by have := h.nc; omega
      obtain rfl : vs = [] := List.eq_nil_of_length_eq_zero (by simpa using h.len)
      exact run_firstCells_none W.drew i.size 0 0 c
    · exact run_firstCells_some W.drew i.size n ⟨b, o, none⟩ n c vs h.len (h4.add)
  have hby : (n + k) * i.bytes ≤ 140737488355328 := Nat.le_trans (Nat.mul_le_mul hsm hb) (by omega)
  have hby2 : k * i.bytes ≤ 281474976710656 := Nat.le_trans (Nat.mul_le_mul (show k ≤ 100000 by omega) hb) (by omega)
  have hrun := fun ty => Lib.run_append_grow_zeros (P := Try.prog) W t 3 ty e i z .i64 .i64 ut Try.underlying3 hi hz a n c vs hold k hk s0 hg (by omega) hby2 (growslice_fits (by omega) hby)
  have hge := grownCap_ge W (n + k) c e
  have hcm := grownCap_le_maxLen W (n + k) c e hm63
  obtain ⟨hr, hbl⟩ := RowS.fresh e W.drew (vs ++ (Builtin.zeroCells z.cells k).toList) (n + k) (grownCap W (n + k) c e) (fun v hv => by
    rcases List.mem_append.1 hv with hv | hv
    · exact h.one v hv
    · exact zeroCells_one z1 k v hv) (by rw [List.length_append, h.len, Array.length_toList, size_zeroCells, hzs, Nat.add_mul]) hge hcm (Builtin.zeroCells z.cells (grownCap W (n + k) c e - (n + k))) (by rw [size_zeroCells, hzs])
  have earr : vs.toArray ++ Builtin.zeroCells z.cells k = (vs ++ (Builtin.zeroCells z.cells k).toList).toArray := by apply Array.ext'; simp
  refine ⟨grownCap W (n + k) c e, _, _, fun ty => ?_, hge, hr, by rw [Array.length_toList, size_zeroCells, hzs], (below_drw W).trans hbl, by simp⟩
  rw [hrun ty, earr]

/-- copy: over elements of a row. -/
theorem row_copy {t e : TypeId} {s : Nat} {i : TypeInfo} {z : Value} (E : El t e s i z) {W : World} {b o dn dc : Nat} {ad : Addr} {m sl mc : Nat} {news : List Value} (hr : Room W b o (m * s)) (hl : news.length = m * s) (hm : Nat.min sl dn = m) (h1 : ∀ v ∈ news, v.oneCell' = true)
    (hs : ∀ (j : Nat) u, news[j]? = some u → W.cell? (ad.add j) = some u) :
    ∀ ty, (Builtin.copy_ #[t, t] ty #[.slice (some ⟨b, o, none⟩) dn dc, .slice (some ad) sl mc]).run Try.prog W = .ok (goInt m) (W.setCells b o news) := fun ty => by
  have hst := run_storeCells_cells (P := Try.prog) b o news 0 W (fun j hj => by have := (hr j (by omega)).1; simpa using this) (fun j hj => by have := (hr j (by omega)).2; simpa using this) h1
  have hld := run_firstCells_some (P := Try.prog) W s m ad sl mc news hl hs
  have so := E.so
  simp only [Nat.add_zero] at hst
  simp [Builtin.copy_, run_underlying E.ut, Builtin.lenOf, so, hm, hld, hst]

theorem min_lit {a b m : Nat} (h1 : m ≤ a) (h2 : m ≤ b) (h : m = a ∨ m = b) : Nat.min a b = m := by
  simp only [Nat.min_def]
  split <;> omega

theorem splice_app (A z B : List Value) : Ytfikaccgpjiedaa.splice (A ++ z) A.length B = A ++ B ++ z.drop B.length := by
  unfold Ytfikaccgpjiedaa.splice
  simp [List.drop_append]

/-- Written over from a place on, up to a new end. -/
theorem RowS.over {s : Nat} {W : World} {b o n n' c j : Nat} {vs news : List Value} (h : RowS s W (some ⟨b, o, none⟩) n c vs) (hj : j ≤ n * s) (hl : j + news.length = n' * s) (hc : n' ≤ c) (h1 : ∀ v ∈ news, v.oneCell' = true) :
    RowS s (W.setCells b (o + j) news) (some ⟨b, o, none⟩) n' c (vs.take j ++ news) ∧ TouchC (SlF s (some ⟨b, o, none⟩) c) W (W.setCells b (o + j) news) := by
  have hle : n' * s ≤ c * s := Nat.mul_le_mul_right _ hc
  have hvl := h.len
  rcases h.at' with ⟨e1, _⟩ | ⟨b', o', e, h3, h4, h5⟩
  · cases e1
  · cases e
    have ht : TouchC (SlF s (some ⟨b, o, none⟩) c) W (W.setCells b (o + j) news) := TouchC.setCells news (o + j) (TouchC.refl _ _) (fun i hi => slf_some.2 ⟨rfl, by omega, by omega⟩)
    refine ⟨⟨by rw [List.length_append, List.length_take]; omega, hc, h.cm, fun v hv => ?_, .inr ⟨b, o, rfl, Nat.lt_of_lt_of_le h3 ht.size, fun t u hu => ?_, fun i hi => ⟨ht.there _ _ h3 (h5 i hi).1, by rw [ht.fz _ _ h3]; exact (h5 i hi).2⟩⟩⟩, ht⟩
    · rcases List.mem_append.1 hv with hv | hv
      · exact h.one v (List.mem_of_mem_take hv)
      · exact h1 v hv
    · by_cases hlt : t < j
      · rw [List.getElem?_append_left (by rw [List.length_take]; omega), List.getElem?_take, if_pos hlt] at hu
        rw [World.cell?_setCells_out _ _ _ _ _ (fun _ _ => .inl (by dsimp; omega))]
        exact h4 t u hu
      · rw [List.getElem?_append_right (by rw [List.length_take]; omega), List.length_take, show t - min j vs.length = t - j by omega] at hu
        have hj2 := (List.getElem?_eq_some_iff.1 hu).1
        have := World.cell?_setCells_in b news (o + j) W (fun i hi => by rw [Nat.add_assoc]; exact (h5 _ (by omega)).1) (t - j) hj2
        rw [show o + j + (t - j) = o + t by omega] at this
        rw [this, ← hu, List.getElem?_eq_getElem]

theorem append_dst {ops : Array Oper} {rest : List Oper} {o : Oper} {a : Act} {w : World} {Q : Exit → Act → World → Prop} (k : Tmp) (_ : o.dst = some k) (h : wpList Try.prog ops Q (o :: rest) a w) : wpList Try.prog ops Q (o :: rest) a w := h

theorem append_stepW2 {ops : Array Oper} {rest : List Oper} {o : Oper} {a : Act} {w : World} {Q : Exit → Act → World → Prop} (hgd : o.guard = none) (s x : Operand) (t t' : TypeId)
    (ho : o.op = .call { callee := .builtin .append, args := #[s, x], argTypes := #[t, t'] }) (v xv v' : Value) (w' : World) (hs : a.eval s = v) (hx : a.eval x = xv)
    (hrun : (Builtin.append_ #[t, t'] o.type #[v, xv]).run Try.prog w = .ok v' w') (h : wpList Try.prog ops Q rest (a.put o.dst v') w') : wpList Try.prog ops Q (o :: rest) a w :=
  wpList_plain hgd fun _ hK => by
    unfold Oper.wp execOp
    simp only [ho, resolve, invoke, builtin, Sem.run_bind, Sem.run_pure, Result.andThen_ok, List.map_toArray, List.map_cons, List.map_nil, hs, hx, hrun]
    exact hK _ _ h

/-- A block that was made for a literal, or a value. -/
structure Lit (W : World) (g : Nat) (vs : List Value) : Prop where
  lt : g < W.heap.size
  at' : Cells W g 0 vs
  fz : ∀ j, W.frozen? ⟨g, j, none⟩ = false
  one : ∀ v ∈ vs, v.oneCell' = true

theorem Lit.below {W W' : World} {g : Nat} {vs : List Value} (h : Lit W g vs) (hb : Below W.heap.size W W') : Lit W' g vs :=
  ⟨Nat.lt_of_lt_of_le h.lt hb.size, h.at'.below hb, fun j => by rw [hb.frozen (p := ⟨g, j, none⟩) h.lt]; exact h.fz j, h.one⟩
theorem Lit.touch {F : Ft} {W W' : World} {g : Nat} {vs : List Value} (h : Lit W g vs) (ht : TouchC F W W') (hF : ∀ p, ¬ F g p) : Lit W' g vs :=
  ⟨Nat.lt_of_lt_of_le h.lt ht.size, h.at'.touch ht (fun j _ => hF _), fun j => by rw [ht.fz g j h.lt]; exact h.fz j, h.one⟩
theorem Lit.new (W : World) (vs : List Value) (t : TypeId) (h1 : ∀ v ∈ vs, v.oneCell' = true) : Lit (W.alloc (.cells vs.toArray t)) W.heap.size vs :=
  ⟨by simp, fun j u hu => by rw [Nat.zero_add, World.cell?_alloc_at (w := W) _ _ W.heap.size j rfl]; simpa using hu, fun j => World.frozen?_alloc_at (w := W) _ _ W.heap.size j rfl, h1⟩

/-- What stands with one element more at place i. -/
def insC (s : Nat) (vs : List Value) (i : Nat) (news : List Value) : List Value := vs.take (i * s) ++ news ++ vs.drop (i * s)

set_option maxRecDepth 100000 in
set_option maxHeartbeats 2000000 in
theorem ins_end (W : World) (a : Option Addr) (n c : Nat) (vs : List Value) (vb vc : Nat) (v0 v1 : Value) (h : RowS 2 W a n c vs) (hn : n ≤ 1000) (hv : Lit W vb [v0, v1]) :
    Calls Try.prog 41 #[.slice a n c, .int .i64 (n : Int), .slice (some ⟨vb, 0, none⟩) 1 vc] W fun e w' => ∃ a' c', e = .returned (.slice a' (n + 1) c') ∧ RowS 2 w' a' (n + 1) c' (insC 2 vs n [v0, v1]) ∧ Sub (SlF 2 a' c') (Or2 (SlF 2 a c) (Fr W.heap.size)) ∧ TouchC (SlF 2 a c) W w' := by
  obtain ⟨ie, E⟩ := elE
  have hsrc : Src Try.prog 2 33 (.slice (some ⟨vb, 0, none⟩) 1 vc) 1 [v0, v1] W := Src.ofSlice W E.ut ⟨vb, 0, none⟩ 1 vc [v0, v1] (by simp) hv.at'.add hv.one
  obtain ⟨a', c', W', hrun, hr, hsub, ht⟩ := row_app E h _ 1 _ hsrc (by omega)
  have e0 : insC 2 vs n [v0, v1] = vs ++ [v0, v1] := by
    unfold insC
    rw [List.take_of_length_le (by rw [h.len]; exact Nat.le_refl _), List.drop_eq_nil_of_le (by rw [h.len]; exact Nat.le_refl _)]
    simp
  have HRUN := Lib.hid hrun
  have HEND := Lib.hid (And.intro hr (And.intro hsub ht))
  have hnn := h.nc
  have hcm : c ≤ 9223372036854775807 := by have := h.cm; unfold maxLen at this; omega
  rw [e0]
  clear hrun hr hsub ht hsrc hv
  rcases h.at' with ⟨rfl, h0⟩ | ⟨b, o, rfl, _⟩
  all_goals
    clear h
    go_enter Try.func41, Try.ntmps41
    go_wp2_with (at_builtin; refine append_stepW rfl _ _ 33 rfl _ _ _ _ rfl rfl (HRUN.out _) ?_)

    all_goals (go_ret; (try subst_vars); exact ⟨a', c', rfl, HEND.out.1, HEND.out.2.1, HEND.out.2.2⟩)

set_option maxRecDepth 100000 in
set_option maxHeartbeats 4000000 in
theorem ins_grow (W : World) (b o n c i : Nat) (vs : List Value) (vb vc : Nat) (v0 v1 : Value) (h : RowS 2 W (some ⟨b, o, none⟩) n c vs) (hn : n ≤ 1000) (hi : i < n) (hc : c < n + 1) (hv : Lit W vb [v0, v1]) :
    Calls Try.prog 41 #[.slice (some ⟨b, o, none⟩) n c, .int .i64 (i : Int), .slice (some ⟨vb, 0, none⟩) 1 vc] W fun e w' => ∃ a' c', e = .returned (.slice a' (n + 1) c') ∧ RowS 2 w' a' (n + 1) c' (insC 2 vs i [v0, v1]) ∧ Sub (SlF 2 a' c') (Or2 (SlF 2 (some ⟨b, o, none⟩) c) (Fr W.heap.size)) ∧ TouchC (SlF 2 (some ⟨b, o, none⟩) c) W w' := by
  obtain ⟨ie, E⟩ := elE
  obtain rfl : c = n := by have := h.nc; omega
  have hcut := h.cut (i := i) (k := c) (by omega) (by omega) (Nat.le_refl _)
  obtain ⟨G, W1, zs, hrun, hG, hr, hzl, hb, hlt⟩ := row_grow E hcut (c + 1 - i) (by omega) (by omega) (by omega)
  have hik : i + (c + 1 - i) = c + 1 := by omega
  rw [hik] at hrun hG hr
  have hkk : (((c + 1 - i : Nat) : Nat) : Int) = (c : Int) + 1 - (i : Int) := by omega
  rw [hkk] at hrun
  have hl := h.len
  obtain ⟨N, hN⟩ : ∃ N, W.heap.size = N := ⟨_, rfl⟩
  rw [hN] at hrun hr hb hlt
  have hvb : vb < N := by rw [← hN]; exact hv.lt
  have hbN : b < N := by rw [← hN]; exact h.lt b (o + 0) (slf_some.2 ⟨rfl, by omega, by omega⟩)
  -- the two copies
  have hR1 : Room W1 N 0 (G * 2) := by
    rcases hr.at' with ⟨e, _⟩ | ⟨_, _, e, _, _, h5⟩
    · cases e
    · cases e; exact h5
  have hlv := hv.touch (F := fun _ _ => False) (TouchC.of_below (hb.mono (Nat.le_of_eq hN) |>.trans (Below.refl _ _) |> fun h => by rwa [hN])) (fun _ h => h)
  have hcs : Cells W1 b o vs := by
    rcases h.at' with ⟨e, _⟩ | ⟨_, _, e, _, h4, _⟩
    · cases e
    · cases e; exact h4.below (by rw [hN]; exact hb)
  have hA : ∀ ty dn dc, 1 ≤ dn → (Builtin.copy_ #[33, 33] ty #[.slice (some ⟨N, i * 2, none⟩) dn dc, .slice (some ⟨vb, 0, none⟩) 1 vc]).run Try.prog W1 = .ok (goInt 1) (W1.setCells N (i * 2) [v0, v1]) := fun ty dn dc hd =>
    row_copy E (m := 1) (fun j hj => by have := hR1 (i * 2 + j) (by omega); rwa [Nat.zero_add] at this) rfl (min_lit (Nat.le_refl _) hd (.inl rfl)) hlv.one hlv.at'.add ty
  obtain ⟨hr2, ht2⟩ := hr.splice (j := i * 2) (news := [v0, v1]) (by simp; omega) hv.one
  rw [Nat.zero_add] at hr2 ht2
  obtain ⟨W2, hW2⟩ : ∃ W2, W1.setCells N (i * 2) [v0, v1] = W2 := ⟨_, rfl⟩
  rw [hW2] at hA hr2 ht2
  have hR2 : Room W2 N 0 (G * 2) := by
    rcases hr2.at' with ⟨e, _⟩ | ⟨_, _, e, _, _, h5⟩
    · cases e
    · cases e; exact h5
  have hcs2 : Cells W2.drew b o vs := (hcs.touch ht2 (fun j _ hf => by have := (slf_some.1 hf).1; omega)).below (below_drw _)
  have hB : ∀ ty dn dc sc, c - i ≤ dn → (Builtin.copy_ #[33, 33] ty #[.slice (some ⟨N, (i + 1) * 2, none⟩) dn dc, .slice (some ⟨b, o + i * 2, none⟩) (c - i) sc]).run Try.prog W2.drew = .ok (goInt (c - i : Nat)) (W2.drew.setCells N ((i + 1) * 2) (vs.drop (i * 2))) := fun ty dn dc sc hd =>
    row_copy E (m := c - i) (fun j hj => by have := hR2 ((i + 1) * 2 + j) (by omega); rw [Nat.zero_add] at this; exact this) (by rw [List.length_drop, hl]; omega) (min_lit (Nat.le_refl _) hd (.inl rfl)) (fun v hv' => h.one v (List.mem_of_mem_drop hv')) (hcs2.drop _).add ty
  obtain ⟨hr3, ht3⟩ := (hr2.below (below_drw _)).splice (j := (i + 1) * 2) (news := vs.drop (i * 2)) (by rw [List.length_drop, hl]; omega) (fun v hv' => h.one v (List.mem_of_mem_drop hv'))
  rw [Nat.zero_add] at hr3 ht3
  obtain ⟨W3, hW3⟩ : ∃ W3, W2.drew.setCells N ((i + 1) * 2) (vs.drop (i * 2)) = W3 := ⟨_, rfl⟩
  rw [hW3] at hB hr3 ht3
  have hcells : Ytfikaccgpjiedaa.splice (Ytfikaccgpjiedaa.splice (vs.take (i * 2) ++ zs) (i * 2) [v0, v1]) ((i + 1) * 2) (vs.drop (i * 2)) = insC 2 vs i [v0, v1] := by
    have e1 := splice_app (vs.take (i * 2)) zs [v0, v1]
    rw [List.length_take, show min (i * 2) vs.length = i * 2 by omega] at e1
    rw [e1]
    have e2 := splice_app (vs.take (i * 2) ++ [v0, v1]) (zs.drop [v0, v1].length) (vs.drop (i * 2))
    rw [List.length_append, List.length_take, show min (i * 2) vs.length + [v0, v1].length = (i + 1) * 2 by simp; omega] at e2
    have e3 : List.drop (List.drop (i * 2) vs).length (List.drop [v0, v1].length zs) = [] := List.drop_eq_nil_of_le (by rw [List.length_drop, List.length_drop, hzl, hl]; simp; omega)
    rw [e2, e3, List.append_nil]
    rfl
  rw [hcells] at hr3
  have hend : Below N W W3 := (hb.trans ((ht2.trans (G := SlF 2 (some ⟨N, 0, none⟩) G) ((TouchC.refl _ _).drew.trans ht3 (fun _ _ _ h => h)) (fun _ _ _ h => h)).touch (G := fun k => k = N) (fun k p _ hf => (slf_some.1 hf).1) |>.below (B := N) (fun k hk => by omega) (by omega)))
  have HEND := Lib.hid (And.intro hr3 hend)
  have hA' := fun ty dc => hA ty (c + 1 - i) dc (by omega)
  have HB := Lib.hid (fun ty dc sc => hB ty (c + 1 - (i + 1)) dc sc (by omega))
  have HRUN := Lib.hid hrun
  have HN := Lib.hid hN
  have mixed : Try.prog.follows Departure.mixedOrders = true := by kernel_rfl
  have z1 : ¬ (i : Int) = (c : Int) := by omega
  have z2 : (c : Int) < (c : Int) + 1 := by omega
  have z3 : ¬ G = i := by omega
  have z4 : ¬ G = i + 1 := by omega
  have z5 : ¬ c = i := by omega
  have z6 : IntKind.i64.wrap ((i : Int) + 1) = (i : Int) + 1 := by rw [IntKind.wrap_i64]; omega
  have z7 : ((i : Int) + 1).toNat = i + 1 := by omega
  have z8 : (0 : Int) ≤ (i : Int) + 1 := by omega
  have z9 : i ≤ c := by omega
  have hcm : G ≤ 9223372036854775807 := by have := hr.cm; unfold maxLen at this; omega
  clear hr3 hend hA hB hrun hr hr2 ht2 ht3 hW3 hW2 hcells hcs2 hcs hlv hv h hcut hR1 hR2 hb hN hl hzl
  go_enter Try.func41, Try.ntmps41
  go_wp2_with (at_builtin; refine append_stepW2 rfl _ _ 33 3 rfl _ _ _ _ rfl rfl (HRUN.out _) ?_)
  go_region_law_o (refine step_copy_runI rfl _ _ 33 33 rfl (.slice (some ⟨N, (i + 1) * 2, none⟩) (c + 1 - (i + 1)) (G - (i + 1))) (.slice (some ⟨b, o + i * 2, none⟩) (c - i) (c - i)) (by simp [Act.eval, Act.put]) (by simp [Act.eval, Act.put]) (HB.out _ _ _) ?_)
  all_goals
    go_wp2
    go_ret
    refine ⟨_, _, rfl, HEND.out.1, ?_, ?_⟩
    · exact fun k p hk => .inr (by have := (slf_some.1 hk).1; rw [HN.out]; exact Nat.le_of_eq this.symm)
    · exact TouchC.of_below (by rw [HN.out]; exact HEND.out.2)

set_option maxRecDepth 100000 in
set_option maxHeartbeats 4000000 in
theorem ins_room (W : World) (b o n c i : Nat) (vs : List Value) (vb vc : Nat) (v0 v1 : Value) (h : RowS 2 W (some ⟨b, o, none⟩) n c vs) (hn : n ≤ 1000) (hi : i < n) (hc : n + 1 ≤ c) (hv : Lit W vb [v0, v1]) (hne : vb ≠ b) :
    Calls Try.prog 41 #[.slice (some ⟨b, o, none⟩) n c, .int .i64 (i : Int), .slice (some ⟨vb, 0, none⟩) 1 vc] W fun e w' => ∃ a' c', e = .returned (.slice a' (n + 1) c') ∧ RowS 2 w' a' (n + 1) c' (insC 2 vs i [v0, v1]) ∧ Sub (SlF 2 a' c') (Or2 (SlF 2 (some ⟨b, o, none⟩) c) (Fr W.heap.size)) ∧ TouchC (SlF 2 (some ⟨b, o, none⟩) c) W w' := by
  obtain ⟨ie, E⟩ := elE
  have hl := h.len
  obtain ⟨hcs, hro, hb⟩ : Cells W b o vs ∧ Room W b o (c * 2) ∧ b < W.heap.size := by
    rcases h.at' with ⟨e, _⟩ | ⟨_, _, e, h3, h4, h5⟩
    · cases e
    · cases e; exact ⟨h4, h5, h3⟩
  have hov : ∀ lb cb, (callFunc 53 #[.slice (some ⟨vb, 0, none⟩) 1 vc, .slice (some ⟨b, o + (i + 1) * 2, none⟩) lb cb]).run Try.prog W = .ok (.value (.bool false)) W := fun lb cb => by
    obtain ⟨tA, kA, hsa, _, _⟩ := World.shape?_of_cell? (hv.at' 0 v0 rfl)
    obtain ⟨u, hu⟩ := Option.isSome_iff_exists.1 (hro 0 (by omega)).1
    obtain ⟨tB, kB, hsb, hkB, _⟩ := World.shape?_of_cell? hu
    rw [run_callFunc_extern Try.func53 (by kernel_rfl) (by kernel_rfl) (by kernel_rfl) (e := Extern.SlicesOverlaps.overlaps #[33, 33] #[4]) (by kernel_rfl),
      Lib.run_overlaps_apart W 33 4 37 E.ut 2 E.so ⟨vb, 0, none⟩ ⟨b, o + (i + 1) * 2, none⟩ 1 vc lb cb hne tA tB kA kB hsa hsb (by omega) (hv.fz 0) (hv.fz kA)]
    rfl
  -- the two copies
  have hA : ∀ ty dc sc, (Builtin.copy_ #[33, 33] ty #[.slice (some ⟨b, o + (i + 1) * 2, none⟩) (n + 1 - (i + 1)) dc, .slice (some ⟨b, o + i * 2, none⟩) (n + 1 - i) sc]).run Try.prog W.drew = .ok (goInt (n - i : Nat)) (W.drew.setCells b (o + (i + 1) * 2) (vs.drop (i * 2))) := fun ty dc sc =>
    row_copy E (m := n - i) (fun j hj => by rw [Nat.add_assoc]; exact hro _ (by omega)) (by rw [List.length_drop, hl]; omega) (min_lit (by omega) (by omega) (by omega)) (fun v hv' => h.one v (List.mem_of_mem_drop hv')) ((hcs.drop _).below (below_drw _)).add ty
  obtain ⟨hr2, ht2⟩ := (h.below (below_drw _)).over (n' := n + 1) (j := (i + 1) * 2) (news := vs.drop (i * 2)) (by omega) (by rw [List.length_drop, hl]; omega) hc (fun v hv' => h.one v (List.mem_of_mem_drop hv'))
  obtain ⟨W2, hW2⟩ : ∃ W2, W.drew.setCells b (o + (i + 1) * 2) (vs.drop (i * 2)) = W2 := ⟨_, rfl⟩
  rw [hW2] at hA hr2 ht2
  have hR2 : Room W2 b o (c * 2) := by
    rcases hr2.at' with ⟨e, _⟩ | ⟨_, _, e, _, _, h5⟩
    · cases e
    · cases e; exact h5
  have hlv := hv.touch (TouchC.drew (TouchC.refl (SlF 2 (some ⟨b, o, none⟩) c) W) |>.trans ht2 (fun _ _ _ h => h)) (fun p hf => hne (slf_some.1 hf).1)
  have hB : ∀ ty dc, (Builtin.copy_ #[33, 33] ty #[.slice (some ⟨b, o + i * 2, none⟩) (n + 1 - i) dc, .slice (some ⟨vb, 0, none⟩) 1 vc]).run Try.prog W2 = .ok (goInt (1 : Nat)) (W2.setCells b (o + i * 2) [v0, v1]) := fun ty dc =>
    row_copy E (m := 1) (fun j hj => by rw [Nat.add_assoc]; exact hR2 _ (by omega)) rfl (min_lit (Nat.le_refl _) (by omega) (.inl rfl)) hlv.one hlv.at'.add ty
  obtain ⟨hr3, ht3⟩ := hr2.splice (j := i * 2) (news := [v0, v1]) (by simp; omega) hv.one
  obtain ⟨W3, hW3⟩ : ∃ W3, W2.setCells b (o + i * 2) [v0, v1] = W3 := ⟨_, rfl⟩
  rw [hW3] at hB hr3 ht3
  have hcells : Ytfikaccgpjiedaa.splice (vs.take ((i + 1) * 2) ++ vs.drop (i * 2)) (i * 2) [v0, v1] = insC 2 vs i [v0, v1] := by
    unfold Ytfikaccgpjiedaa.splice insC
    rw [List.take_append_of_le_length (by rw [List.length_take]; omega), List.take_take, show min (i * 2) ((i + 1) * 2) = i * 2 by omega, show i * 2 + [v0, v1].length = (i + 1) * 2 by simp; omega, List.drop_append_of_le_length (by rw [List.length_take]; omega), List.drop_eq_nil_of_le (by rw [List.length_take]; omega)]
    rfl
  rw [hcells] at hr3
  have HEND := Lib.hid (And.intro hr3 ((TouchC.drew (TouchC.refl (SlF 2 (some ⟨b, o, none⟩) c) W) |>.trans ht2 (fun _ _ _ h => h)).trans ht3 (fun _ _ _ h => h)))
  have HA := Lib.hid hA
  have mixed : Try.prog.follows Departure.mixedOrders = true := by kernel_rfl
  have z1 : ¬ (i : Int) = (n : Int) := by omega
  have z2 : ¬ (c : Int) < (n : Int) + 1 := by omega
  have z3 : ¬ c = i := by omega
  have z4 : ¬ c = i + 1 := by omega
  have z6 : IntKind.i64.wrap ((i : Int) + 1) = (i : Int) + 1 := by rw [IntKind.wrap_i64]; omega
  have z7 : ((i : Int) + 1).toNat = i + 1 := by omega
  have z8 : (0 : Int) ≤ (i : Int) + 1 := by omega
  have z9 : i ≤ n := by omega
  have z10 : (i : Int) ≤ (n : Int) + 1 := by omega
  have z11 : n ≤ c := by omega
  have hcm : c ≤ 9223372036854775807 := by have := h.cm; unfold maxLen at this; omega
  clear hr3 hA hr2 ht2 ht3 hW3 hW2 hcells hlv hv h hR2 hro hcs hl
  go_enter Try.func41, Try.ntmps41
  go_wp2_with (simp only [hov])
  go_region_law_o (refine step_copy_runI rfl _ _ 33 33 rfl (.slice (some ⟨b, o + (i + 1) * 2, none⟩) (n + 1 - (i + 1)) (c - (i + 1))) (.slice (some ⟨b, o + i * 2, none⟩) (n + 1 - i) (c - i)) (by simp [Act.eval, Act.put]) (by simp [Act.eval, Act.put]) (HA.out _ _ _) ?_)
  all_goals
    go_wp2
    go_ret
    exact ⟨_, _, rfl, HEND.out.1, fun _ _ h => .inl h, HEND.out.2⟩

theorem ins_is (W : World) (a : Option Addr) (n c i : Nat) (vs : List Value) (vb vc : Nat) (v0 v1 : Value) (h : RowS 2 W a n c vs) (hn : n ≤ 1000) (hi : i ≤ n) (hv : Lit W vb [v0, v1]) (hne : ∀ b o, a = some ⟨b, o, none⟩ → vb ≠ b) :
    Calls Try.prog 41 #[.slice a n c, .int .i64 (i : Int), .slice (some ⟨vb, 0, none⟩) 1 vc] W fun e w' => ∃ a' c', e = .returned (.slice a' (n + 1) c') ∧ RowS 2 w' a' (n + 1) c' (insC 2 vs i [v0, v1]) ∧ Sub (SlF 2 a' c') (Or2 (SlF 2 a c) (Fr W.heap.size)) ∧ TouchC (SlF 2 a c) W w' := by
  by_cases he : i = n
  · subst he
    exact ins_end W a i c vs vb vc v0 v1 h hn hv
  · rcases h.at' with ⟨rfl, h0⟩ | ⟨b, o, rfl, _⟩
    · have := h.nc
      omega
    · by_cases hc : n + 1 ≤ c
      · exact ins_room W b o n c i vs vb vc v0 v1 h hn (by omega) hc hv (hne b o rfl)
      · exact ins_grow W b o n c i vs vb vc v0 v1 h hn (by omega) (by omega) hv

end Go.Proofs.Ytfikaccgpjiedaa

/-
  slices.Delete of one element.
-/
namespace Go.Proofs.Ytfikaccgpjiedaa
open Go.RowKit Go.Lib

theorem step_append_runI {ops : Array Oper} {o : Oper} {a : Act} {w : World} {K : Act → World → Prop} {Q : Exit → Act → World → Prop} {E : Prop}
    (hg : o.guard = none) (d x : Operand) (dT sT : TypeId) (hop : o.op = Op.call { callee := Callee.builtin Builtin.append, args := #[d, x], argTypes := #[dT, sT] })
    (v u : Value) (hd : a.eval d = v) (hx : a.eval x = u) {v' : Value} {w' : World} (hr : (Builtin.append_ #[dT, sT] o.type #[v, u]).run Try.prog w = .ok v' w') (hK : K (a.put o.dst v') w') :
    if Region.wanted o (yielded ops a.tmps) = true then Oper.wp Try.prog o a w K Q else E := by
  have hw : Region.wanted o (yielded ops a.tmps) = true := by simp [Region.wanted, hg]
  rw [if_pos hw]
  unfold Oper.wp
  simp [execOp, hop, resolve, invoke, builtin, hd, hx, hr, Result.andThen]
  exact hK

/-- Written behind the last element. -/
theorem RowS.spare {s : Nat} {W : World} {b o n c j : Nat} {vs news : List Value} (h : RowS s W (some ⟨b, o, none⟩) n c vs) (hj : n * s ≤ j) (hl : j + news.length ≤ c * s) :
    RowS s (W.setCells b (o + j) news) (some ⟨b, o, none⟩) n c vs ∧ TouchC (SlF s (some ⟨b, o, none⟩) c) W (W.setCells b (o + j) news) := by
  have hvl := h.len
  rcases h.at' with ⟨e1, _⟩ | ⟨b', o', e, h3, h4, h5⟩
  · cases e1
  · cases e
    have ht : TouchC (SlF s (some ⟨b, o, none⟩) c) W (W.setCells b (o + j) news) := TouchC.setCells news (o + j) (TouchC.refl _ _) (fun i hi => slf_some.2 ⟨rfl, by omega, by omega⟩)
    refine ⟨⟨hvl, h.nc, h.cm, h.one, .inr ⟨b, o, rfl, Nat.lt_of_lt_of_le h3 ht.size, fun t u hu => ?_, fun i hi => ⟨ht.there _ _ h3 (h5 i hi).1, by rw [ht.fz _ _ h3]; exact (h5 i hi).2⟩⟩⟩, ht⟩
    have := (List.getElem?_eq_some_iff.1 hu).1
    rw [World.cell?_setCells_out _ _ _ _ _ (fun _ _ => .inl (by dsimp; omega))]
    exact h4 t u hu

/-- clear, of one element and more. -/
theorem row_clear {t e : TypeId} {s : Nat} {i : TypeInfo} {z : Value} (E : El t e s i z) {W : World} {b o n c : Nat} (hr : Room W b o (n * s)) (hn : 0 < n) :
    ∃ zs : List Value, zs.length = n * s ∧ ∀ ty, (Builtin.clear_ #[t] ty #[.slice (some ⟨b, o, none⟩) n c]).run Try.prog W = .ok (.tuple #[]) (W.setCells b o zs) := by
  obtain ⟨ut, hi, hz, rfl, hb, hzs, s0, z1, zv, so⟩ := E
  have hl : (Builtin.zeroCells z.cells n).toList.length = n * i.size := by rw [Array.length_toList, size_zeroCells, hzs]
  have hst := run_storeCells_cells (P := Try.prog) b o _ 0 W (fun j hj => by have := (hr j (by omega)).1; simpa using this) (fun j hj => by have := (hr j (by omega)).2; simpa using this) (zeroCells_one z1 n)
  refine ⟨_, hl, fun ty => ?_⟩
  obtain ⟨m, rfl⟩ : ∃ m, n = m + 1 := ⟨n - 1, by omega⟩
  simp only [Nat.add_zero] at hst
  simp [Builtin.clear_, run_underlying ut, zv, hst]

/-- What stands without element i. -/
def delC (s : Nat) (vs : List Value) (i : Nat) : List Value := vs.take (i * s) ++ vs.drop ((i + 1) * s)

set_option maxRecDepth 100000 in
set_option maxHeartbeats 4000000 in
theorem del_en (W : World) (a : Option Addr) (n c i : Nat) (vs : List Value) (h : RowS 2 W a n c vs) (hn : n ≤ 1000) (hi : i < n) :
    Calls Try.prog 44 #[.slice a n c, .int .i64 (i : Int), .int .i64 ((i : Int) + 1)] W fun e w' => e = .returned (.slice a (n - 1) c) ∧ RowS 2 w' a (n - 1) c (delC 2 vs i) ∧ TouchC (SlF 2 a c) W w' := by
  obtain ⟨ie, E⟩ := elE
  have hl := h.len
  have hnc := h.nc
  rcases h.at' with ⟨rfl, h0⟩ | ⟨b, o, rfl, hb, hcs, hro⟩
  · omega
  have hsrc : Src Try.prog 2 33 (.slice (if c = i + 1 then some ⟨b, o, none⟩ else some ⟨b, o + (i + 1) * 2, none⟩) (n - (i + 1)) (c - (i + 1))) (n - (i + 1)) (vs.drop ((i + 1) * 2)) W.drew := by
    by_cases hci : c = i + 1
    · rw [if_pos hci, List.drop_eq_nil_of_le (by rw [hl]; omega), show n - (i + 1) = 0 by omega]
      exact Src.ofSlice W.drew E.ut ⟨b, o, none⟩ 0 _ [] (by simp) (fun j u hu => by simp at hu) (fun _ h => absurd h List.not_mem_nil)
    · rw [if_neg hci]
      refine Src.ofSlice W.drew E.ut ⟨b, o + (i + 1) * 2, none⟩ (n - (i + 1)) _ _ (by rw [List.length_drop, hl]; omega) ?_ (fun v hv => h.one v (List.mem_of_mem_drop hv))
      have := ((hcs.drop ((i + 1) * 2)).below (below_drw W)).add
      exact this
  have hrun : ∀ ty, (Builtin.append_ #[33, 33] ty #[.slice (some ⟨b, o, none⟩) i c, .slice (if c = i + 1 then some ⟨b, o, none⟩ else some ⟨b, o + (i + 1) * 2, none⟩) (n - (i + 1)) (c - (i + 1))]).run Try.prog W.drew = .ok (.slice (some ⟨b, o, none⟩) (n - 1) c) (W.drew.setCells b (o + i * 2) (vs.drop ((i + 1) * 2))) := fun ty => by
    have hro2 : ∀ j, j < (vs.drop ((i + 1) * 2)).length → (W.drew.cell? ⟨b, o + i * ie.size + j, none⟩).isSome = true ∧ W.drew.frozen? ⟨b, o + i * ie.size + j, none⟩ = false := fun j hj => by
      rw [List.length_drop, hl] at hj
      have := hro (i * 2 + j) (by omega)
      rw [E.hs, Nat.add_assoc]
      exact this
    have := run_append_room_src (P := Try.prog) W.drew 33 33 ty 37 ie E.ut E.hi b o i c _ (n - (i + 1)) _ (by rw [E.hs]; exact hsrc) (by omega) (fun j hj => (hro2 j hj).1) (fun j hj => (hro2 j hj).2)
    rw [this, E.hs, show i + (n - (i + 1)) = n - 1 by omega]
  obtain ⟨hr2, ht2⟩ := (h.below (below_drw _)).over (n' := n - 1) (j := i * 2) (news := vs.drop ((i + 1) * 2)) (by omega) (by rw [List.length_drop, hl]; omega) (by omega) (fun v hv' => h.one v (List.mem_of_mem_drop hv'))
  obtain ⟨W2, hW2⟩ : ∃ W2, W.drew.setCells b (o + i * 2) (vs.drop ((i + 1) * 2)) = W2 := ⟨_, rfl⟩
  rw [hW2] at hrun hr2 ht2
  have hR2 : Room W2 b o (c * 2) := by
    rcases hr2.at' with ⟨e, _⟩ | ⟨_, _, e, _, _, h5⟩
    · cases e
    · cases e; exact h5
  obtain ⟨zs, hzl, hclr⟩ := row_clear E (W := W2) (b := b) (o := o + (n - 1) * 2) (n := 1) (c := c - (n - 1)) (fun j hj => by have := hR2 ((n - 1) * 2 + j) (by omega); rw [← Nat.add_assoc] at this; exact this) (by omega)
  obtain ⟨hr3, ht3⟩ := hr2.spare (j := (n - 1) * 2) (news := zs) (Nat.le_refl _) (by omega)
  
  obtain ⟨W3, hW3⟩ : ∃ W3, W2.setCells b (o + (n - 1) * 2) zs = W3 := ⟨_, rfl⟩
  rw [hW3] at hclr hr3 ht3
  have HEND := Lib.hid (And.intro hr3 ((TouchC.drew (TouchC.refl (SlF 2 (some ⟨b, o, none⟩) c) W) |>.trans ht2 (fun _ _ _ h => h)).trans ht3 (fun _ _ _ h => h)))
  have HRUN := Lib.hid hrun
  have mixed : Try.prog.follows Departure.mixedOrders = true := by kernel_rfl
  have z1 : ¬ (i : Int) = (i : Int) + 1 := by omega
  have z6 : IntKind.i64.wrap ((i : Int) + 1) = (i : Int) + 1 := by rw [IntKind.wrap_i64]; omega
  have z7 : ((i : Int) + 1).toNat = i + 1 := by omega
  have z8 : (0 : Int) ≤ (i : Int) + 1 := by omega
  have z9 : i ≤ c := by omega
  have z10 : (i : Int) + 1 ≤ (n : Int) := by omega
  have z11 : ((n - 1 : Nat) : Int) ≤ (n : Int) := by omega
  have z12 : ¬ c = n - 1 := by omega
  have z13 : n - (n - 1) = 1 := by omega
  have z14 : n - 1 ≤ n := by omega
  have z15 : i ≤ i + 1 := by omega
  have hcm : c ≤ 9223372036854775807 := by have := h.cm; unfold maxLen at this; omega
  clear hr3 hrun hr2 ht2 ht3 hW3 hW2 h hR2 hro hcs hl hsrc hzl
  go_enter Try.func44, Try.ntmps44
  go_wp2_with fail
  go_region_law_o (refine step_append_runI rfl _ _ 33 33 rfl (.slice (some ⟨b, o, none⟩) i c) (.slice (if c = i + 1 then some ⟨b, o, none⟩ else some ⟨b, o + (i + 1) * 2, none⟩) (n - (i + 1)) (c - (i + 1))) (by simp [Act.eval, Act.put]) (by simp [Act.eval, Act.put]) (HRUN.out _) ?_)
  all_goals go_wp2
  all_goals
    go_ret
    (try subst_vars)
    exact ⟨rfl, HEND.out.1, HEND.out.2⟩

set_option maxRecDepth 100000 in
set_option maxHeartbeats 4000000 in
theorem del_no (W : World) (a : Option Addr) (n c i : Nat) (vs : List Value) (h : RowS 1 W a n c vs) (hn : n ≤ 1000) (hi : i < n) :
    Calls Try.prog 68 #[.slice a n c, .int .i64 (i : Int), .int .i64 ((i : Int) + 1)] W fun e w' => e = .returned (.slice a (n - 1) c) ∧ RowS 1 w' a (n - 1) c (delC 1 vs i) ∧ TouchC (SlF 1 a c) W w' := by
  obtain ⟨ie, E⟩ := elP
  have hl := h.len
  have hnc := h.nc
  rcases h.at' with ⟨rfl, h0⟩ | ⟨b, o, rfl, hb, hcs, hro⟩
  · omega
  have hsrc : Src Try.prog 1 54 (.slice (if c = i + 1 then some ⟨b, o, none⟩ else some ⟨b, o + (i + 1), none⟩) (n - (i + 1)) (c - (i + 1))) (n - (i + 1)) (vs.drop ((i + 1) * 1)) W.drew := by
    by_cases hci : c = i + 1
    · rw [if_pos hci, List.drop_eq_nil_of_le (by rw [hl]; omega), show n - (i + 1) = 0 by omega]
      exact Src.ofSlice W.drew E.ut ⟨b, o, none⟩ 0 _ [] (by simp) (fun j u hu => by simp at hu) (fun _ h => absurd h List.not_mem_nil)
    · rw [if_neg hci]
      refine Src.ofSlice W.drew E.ut ⟨b, o + (i + 1), none⟩ (n - (i + 1)) _ _ (by rw [List.length_drop, hl]; omega) ?_ (fun v hv => h.one v (List.mem_of_mem_drop hv))
      have := ((hcs.drop ((i + 1) * 1)).below (below_drw W)).add
      intro j u hu; have := this j u hu; rwa [Nat.mul_one] at this
  have hrun : ∀ ty, (Builtin.append_ #[54, 54] ty #[.slice (some ⟨b, o, none⟩) i c, .slice (if c = i + 1 then some ⟨b, o, none⟩ else some ⟨b, o + (i + 1), none⟩) (n - (i + 1)) (c - (i + 1))]).run Try.prog W.drew = .ok (.slice (some ⟨b, o, none⟩) (n - 1) c) (W.drew.setCells b (o + i * 1) (vs.drop ((i + 1) * 1))) := fun ty => by
    have hro2 : ∀ j, j < (vs.drop ((i + 1) * 1)).length → (W.drew.cell? ⟨b, o + i * ie.size + j, none⟩).isSome = true ∧ W.drew.frozen? ⟨b, o + i * ie.size + j, none⟩ = false := fun j hj => by
      rw [List.length_drop, hl] at hj
      have := hro (i * 1 + j) (by omega)
      rw [E.hs, Nat.add_assoc]
      exact this
    have := run_append_room_src (P := Try.prog) W.drew 54 54 ty 51 ie E.ut E.hi b o i c _ (n - (i + 1)) _ (by rw [E.hs]; exact hsrc) (by omega) (fun j hj => (hro2 j hj).1) (fun j hj => (hro2 j hj).2)
    rw [this, E.hs, show i + (n - (i + 1)) = n - 1 by omega]
  obtain ⟨hr2, ht2⟩ := (h.below (below_drw _)).over (n' := n - 1) (j := i * 1) (news := vs.drop ((i + 1) * 1)) (by omega) (by rw [List.length_drop, hl]; omega) (by omega) (fun v hv' => h.one v (List.mem_of_mem_drop hv'))
  obtain ⟨W2, hW2⟩ : ∃ W2, W.drew.setCells b (o + i * 1) (vs.drop ((i + 1) * 1)) = W2 := ⟨_, rfl⟩
  rw [hW2] at hrun hr2 ht2
  have hR2 : Room W2 b o (c * 1) := by
    rcases hr2.at' with ⟨e, _⟩ | ⟨_, _, e, _, _, h5⟩
    · cases e
    · cases e; exact h5
  obtain ⟨zs, hzl, hclr⟩ := row_clear E (W := W2) (b := b) (o := o + (n - 1)) (n := 1) (c := c - (n - 1)) (fun j hj => by have := hR2 ((n - 1) * 1 + j) (by omega); rw [← Nat.add_assoc] at this; rwa [Nat.mul_one] at this) (by omega)
  obtain ⟨hr3, ht3⟩ := hr2.spare (j := (n - 1) * 1) (news := zs) (Nat.le_refl _) (by omega)
  rw [Nat.mul_one] at hr3 ht3
  obtain ⟨W3, hW3⟩ : ∃ W3, W2.setCells b (o + (n - 1)) zs = W3 := ⟨_, rfl⟩
  rw [hW3] at hclr hr3 ht3
  have HEND := Lib.hid (And.intro hr3 ((TouchC.drew (TouchC.refl (SlF 1 (some ⟨b, o, none⟩) c) W) |>.trans ht2 (fun _ _ _ h => h)).trans ht3 (fun _ _ _ h => h)))
  have HRUN := Lib.hid hrun
  have mixed : Try.prog.follows Departure.mixedOrders = true := by kernel_rfl
  have z1 : ¬ (i : Int) = (i : Int) + 1 := by omega
  have z6 : IntKind.i64.wrap ((i : Int) + 1) = (i : Int) + 1 := by rw [IntKind.wrap_i64]; omega
  have z7 : ((i : Int) + 1).toNat = i + 1 := by omega
  have z8 : (0 : Int) ≤ (i : Int) + 1 := by omega
  have z9 : i ≤ c := by omega
  have z10 : (i : Int) + 1 ≤ (n : Int) := by omega
  have z11 : ((n - 1 : Nat) : Int) ≤ (n : Int) := by omega
  have z12 : ¬ c = n - 1 := by omega
  have z13 : n - (n - 1) = 1 := by omega
  have z14 : n - 1 ≤ n := by omega
  have z15 : i ≤ i + 1 := by omega
  have hcm : c ≤ 9223372036854775807 := by have := h.cm; unfold maxLen at this; omega
  clear hr3 hrun hr2 ht2 ht3 hW3 hW2 h hR2 hro hcs hl hsrc hzl
  go_enter Try.func68, Try.ntmps68
  go_wp2_with fail
  go_region_law_o (refine step_append_runI rfl _ _ 54 54 rfl (.slice (some ⟨b, o, none⟩) i c) (.slice (if c = i + 1 then some ⟨b, o, none⟩ else some ⟨b, o + (i + 1), none⟩) (n - (i + 1)) (c - (i + 1))) (by simp [Act.eval, Act.put]) (by simp [Act.eval, Act.put]) (HRUN.out _) ?_)
  all_goals go_wp2
  all_goals
    go_ret
    (try subst_vars)
    exact ⟨rfl, HEND.out.1, HEND.out.2⟩

end Go.Proofs.Ytfikaccgpjiedaa

/-
  slices.Concat.
-/
namespace Go.Proofs.Ytfikaccgpjiedaa
open Go.RowKit Go.Lib

theorem RowS.src {t e : TypeId} {s : Nat} {i : TypeInfo} {z : Value} (E : El t e s i z) {W : World} {a : Option Addr} {n c : Nat} {vs : List Value} (h : RowS s W a n c vs) : Src Try.prog s t (.slice a n c) n vs W := by
  rcases h.at' with ⟨rfl, h0⟩ | ⟨b, o, rfl, h3, h4, h5⟩
  · obtain rfl : n = 0 := by have := h.nc; omega
    obtain rfl : vs = [] := List.eq_nil_of_length_eq_zero (by simpa using h.len)
    exact Src.ofNil W E.ut c
  · exact Src.ofSlice W E.ut ⟨b, o, none⟩ n c vs h.len h4.add h.one

/-- Rows, to be put together. -/
structure Prt where
  a : Option Addr
  n : Nat
  c : Nat
  vs : List Value

def Prts (s : Nat) (W : World) (q : Nat) (ps : List Prt) : Prop := ∀ (j : Nat) p, ps[j]? = some p → W.cell? ⟨q, j, none⟩ = some (.slice p.a p.n p.c) ∧ RowS s W p.a p.n p.c p.vs
def sumP (ps : List Prt) : Nat := (ps.map (·.n)).sum
def allP (ps : List Prt) : List Value := ps.flatMap (·.vs)

theorem Prts.below {s : Nat} {W W' : World} {q : Nat} {ps : List Prt} (h : Prts s W q ps) (hb : Below W.heap.size W W') (hq : q < W.heap.size) : Prts s W' q ps := fun j p hp => by
  obtain ⟨h1, h2⟩ := h j p hp
  exact ⟨by rw [hb.cell (p := ⟨q, j, none⟩) hq]; exact h1, h2.below hb⟩

theorem sumP_take {ps : List Prt} {j : Nat} {p : Prt} (h : ps[j]? = some p) : sumP (ps.take (j + 1)) = sumP (ps.take j) + p.n := by
  rw [List.take_add_one, h]
  simp [sumP]
theorem allP_take {ps : List Prt} {j : Nat} {p : Prt} (h : ps[j]? = some p) : allP (ps.take (j + 1)) = allP (ps.take j) ++ p.vs := by
  rw [List.take_add_one, h]
  simp [allP]
theorem sumP_le {ps : List Prt} (j : Nat) : sumP (ps.take j) ≤ sumP ps := by
  have h : sumP ps = sumP (ps.take j) + sumP (ps.drop j) := by
    unfold sumP
    rw [← List.sum_append, ← List.map_append, List.take_append_drop]
  omega

set_option maxRecDepth 100000 in
set_option maxHeartbeats 2000000 in
theorem grow_en (W : World) (k : Nat) (hk : k ≤ 10000) :
    Calls Try.prog 74 #[.slice none 0 0, .int .i64 (k : Int)] W fun e w' => ∃ a' c', e = .returned (.slice a' 0 c') ∧ RowS 2 w' a' 0 c' [] ∧ Sub (SlF 2 a' c') (Fr W.heap.size) ∧ Below W.heap.size W w' := by
  obtain ⟨ie, E⟩ := elE
  by_cases h0 : k = 0
  · subst h0
    go_enter Try.func74, Try.ntmps74
    go_wp2
    go_ret
    exact ⟨none, 0, rfl, RowS.nil _ _, fun k p h => absurd h (slf_nil _ _ _ _), Below.refl _ _⟩
  · obtain ⟨c', W', zs, hrun, hG, hr, hzl, hb, hlt⟩ := row_grow E (RowS.nil 2 W) k (by omega) (by omega) (by omega)
    simp only [Nat.zero_add, List.nil_append] at hrun hr hG
    have hcut := hr.cut (i := 0) (k := c') (Nat.zero_le _) (Nat.zero_le _) (Nat.le_refl _)
    rw [Nat.zero_mul, List.take_zero] at hcut
    have HEND := Lib.hid (And.intro hcut hb)
    have HRUN := Lib.hid hrun
    have z1 : (0 : Int) < (k : Int) := by omega
    have z2 : ¬ (k : Int) < 0 := by omega
    have hcm : c' ≤ 9223372036854775807 := by have := hr.cm; unfold maxLen at this; omega
    clear hrun hr hcut hb
    go_enter Try.func74, Try.ntmps74
    go_wp2_with (at_builtin; refine append_stepW2 rfl _ _ 33 3 rfl _ _ _ _ rfl rfl (HRUN.out _) ?_)
    go_ret
    exact ⟨_, _, rfl, HEND.out.1, fun k p h => by have := (slf_some.1 h).1; exact Nat.le_of_eq this.symm, HEND.out.2⟩

set_option maxRecDepth 100000 in
set_option maxHeartbeats 4000000 in
theorem cat_en (W : World) (q m mc : Nat) (ps : List Prt) (hm : ps.length = m) (hs : sumP ps ≤ 1000) (hmm : m ≤ 1000) (hq : q < W.heap.size) (h : Prts 2 W q ps) :
    Calls Try.prog 66 #[.slice (some ⟨q, 0, none⟩) m mc] W fun e w' => ∃ a' c', e = .returned (.slice a' (sumP ps) c') ∧ RowS 2 w' a' (sumP ps) c' (allP ps) ∧ Sub (SlF 2 a' c') (Fr W.heap.size) ∧ Below W.heap.size W w' := by
  obtain ⟨ie, E⟩ := elE
  have HP := Lib.hid h
  have HM := Lib.hid hm
  have HS := Lib.hid hs
  have HQ := Lib.hid hq
  clear h hm hs hq
  go_enter Try.func66, Try.ntmps66
  go_wp2_with fail
  go_loopg [3, 5, 11] m (fun gg s3 _ s11 wr => ∃ j : Nat, s11 = .int .i64 j ∧ s3 = .int .i64 (sumP (ps.take j) : Nat) ∧ j ≤ m ∧ m - j ≤ gg ∧ Hid (Below W.heap.size W wr))
  case atStart => exact ⟨0, rfl, rfl, Nat.zero_le _, by omega, Lib.hid (Below.refl _ _)⟩
  case round =>
    obtain ⟨j, rfl, rfl, hjm, hgg, BW⟩ := hrel
    by_cases hlt : j < m
    · have hltz : (j : Int) < (m : Int) := by omega
      have z1 : ¬ m ≤ j := by omega
      obtain ⟨p, hp⟩ : ∃ p, ps[j]? = some p := ⟨ps[j]'(by rw [HM.out]; exact hlt), by simp⟩
      have hc := ((HP.out.below BW.out HQ.out) j p hp).1
      have hsum := sumP_take hp
      have hle := sumP_le (ps := ps) (j + 1)
      have hs := HS.out
      obtain ⟨S, hS⟩ : ∃ S, sumP (ps.take j) = S := ⟨_, rfl⟩
      rw [hS] at hsum ⊢
      have HSUM := Lib.hid hsum
      have z2 : IntKind.i64.wrap ((S : Int) + (p.n : Int)) = (S : Int) + (p.n : Int) := by rw [IntKind.wrap_i64]; omega
      have z3 : ¬ (S : Int) + (p.n : Int) < 0 := by omega
      clear hsum hp hle hs
      go_wp2_with fail
      go_roundg (m - (j + 1))
      case measure => omega
      case rel => exact ⟨j + 1, by go_num, by rw [HSUM.out]; go_num, by omega, Nat.le_refl _, BW⟩
    · have hltz : ¬ (j : Int) < (m : Int) := by omega
      obtain rfl : j = m := by omega
      have et : ps.take j = ps := List.take_of_length_le (by rw [HM.out]; exact Nat.le_refl _)
      rw [et]
      have hgr := fun (W' : World) => grow_en W' (sumP ps) (by have := HS.out; omega)
      obtain ⟨S, hS⟩ : ∃ S, sumP ps = S := ⟨_, rfl⟩
      have HSS := Lib.hid hS
      rw [hS] at hgr
      rw [hS]
      clear et hS
      go_wp2_with fail
      refine (hgr _).mono ?_
      rintro e w2 ⟨a0, c0, rfl, hr0, hsub0, hb0⟩
      have HR0 := Lib.hid hr0
      have HB0 : Hid (Below W.heap.size W w2) := Lib.hid (BW.out.trans (hb0.mono BW.out.size))
      have HSUB0 : Hid (Sub (SlF 2 a0 c0) (Fr W.heap.size)) := Lib.hid (fun k p hk => Nat.le_trans BW.out.size (hsub0 k p hk))
      clear hr0 hsub0 hb0 hgr
      go_wp2_with fail
      go_loopg [6, 8, 27] j (fun gg s6 _ s27 wr => ∃ (i : Nat) (a : Option Addr) (c : Nat), s27 = .int .i64 i ∧ s6 = .slice a (sumP (ps.take i)) c ∧ i ≤ j ∧ j - i ≤ gg ∧ Hid (RowS 2 wr a (sumP (ps.take i)) c (allP (ps.take i))) ∧ Hid (Sub (SlF 2 a c) (Fr W.heap.size)) ∧ Hid (Below W.heap.size W wr))
      case atStart => exact ⟨0, a0, c0, rfl, rfl, Nat.zero_le _, by omega, HR0, HSUB0, HB0⟩
      case round =>
        obtain ⟨i, a, c, rfl, rfl, hij, hgg2, HR, HSUB, BW2⟩ := hrel
        by_cases hlt2 : i < j
        · have hltz2 : (i : Int) < (j : Int) := by omega
          have z1 : ¬ j ≤ i := by omega
          obtain ⟨p, hp⟩ : ∃ p, ps[i]? = some p := ⟨ps[i]'(by rw [HM.out]; exact hlt2), by simp⟩
          obtain ⟨hc, hrp⟩ := (HP.out.below BW2.out HQ.out) i p hp
          have hsum := sumP_take hp
          have hle := sumP_le (ps := ps) (i + 1)
          have hs := HS.out
          obtain ⟨a', c', W', hrun, hr, hsub, ht⟩ := row_app E HR.out _ p.n p.vs (hrp.src E) (by omega)
          rw [← hsum, ← allP_take hp] at hr
          rw [← hsum] at hrun
          obtain ⟨S, hS⟩ : ∃ S, sumP (ps.take i) = S := ⟨_, rfl⟩
          rw [hS] at hrun ⊢
          have HRUN := Lib.hid hrun
          have HR' := Lib.hid hr
          have HB' : Hid (Below W.heap.size W W') := Lib.hid (BW2.out.trans ((ht.touch (G := fun k => W.heap.size ≤ k) (fun k p _ hf => HSUB.out k p hf)).below (fun _ hk => hk) BW2.out.size))
          have HSUB' : Hid (Sub (SlF 2 a' c') (Fr W.heap.size)) := Lib.hid (fun k p hk => by
            rcases hsub k p hk with h | h
            · exact HSUB.out k p h
            · exact Nat.le_trans BW2.out.size h)
          clear hsum hp hle hs hrp hrun hr hsub ht hS
          go_wp2_with (at_builtin; refine append_stepW2 rfl _ _ 33 33 rfl _ _ _ _ rfl rfl (HRUN.out _) ?_)
          go_roundg (j - (i + 1))
          case measure => omega
          case rel => exact ⟨i + 1, a', c', by go_num, rfl, by omega, Nat.le_refl _, HR', HSUB', HB'⟩
        · have hltz2 : ¬ (i : Int) < (j : Int) := by omega
          obtain rfl : i = j := by omega
          have et : ps.take i = ps := List.take_of_length_le (by rw [HM.out]; exact Nat.le_refl _)
          rw [et] at HR ⊢
          rw [HSS.out] at HR ⊢
          go_wp2_with fail
          go_ret
          rw [HSS.out]
          exact ⟨a, c, rfl, HR.out, HSUB.out, BW2.out⟩

set_option maxRecDepth 100000 in
set_option maxHeartbeats 2000000 in
theorem grow_no (W : World) (k : Nat) (hk : k ≤ 10000) :
    Calls Try.prog 75 #[.slice none 0 0, .int .i64 (k : Int)] W fun e w' => ∃ a' c', e = .returned (.slice a' 0 c') ∧ RowS 1 w' a' 0 c' [] ∧ Sub (SlF 1 a' c') (Fr W.heap.size) ∧ Below W.heap.size W w' := by
  obtain ⟨ie, E⟩ := elP
  by_cases h0 : k = 0
  · subst h0
    go_enter Try.func75, Try.ntmps75
    go_wp2
    go_ret
    exact ⟨none, 0, rfl, RowS.nil _ _, fun k p h => absurd h (slf_nil _ _ _ _), Below.refl _ _⟩
  · obtain ⟨c', W', zs, hrun, hG, hr, hzl, hb, hlt⟩ := row_grow E (RowS.nil 1 W) k (by omega) (by omega) (by omega)
    simp only [Nat.zero_add, List.nil_append] at hrun hr hG
    have hcut := hr.cut (i := 0) (k := c') (Nat.zero_le _) (Nat.zero_le _) (Nat.le_refl _)
    rw [Nat.zero_mul, List.take_zero] at hcut
    have HEND := Lib.hid (And.intro hcut hb)
    have HRUN := Lib.hid hrun
    have z1 : (0 : Int) < (k : Int) := by omega
    have z2 : ¬ (k : Int) < 0 := by omega
    have hcm : c' ≤ 9223372036854775807 := by have := hr.cm; unfold maxLen at this; omega
    clear hrun hr hcut hb
    go_enter Try.func75, Try.ntmps75
    go_wp2_with (at_builtin; refine append_stepW2 rfl _ _ 54 3 rfl _ _ _ _ rfl rfl (HRUN.out _) ?_)
    go_ret
    exact ⟨_, _, rfl, HEND.out.1, fun k p h => by have := (slf_some.1 h).1; exact Nat.le_of_eq this.symm, HEND.out.2⟩

set_option maxRecDepth 100000 in
set_option maxHeartbeats 4000000 in
theorem cat_no (W : World) (q m mc : Nat) (ps : List Prt) (hm : ps.length = m) (hs : sumP ps ≤ 1000) (hmm : m ≤ 1000) (hq : q < W.heap.size) (h : Prts 1 W q ps) :
    Calls Try.prog 67 #[.slice (some ⟨q, 0, none⟩) m mc] W fun e w' => ∃ a' c', e = .returned (.slice a' (sumP ps) c') ∧ RowS 1 w' a' (sumP ps) c' (allP ps) ∧ Sub (SlF 1 a' c') (Fr W.heap.size) ∧ Below W.heap.size W w' := by
  obtain ⟨ie, E⟩ := elP
  have HP := Lib.hid h
  have HM := Lib.hid hm
  have HS := Lib.hid hs
  have HQ := Lib.hid hq
  clear h hm hs hq
  go_enter Try.func67, Try.ntmps67
  go_wp2_with fail
  go_loopg [3, 5, 11] m (fun gg s3 _ s11 wr => ∃ j : Nat, s11 = .int .i64 j ∧ s3 = .int .i64 (sumP (ps.take j) : Nat) ∧ j ≤ m ∧ m - j ≤ gg ∧ Hid (Below W.heap.size W wr))
  case atStart => exact ⟨0, rfl, rfl, Nat.zero_le _, by omega, Lib.hid (Below.refl _ _)⟩
  case round =>
    obtain ⟨j, rfl, rfl, hjm, hgg, BW⟩ := hrel
    by_cases hlt : j < m
    · have hltz : (j : Int) < (m : Int) := by omega
      have z1 : ¬ m ≤ j := by omega
      obtain ⟨p, hp⟩ : ∃ p, ps[j]? = some p := ⟨ps[j]'(by rw [HM.out]; exact hlt), by simp⟩
      have hc := ((HP.out.below BW.out HQ.out) j p hp).1
      have hsum := sumP_take hp
      have hle := sumP_le (ps := ps) (j + 1)
      have hs := HS.out
      obtain ⟨S, hS⟩ : ∃ S, sumP (ps.take j) = S := ⟨_, rfl⟩
      rw [hS] at hsum ⊢
      have HSUM := Lib.hid hsum
      have z2 : IntKind.i64.wrap ((S : Int) + (p.n : Int)) = (S : Int) + (p.n : Int) := by rw [IntKind.wrap_i64]; omega
      have z3 : ¬ (S : Int) + (p.n : Int) < 0 := by omega
      clear hsum hp hle hs
      go_wp2_with fail
      go_roundg (m - (j + 1))
      case measure => omega
      case rel => exact ⟨j + 1, by go_num, by rw [HSUM.out]; go_num, by omega, Nat.le_refl _, BW⟩
    · have hltz : ¬ (j : Int) < (m : Int) := by omega
      obtain rfl : j = m := by omega
      have et : ps.take j = ps := List.take_of_length_le (by rw [HM.out]; exact Nat.le_refl _)
      rw [et]
      have hgr := fun (W' : World) => grow_no W' (sumP ps) (by have := HS.out; omega)
      obtain ⟨S, hS⟩ : ∃ S, sumP ps = S := ⟨_, rfl⟩
      have HSS := Lib.hid hS
      rw [hS] at hgr
      rw [hS]
      clear et hS
      go_wp2_with fail
      refine (hgr _).mono ?_
      rintro e w2 ⟨a0, c0, rfl, hr0, hsub0, hb0⟩
      have HR0 := Lib.hid hr0
      have HB0 : Hid (Below W.heap.size W w2) := Lib.hid (BW.out.trans (hb0.mono BW.out.size))
      have HSUB0 : Hid (Sub (SlF 1 a0 c0) (Fr W.heap.size)) := Lib.hid (fun k p hk => Nat.le_trans BW.out.size (hsub0 k p hk))
      clear hr0 hsub0 hb0 hgr
      go_wp2_with fail
      go_loopg [6, 8, 27] j (fun gg s6 _ s27 wr => ∃ (i : Nat) (a : Option Addr) (c : Nat), s27 = .int .i64 i ∧ s6 = .slice a (sumP (ps.take i)) c ∧ i ≤ j ∧ j - i ≤ gg ∧ Hid (RowS 1 wr a (sumP (ps.take i)) c (allP (ps.take i))) ∧ Hid (Sub (SlF 1 a c) (Fr W.heap.size)) ∧ Hid (Below W.heap.size W wr))
      case atStart => exact ⟨0, a0, c0, rfl, rfl, Nat.zero_le _, by omega, HR0, HSUB0, HB0⟩
      case round =>
        obtain ⟨i, a, c, rfl, rfl, hij, hgg2, HR, HSUB, BW2⟩ := hrel
        by_cases hlt2 : i < j
        · have hltz2 : (i : Int) < (j : Int) := by omega
          have z1 : ¬ j ≤ i := by omega
          obtain ⟨p, hp⟩ : ∃ p, ps[i]? = some p := ⟨ps[i]'(by rw [HM.out]; exact hlt2), by simp⟩
          obtain ⟨hc, hrp⟩ := (HP.out.below BW2.out HQ.out) i p hp
          have hsum := sumP_take hp
          have hle := sumP_le (ps := ps) (i + 1)
          have hs := HS.out
          obtain ⟨a', c', W', hrun, hr, hsub, ht⟩ := row_app E HR.out _ p.n p.vs (hrp.src E) (by omega)
          rw [← hsum, ← allP_take hp] at hr
          rw [← hsum] at hrun
          obtain ⟨S, hS⟩ : ∃ S, sumP (ps.take i) = S := ⟨_, rfl⟩
          rw [hS] at hrun ⊢
          have HRUN := Lib.hid hrun
          have HR' := Lib.hid hr
          have HB' : Hid (Below W.heap.size W W') := Lib.hid (BW2.out.trans ((ht.touch (G := fun k => W.heap.size ≤ k) (fun k p _ hf => HSUB.out k p hf)).below (fun _ hk => hk) BW2.out.size))
          have HSUB' : Hid (Sub (SlF 1 a' c') (Fr W.heap.size)) := Lib.hid (fun k p hk => by
            rcases hsub k p hk with h | h
            · exact HSUB.out k p h
            · exact Nat.le_trans BW2.out.size h)
          clear hsum hp hle hs hrp hrun hr hsub ht hS
          go_wp2_with (at_builtin; refine append_stepW2 rfl _ _ 54 54 rfl _ _ _ _ rfl rfl (HRUN.out _) ?_)
          go_roundg (j - (i + 1))
          case measure => omega
          case rel => exact ⟨i + 1, a', c', by go_num, rfl, by omega, Nat.le_refl _, HR', HSUB', HB'⟩
        · have hltz2 : ¬ (i : Int) < (j : Int) := by omega
          obtain rfl : i = j := by omega
          have et : ps.take i = ps := List.take_of_length_le (by rw [HM.out]; exact Nat.le_refl _)
          rw [et] at HR ⊢
          rw [HSS.out] at HR ⊢
          go_wp2_with fail
          go_ret
          rw [HSS.out]
          exact ⟨a, c, rfl, HR.out, HSUB.out, BW2.out⟩

end Go.Proofs.Ytfikaccgpjiedaa

/-
  slices.Replace of one node by two.
-/
namespace Go.Proofs.Ytfikaccgpjiedaa
open Go.RowKit Go.Lib

theorem run_overlaps_apart2 {P : Program} (w : World) (tS tR e : TypeId) (ht : P.underlying tS = some (.slice e)) (size : Nat) (hz : ∀ w, (Go.sizeOf e).run P w = .ok size w)
    (a b : Addr) (la ca lb cb : Nat) (hne : a.block ≠ b.block) (tA tB : TypeId) (kA kB : Nat)
    (hsa : w.shape? a.block = some (tA, kA)) (hsb : w.shape? b.block = some (tB, kB)) (hkA : kA ≠ 0) (hkB : kB ≠ 0)
    (hfb : w.frozen? b = false) (hfe : w.frozen? { block := b.block, off := kB } = false) :
    (Extern.SlicesOverlaps.overlaps #[tS, tS] #[tR] #[.slice (some a) la ca, .slice (some b) lb cb]).run P w = .ok (.bool false) w := by
  have hnb : (a.block != b.block) = true := by simpa using hne
  have hnb' : (a.block == b.block) = false := by simpa using hne
  change Sem.run P (α := Value) (do
    let some t := (#[tS, tS] : Array TypeId)[0]? | stuck "slices.overlaps: no parameter types"
    let .slice elem ← underlying t | stuck "slices.overlaps: slice type expected"
    let size ← sizeOf elem
    match (some a : Option Addr), (some b : Option Addr) with
    | some a, some b =>
      if la = 0 ∨ lb = 0 ∨ size = 0 then pure (Value.bool false)
      else if a.block != b.block && (← frozen a) && (← frozen b) then unsupported .addressObserved
      else do
        if a.block != b.block then do
          noView a; noView b
          if ← mayBeOne a b then return Value.bool ((← choose (.extern "sameAddr.stringBytes" 2)) == 1)
        pure (Value.bool (a.block == b.block && a.off < b.off + lb * size && b.off < a.off + la * size))
    | _, _ => pure (Value.bool false)) w = _
  by_cases h0 : la = 0 ∨ lb = 0 ∨ size = 0
  · simp [run_underlying ht, hz, h0]
  · cases kB with
    | zero => exact absurd rfl hkB
    | succ kB =>
      cases kA with
      | zero => exact absurd rfl hkA
      | succ kA =>
        simp [run_underlying ht, hz, h0, hnb, hnb', frozen, noView, viewAt, mayBeOne, stringish, shape, Sem.run, hsa, hsb, hfb, hfe]
        try (cases w.frozen? a <;> simp [frozen, Sem.run, hsa, hsb, hfb, hfe])
        all_goals try (cases w.frozen? { block := a.block, off := kA + 1 } <;> simp)

/-- What stands with two elements in the place of element i. -/
def repC (vs : List Value) (i : Nat) (news : List Value) : List Value := vs.take i ++ news ++ vs.drop (i + 1)

def rep_says (W w' : World) (e : Ending) (a : Option Addr) (n c i : Nat) (vs : List Value) (v0 v1 : Value) : Prop :=
  ∃ a' c', e = .returned (.slice a' (n + 1) c') ∧ RowS 1 w' a' (n + 1) c' (repC vs i [v0, v1]) ∧ Sub (SlF 1 a' c') (Or2 (SlF 1 a c) (Fr W.heap.size)) ∧ TouchC (SlF 1 a c) W w'

set_option maxRecDepth 100000 in
set_option maxHeartbeats 2000000 in
theorem rep_end (W : World) (b o n c i : Nat) (vs : List Value) (vb vc : Nat) (v0 v1 : Value) (h : RowS 1 W (some ⟨b, o, none⟩) n c vs) (hn : n ≤ 1000) (hi : i + 1 = n) (hv : Lit W vb [v0, v1]) :
    Calls Try.prog 43 #[.slice (some ⟨b, o, none⟩) n c, .int .i64 (i : Int), .int .i64 ((i : Int) + 1), .slice (some ⟨vb, 0, none⟩) 2 vc] W fun e w' => rep_says W w' e (some ⟨b, o, none⟩) n c i vs v0 v1 := by
  obtain ⟨ie, E⟩ := elP
  have hnn := h.nc
  have hl := h.len
  have hsrc : Src Try.prog 1 54 (.slice (some ⟨vb, 0, none⟩) 2 vc) 2 [v0, v1] W := Src.ofSlice W E.ut ⟨vb, 0, none⟩ 2 vc [v0, v1] (by simp) hv.at'.add hv.one
  obtain ⟨a', c', W', hrun, hr, hsub, ht⟩ := row_app E (h.cut (i := i) (k := c) (by omega) (by omega) (Nat.le_refl _)) _ 2 _ hsrc (by omega)
  have e0 : repC vs i [v0, v1] = vs.take (i * 1) ++ [v0, v1] := by
    unfold repC
    rw [List.drop_eq_nil_of_le (by rw [hl]; omega), Nat.mul_one]
    simp
  subst hi
  rw [Nat.mul_one] at hr e0
  have HRUN := Lib.hid hrun
  have HEND := Lib.hid (And.intro hr (And.intro hsub ht))
  have hcm : c ≤ 9223372036854775807 := by have := h.cm; unfold maxLen at this; omega
  unfold rep_says
  rw [e0]
  have z1 : ¬ (i : Int) = (i : Int) + 1 := by omega
  have z6 : IntKind.i64.wrap ((i : Int) + 1) = (i : Int) + 1 := by rw [IntKind.wrap_i64]; omega
  have z7 : ((i : Int) + 1).toNat = i + 1 := by omega
  have z8 : (0 : Int) ≤ (i : Int) + 1 := by omega
  have z9 : i ≤ i + 1 := by omega
  have z10 : ¬ ((i : Int) + 2 < (i : Int) + 1) := by omega
  have z11 : i ≤ c := by omega
  clear hrun hr hsub ht hsrc hv h
  go_enter Try.func43, Try.ntmps43
  go_wp2_with (at_builtin; refine append_stepW2 rfl _ _ 54 54 rfl _ _ _ _ rfl rfl (HRUN.out _) ?_)
  all_goals (go_ret; (try subst_vars); exact ⟨a', c', rfl, HEND.out.1, HEND.out.2.1, HEND.out.2.2⟩)


set_option maxRecDepth 100000 in
set_option maxHeartbeats 4000000 in
theorem rep_grow (W : World) (b o n c i : Nat) (vs : List Value) (vb vc : Nat) (v0 v1 : Value) (h : RowS 1 W (some ⟨b, o, none⟩) n c vs) (hn : n ≤ 1000) (hi : i + 1 < n) (hc : c < n + 1) (hv : Lit W vb [v0, v1]) :
    Calls Try.prog 43 #[.slice (some ⟨b, o, none⟩) n c, .int .i64 (i : Int), .int .i64 ((i : Int) + 1), .slice (some ⟨vb, 0, none⟩) 2 vc] W fun e w' => rep_says W w' e (some ⟨b, o, none⟩) n c i vs v0 v1 := by
  obtain ⟨ie, E⟩ := elP
  obtain rfl : c = n := by have := h.nc; omega
  have hcut := (h.below (below_drw W)).cut (i := i) (k := c) (by omega) (by omega) (Nat.le_refl _)
  obtain ⟨G, W1, zs, hrun, hG, hr, hzl, hb, hlt⟩ := row_grow E hcut (c + 1 - i) (by omega) (by omega) (by omega)
  have hik : i + (c + 1 - i) = c + 1 := by omega
  rw [hik] at hrun hG hr
  have hkk : (((c + 1 - i : Nat) : Nat) : Int) = (c : Int) + 1 - (i : Int) := by omega
  rw [hkk] at hrun
  have hl := h.len
  obtain ⟨N, hN⟩ : ∃ N, W.heap.size = N := ⟨_, rfl⟩
  rw [show W.drew.heap.size = N from hN] at hrun hr hb hlt
  replace hb : Below N W W1 := (by rw [← hN]; exact below_drw W : Below N W W.drew).trans hb
  have hvb : vb < N := by rw [← hN]; exact hv.lt
  have hbN : b < N := by rw [← hN]; exact h.lt b (o + 0) (slf_some.2 ⟨rfl, by omega, by omega⟩)
  have hR1 : Room W1 N 0 (G * 1) := by
    rcases hr.at' with ⟨e, _⟩ | ⟨_, _, e, _, _, h5⟩
    · cases e
    · cases e; exact h5
  have hlv := hv.touch (F := fun _ _ => False) (TouchC.of_below (hb.mono (Nat.le_of_eq hN) |>.trans (Below.refl _ _) |> fun h => by rwa [hN])) (fun _ h => h)
  have hcs : Cells W1 b o vs := by
    rcases h.at' with ⟨e, _⟩ | ⟨_, _, e, _, h4, _⟩
    · cases e
    · cases e; exact h4.below (by rw [hN]; exact hb)
  have hA : ∀ ty dn dc, 2 ≤ dn → (Builtin.copy_ #[54, 54] ty #[.slice (some ⟨N, i, none⟩) dn dc, .slice (some ⟨vb, 0, none⟩) 2 vc]).run Try.prog W1 = .ok (goInt 2) (W1.setCells N i [v0, v1]) := fun ty dn dc hd =>
    row_copy E (m := 2) (fun j hj => by have := hR1 (i + j) (by omega); rwa [Nat.zero_add] at this) rfl (min_lit (Nat.le_refl _) hd (.inl rfl)) hlv.one hlv.at'.add ty
  obtain ⟨hr2, ht2⟩ := hr.splice (j := i) (news := [v0, v1]) (by simp; omega) hv.one
  rw [Nat.zero_add] at hr2 ht2
  obtain ⟨W2, hW2⟩ : ∃ W2, W1.setCells N i [v0, v1] = W2 := ⟨_, rfl⟩
  rw [hW2] at hA hr2 ht2
  have hR2 : Room W2 N 0 (G * 1) := by
    rcases hr2.at' with ⟨e, _⟩ | ⟨_, _, e, _, _, h5⟩
    · cases e
    · cases e; exact h5
  have hcs2 : Cells W2.drew b o vs := (hcs.touch ht2 (fun j _ hf => by have := (slf_some.1 hf).1; omega)).below (below_drw _)
  have hB : ∀ ty dn dc sc, c - (i + 1) ≤ dn → (Builtin.copy_ #[54, 54] ty #[.slice (some ⟨N, i + 2, none⟩) dn dc, .slice (some ⟨b, o + (i + 1), none⟩) (c - (i + 1)) sc]).run Try.prog W2.drew = .ok (goInt (c - (i + 1) : Nat)) (W2.drew.setCells N (i + 2) (vs.drop (i + 1))) := fun ty dn dc sc hd =>
    row_copy E (m := c - (i + 1)) (fun j hj => by have := hR2 (i + 2 + j) (by omega); rw [Nat.zero_add] at this; exact this) (by rw [List.length_drop, hl]; omega) (min_lit (Nat.le_refl _) hd (.inl rfl)) (fun v hv' => h.one v (List.mem_of_mem_drop hv')) (hcs2.drop _).add ty
  obtain ⟨hr3, ht3⟩ := (hr2.below (below_drw _)).splice (j := i + 2) (news := vs.drop (i + 1)) (by rw [List.length_drop, hl]; omega) (fun v hv' => h.one v (List.mem_of_mem_drop hv'))
  rw [Nat.zero_add] at hr3 ht3
  obtain ⟨W3, hW3⟩ : ∃ W3, W2.drew.setCells N (i + 2) (vs.drop (i + 1)) = W3 := ⟨_, rfl⟩
  rw [hW3] at hB hr3 ht3
  have hcells : Ytfikaccgpjiedaa.splice (Ytfikaccgpjiedaa.splice (vs.take (i * 1) ++ zs) i [v0, v1]) (i + 2) (vs.drop (i + 1)) = repC vs i [v0, v1] := by
    have e1 := splice_app (vs.take (i * 1)) zs [v0, v1]
    rw [List.length_take, show min (i * 1) vs.length = i by omega] at e1
    rw [e1]
    have e2 := splice_app (vs.take (i * 1) ++ [v0, v1]) (zs.drop [v0, v1].length) (vs.drop (i + 1))
    rw [List.length_append, List.length_take, show min (i * 1) vs.length + [v0, v1].length = i + 2 by simp; omega] at e2
    have e3 : List.drop (List.drop (i + 1) vs).length (List.drop [v0, v1].length zs) = [] := List.drop_eq_nil_of_le (by rw [List.length_drop, List.length_drop, hzl, hl]; simp; omega)
    rw [e2, e3, List.append_nil, Nat.mul_one]
    rfl
  rw [hcells] at hr3
  have hend : Below N W W3 := (hb.trans ((ht2.trans (G := SlF 1 (some ⟨N, 0, none⟩) G) ((TouchC.refl _ _).drew.trans ht3 (fun _ _ _ h => h)) (fun _ _ _ h => h)).touch (G := fun k => k = N) (fun k p _ hf => (slf_some.1 hf).1) |>.below (B := N) (fun k hk => by omega) (by omega)))
  have HEND := Lib.hid (And.intro hr3 hend)
  have hA' := fun ty dc => hA ty (c + 1 - i) dc (by omega)
  have HB := Lib.hid (fun ty dc sc => hB ty (c + 1 - (i + 2)) dc sc (by omega))
  have HRUN := Lib.hid hrun
  have HN := Lib.hid hN
  unfold rep_says
  have mixed : Try.prog.follows Departure.mixedOrders = true := by kernel_rfl
  have z1 : ¬ (i : Int) = (i : Int) + 1 := by omega
  have z2 : ¬ (i : Int) + 1 = (c : Int) := by omega
  have z3 : ¬ G = i := by omega
  have z4 : ¬ G = i + 2 := by omega
  have z5 : ¬ c = i := by omega
  have z5b : ¬ c = i + 1 := by omega
  have z6 : IntKind.i64.wrap ((i : Int) + 1) = (i : Int) + 1 := by rw [IntKind.wrap_i64]; omega
  have z6b : IntKind.i64.wrap ((i : Int) + 2) = (i : Int) + 2 := by rw [IntKind.wrap_i64]; omega
  have z6c : IntKind.i64.wrap ((i : Int) + 2 + ((c - (i + 1) : Nat) : Int)) = (c : Int) + 1 := by rw [IntKind.wrap_i64]; omega
  have z6d : IntKind.i64.wrap ((c : Int) + 1 - (i : Int)) = (c : Int) + 1 - (i : Int) := by rw [IntKind.wrap_i64]; omega
  have z7 : ((i : Int) + 1).toNat = i + 1 := by omega
  have z7b : ((i : Int) + 2).toNat = i + 2 := by omega
  have z8 : (0 : Int) ≤ (i : Int) + 1 := by omega
  have z8b : (0 : Int) ≤ (i : Int) + 2 := by omega
  have z9 : i ≤ c := by omega
  have z9b : (i : Int) + 1 ≤ (c : Int) := by omega
  have z10 : (c : Int) < (c : Int) + 1 := by omega
  have z11 : (i : Int) + 2 ≤ (c : Int) + 1 := by omega
  have z12 : i + 2 ≤ c + 1 := by omega
  have hcm : G ≤ 9223372036854775807 := by have := hr.cm; unfold maxLen at this; omega
  clear hr3 hend hA hB hrun hr hr2 ht2 ht3 hW3 hW2 hcells hcs2 hcs hlv hv h hcut hR1 hR2 hb hN hl hzl
  go_enter Try.func43, Try.ntmps43
  go_wp2_with fail
  go_region
  go_wp2_with (at_builtin; refine append_stepW2 rfl _ _ 54 3 rfl _ _ _ _ rfl rfl (HRUN.out _) ?_)
  go_region_law_o (refine step_copy_runI rfl _ _ 54 54 rfl (.slice (some ⟨N, i + 2, none⟩) (c + 1 - (i + 2)) (G - (i + 2))) (.slice (some ⟨b, o + (i + 1), none⟩) (c - (i + 1)) (c - (i + 1))) (by simp [Act.eval, Act.put]) (by simp [Act.eval, Act.put]) (HB.out _ _ _) ?_)
  all_goals
    go_wp2
    go_ret
    refine ⟨_, _, rfl, HEND.out.1, ?_, ?_⟩
    · exact fun k p hk => .inr (by have := (slf_some.1 hk).1; rw [HN.out]; exact Nat.le_of_eq this.symm)
    · exact TouchC.of_below (by rw [HN.out]; exact HEND.out.2)

set_option maxRecDepth 100000 in
set_option maxHeartbeats 4000000 in
theorem rep_room (W : World) (b o n c i : Nat) (vs : List Value) (vb vc : Nat) (v0 v1 : Value) (h : RowS 1 W (some ⟨b, o, none⟩) n c vs) (hn : n ≤ 1000) (hi : i + 1 < n) (hc : n + 1 ≤ c) (hv : Lit W vb [v0, v1]) (hne : vb ≠ b) :
    Calls Try.prog 43 #[.slice (some ⟨b, o, none⟩) n c, .int .i64 (i : Int), .int .i64 ((i : Int) + 1), .slice (some ⟨vb, 0, none⟩) 2 vc] W fun e w' => rep_says W w' e (some ⟨b, o, none⟩) n c i vs v0 v1 := by
  obtain ⟨ie, E⟩ := elP
  have hl := h.len
  have h' := h.below (below_drw W)
  have hv' := hv.below (below_drw W)
  obtain ⟨hcs, hro, hb⟩ : Cells W.drew b o vs ∧ Room W.drew b o (c * 1) ∧ b < W.heap.size := by
    rcases h'.at' with ⟨e, _⟩ | ⟨_, _, e, h3, h4, h5⟩
    · cases e
    · cases e; exact ⟨h4, h5, h3⟩
  have hov : ∀ lb cb, (callFunc 57 #[.slice (some ⟨b, o + (i + 2), none⟩) lb cb, .slice (some ⟨vb, 0, none⟩) 2 vc]).run Try.prog W.drew = .ok (.value (.bool false)) W.drew := fun lb cb => by
    obtain ⟨tA, kA, hsa, hkA, _⟩ := World.shape?_of_cell? (hv'.at' 0 v0 rfl)
    obtain ⟨u, hu⟩ := Option.isSome_iff_exists.1 (hro 0 (by omega)).1
    obtain ⟨tB, kB, hsb, hkB, _⟩ := World.shape?_of_cell? hu
    rw [run_callFunc_extern Try.func57 (by kernel_rfl) (by kernel_rfl) (by kernel_rfl) (e := Extern.SlicesOverlaps.overlaps #[54, 54] #[4]) (by kernel_rfl),
      run_overlaps_apart2 W.drew 54 4 51 E.ut 1 E.so ⟨b, o + (i + 2), none⟩ ⟨vb, 0, none⟩ lb cb 2 vc (fun e => hne e.symm) tB tA kB kA hsb hsa (by omega) (by omega) (hv'.fz 0) (hv'.fz kA)]
    rfl
  -- the two copies
  have hA : ∀ ty dc sc, (Builtin.copy_ #[54, 54] ty #[.slice (some ⟨b, o + (i + 2), none⟩) (n + 1 - (i + 2)) dc, .slice (some ⟨b, o + (i + 1), none⟩) (n - (i + 1)) sc]).run Try.prog W.drew.drew = .ok (goInt (n - (i + 1) : Nat)) (W.drew.drew.setCells b (o + (i + 2)) (vs.drop (i + 1))) := fun ty dc sc =>
    row_copy E (m := n - (i + 1)) (fun j hj => by rw [Nat.add_assoc]; exact hro _ (by omega)) (by rw [List.length_drop, hl]; omega) (min_lit (by omega) (by omega) (by omega)) (fun v hv' => h.one v (List.mem_of_mem_drop hv')) ((hcs.drop _).below (below_drw _)).add ty
  obtain ⟨hr2, ht2⟩ := (h'.below (below_drw _)).over (n' := n + 1) (j := i + 2) (news := vs.drop (i + 1)) (by omega) (by rw [List.length_drop, hl]; omega) hc (fun v hv' => h.one v (List.mem_of_mem_drop hv'))
  obtain ⟨W2, hW2⟩ : ∃ W2, W.drew.drew.setCells b (o + (i + 2)) (vs.drop (i + 1)) = W2 := ⟨_, rfl⟩
  rw [hW2] at hA hr2 ht2
  have hR2 : Room W2 b o (c * 1) := by
    rcases hr2.at' with ⟨e, _⟩ | ⟨_, _, e, _, _, h5⟩
    · cases e
    · cases e; exact h5
  have hlv := hv'.touch (TouchC.drew (TouchC.refl (SlF 1 (some ⟨b, o, none⟩) c) W.drew) |>.trans ht2 (fun _ _ _ h => h)) (fun p hf => hne (slf_some.1 hf).1)
  have hB : ∀ ty dc, (Builtin.copy_ #[54, 54] ty #[.slice (some ⟨b, o + i, none⟩) (n + 1 - i) dc, .slice (some ⟨vb, 0, none⟩) 2 vc]).run Try.prog W2 = .ok (goInt (2 : Nat)) (W2.setCells b (o + i) [v0, v1]) := fun ty dc =>
    row_copy E (m := 2) (fun j hj => by rw [Nat.add_assoc]; exact hR2 _ (by omega)) rfl (min_lit (Nat.le_refl _) (by omega) (.inl rfl)) hlv.one hlv.at'.add ty
  obtain ⟨hr3, ht3⟩ := hr2.splice (j := i) (news := [v0, v1]) (by simp; omega) hv.one
  obtain ⟨W3, hW3⟩ : ∃ W3, W2.setCells b (o + i) [v0, v1] = W3 := ⟨_, rfl⟩
  rw [hW3] at hB hr3 ht3
  have hcells : Ytfikaccgpjiedaa.splice (vs.take (i + 2) ++ vs.drop (i + 1)) i [v0, v1] = repC vs i [v0, v1] := by
    unfold Ytfikaccgpjiedaa.splice repC
    rw [List.take_append_of_le_length (by rw [List.length_take]; omega), List.take_take, show min i (i + 2) = i by omega, show i + [v0, v1].length = i + 2 by simp, List.drop_append_of_le_length (by rw [List.length_take]; omega), List.drop_eq_nil_of_le (by rw [List.length_take]; omega)]
    rfl
  rw [hcells] at hr3
  have HEND := Lib.hid (And.intro hr3 ((TouchC.drew (TouchC.drew (TouchC.refl (SlF 1 (some ⟨b, o, none⟩) c) W)) |>.trans ht2 (fun _ _ _ h => h)).trans ht3 (fun _ _ _ h => h)))
  have HA := Lib.hid hA
  unfold rep_says
  have mixed : Try.prog.follows Departure.mixedOrders = true := by kernel_rfl
  have z1 : ¬ (i : Int) = (i : Int) + 1 := by omega
  have z2 : ¬ (i : Int) + 1 = (n : Int) := by omega
  have z3 : ¬ c = i := by omega
  have z4 : ¬ c = i + 1 := by omega
  have z4b : ¬ c = i + 2 := by omega
  have z6 : IntKind.i64.wrap ((i : Int) + 1) = (i : Int) + 1 := by rw [IntKind.wrap_i64]; omega
  have z6b : IntKind.i64.wrap ((i : Int) + 2) = (i : Int) + 2 := by rw [IntKind.wrap_i64]; omega
  have z6c : IntKind.i64.wrap ((i : Int) + 2 + ((n - (i + 1) : Nat) : Int)) = (n : Int) + 1 := by rw [IntKind.wrap_i64]; omega
  have z7 : ((i : Int) + 1).toNat = i + 1 := by omega
  have z7b : ((i : Int) + 2).toNat = i + 2 := by omega
  have z8 : (0 : Int) ≤ (i : Int) + 1 := by omega
  have z8b : (0 : Int) ≤ (i : Int) + 2 := by omega
  have z8c : (0 : Int) ≤ (n : Int) + 1 := by omega
  have z7c : ((n : Int) + 1).toNat = n + 1 := by omega
  have z9 : i ≤ n := by omega
  have z9b : (i : Int) + 1 ≤ (n : Int) := by omega
  have z9c : i ≤ c := by omega
  have z9d : (i : Int) ≤ (n : Int) + 1 := by omega
  have z10 : ¬ (c : Int) < (n : Int) + 1 := by omega
  have z10b : (n : Int) + 1 ≤ (c : Int) := by omega
  have z11 : (i : Int) + 2 ≤ (n : Int) + 1 := by omega
  have z12 : i + 2 ≤ n + 1 := by omega
  have z13 : ¬ ((i : Int) + 2 ≤ (i : Int) + 1) := by omega
  have z14 : n ≤ c := by omega
  have hcm : c ≤ 9223372036854775807 := by have := h.cm; unfold maxLen at this; omega
  clear hr3 hA hr2 ht2 ht3 hW3 hW2 hcells hlv hv hv' h h' hR2 hro hcs hl
  go_enter Try.func43, Try.ntmps43
  go_wp2_with fail
  go_region
  go_wp2_with (simp only [hov])
  go_region_law_o (refine step_copy_runI rfl _ _ 54 54 rfl (.slice (some ⟨b, o + (i + 2), none⟩) (n + 1 - (i + 2)) (c - (i + 2))) (.slice (some ⟨b, o + (i + 1), none⟩) (n - (i + 1)) (c - (i + 1))) (by simp [Act.eval, Act.put]) (by simp [Act.eval, Act.put]) (HA.out _ _ _) ?_)
  all_goals
    go_wp2
    go_ret
    exact ⟨_, _, rfl, HEND.out.1, fun _ _ h => .inl h, HEND.out.2⟩

theorem rep_is (W : World) (a : Option Addr) (n c i : Nat) (vs : List Value) (vb vc : Nat) (v0 v1 : Value) (h : RowS 1 W a n c vs) (hn : n ≤ 1000) (hi : i < n) (hv : Lit W vb [v0, v1]) (hne : ∀ b o, a = some ⟨b, o, none⟩ → vb ≠ b) :
    Calls Try.prog 43 #[.slice a n c, .int .i64 (i : Int), .int .i64 ((i : Int) + 1), .slice (some ⟨vb, 0, none⟩) 2 vc] W fun e w' => rep_says W w' e a n c i vs v0 v1 := by
  rcases h.at' with ⟨rfl, h0⟩ | ⟨b, o, rfl, _⟩
  · have := h.nc
    omega
  · by_cases he : i + 1 = n
    · exact rep_end W b o n c i vs vb vc v0 v1 h hn he hv
    · by_cases hc : n + 1 ≤ c
      · exact rep_room W b o n c i vs vb vc v0 v1 h hn (by omega) hc hv (hne b o rfl)
      · exact rep_grow W b o n c i vs vb vc v0 v1 h hn (by omega) (by omega) hv

end Go.Proofs.Ytfikaccgpjiedaa

