/-
  Entries, and steps, in memory; what stays when only some blocks may have changed (stage 7).
-/
import Derived.Test.YtfikaccgpjiedaaJJ1
namespace Go.Proofs.Ytfikaccgpjiedaa
open Go.RowKit

/-! ### What stays -/

/-- Blocks of which G holds are as they were, and none is gone. -/
structure Stay (G : Nat → Prop) (W W' : World) : Prop where
  size : W.heap.size ≤ W'.heap.size
  block : ∀ k, k < W.heap.size → G k → W'.heap[k]? = W.heap[k]?

theorem Stay.refl (G : Nat → Prop) (W : World) : Stay G W W := ⟨Nat.le_refl _, fun _ _ _ => rfl⟩
theorem Stay.trans {G : Nat → Prop} {W W1 W2 : World} (h : Stay G W W1) (h2 : Stay G W1 W2) : Stay G W W2 :=
  ⟨Nat.le_trans h.size h2.size, fun k hk hG => (h2.block k (Nat.lt_of_lt_of_le hk h.size) hG).trans (h.block k hk hG)⟩
theorem Stay.mono {G G' : Nat → Prop} {W W' : World} (h : Stay G W W') (hG : ∀ k, G' k → G k) : Stay G' W W' := ⟨h.size, fun k hk g => h.block k hk (hG k g)⟩
theorem Stay.of_below {G : Nat → Prop} {W W' : World} (h : Below W.heap.size W W') : Stay G W W' := ⟨h.size, fun k hk _ => h.block k hk⟩
theorem Stay.cell {G : Nat → Prop} {W W' : World} {b o : Nat} (h : Stay G W W') (hb : b < W.heap.size) (hG : G b) : W'.cell? ⟨b, o, none⟩ = W.cell? ⟨b, o, none⟩ := World.cell?_of_block (h.block b hb hG)
theorem Stay.frozen {G : Nat → Prop} {W W' : World} {b o : Nat} (h : Stay G W W') (hb : b < W.heap.size) (hG : G b) : W'.frozen? ⟨b, o, none⟩ = W.frozen? ⟨b, o, none⟩ := by
  unfold World.frozen?
  rw [h.block b hb hG]

/-- Only blocks of which F holds, and new ones, may have changed. -/
structure Touch (F : Nat → Prop) (W W' : World) : Prop where
  os : W'.os = W.os
  tape : W'.tape = W.tape
  output : W'.output = W.output
  size : W.heap.size ≤ W'.heap.size
  block : ∀ k, k < W.heap.size → ¬ F k → W'.heap[k]? = W.heap[k]?

theorem Touch.refl (F : Nat → Prop) (W : World) : Touch F W W := ⟨rfl, rfl, rfl, Nat.le_refl _, fun _ _ _ => rfl⟩
theorem Touch.of_below {F : Nat → Prop} {W W' : World} (h : Below W.heap.size W W') : Touch F W W' := ⟨h.os, h.tape, h.output, h.size, fun k hk _ => h.block k hk⟩
theorem Touch.trans {F F' : Nat → Prop} {W W1 W2 : World} (h : Touch F W W1) (h2 : Touch F' W1 W2) (hF : ∀ k, k < W.heap.size → F' k → F k) : Touch F W W2 :=
  ⟨h2.os.trans h.os, h2.tape.trans h.tape, h2.output.trans h.output, Nat.le_trans h.size h2.size, fun k hk hn => (h2.block k (Nat.lt_of_lt_of_le hk h.size) (fun h' => hn (hF k hk h'))).trans (h.block k hk hn)⟩
theorem Touch.below {F : Nat → Prop} {B : Nat} {W W' : World} (h : Touch F W W') (hF : ∀ k, F k → B ≤ k) (hB : B ≤ W.heap.size) : Below B W W' :=
  ⟨h.os, h.tape, h.output, h.size, fun k hk => h.block k (by omega) (fun hf => by have := hF k hf; omega)⟩
theorem Touch.stay {F G : Nat → Prop} {W W' : World} (h : Touch F W W') (hG : ∀ k, G k → ¬ F k) : Stay G W W' := ⟨h.size, fun k hk g => h.block k hk (hG k g)⟩

/-! ### A slice of values whose block is one of G -/

structure SlG (G : Nat → Prop) (W : World) (a : Option Addr) (c : Nat) (l : List Val) : Prop where
  sl : SlL W a c l
  on : l ≠ [] → ∀ b o, a = some ⟨b, o, none⟩ → G b

theorem AtV.stay {G : Nat → Prop} {W W' : World} {b o : Nat} {v : Val} (h : AtV W b o v) (hs : Stay G W W') (hG : G b) : AtV W' b o v := by
  obtain ⟨h0, h1, h2, h3, h7⟩ := h
  exact ⟨by rw [hs.cell h7 hG]; exact h0, by rw [hs.cell h7 hG]; exact h1, by rw [hs.cell h7 hG]; exact h2, by rw [hs.cell h7 hG]; exact h3, Nat.lt_of_lt_of_le h7 hs.size⟩

theorem SlG.stay {G : Nat → Prop} {W W' : World} {a : Option Addr} {c : Nat} {l : List Val} (h : SlG G W a c l) (hs : Stay G W W') : SlG G W' a c l := by
  refine ⟨⟨h.sl.lc, h.sl.cm, fun hl => ?_, h.sl.wf⟩, h.on⟩
  obtain ⟨b, o, e, hat⟩ := h.sl.at' hl
  exact ⟨b, o, e, fun i x hx => (hat i x hx).stay hs (h.on hl b o e)⟩

theorem SlG.below {G : Nat → Prop} {W W' : World} {a : Option Addr} {c : Nat} {l : List Val} (h : SlG G W a c l) (hb : Below W.heap.size W W') : SlG G W' a c l := ⟨h.sl.below hb, h.on⟩
theorem SlG.mono {G G' : Nat → Prop} {W : World} {a : Option Addr} {c : Nat} {l : List Val} (h : SlG G W a c l) (hG : ∀ k, k < W.heap.size → G k → G' k) : SlG G' W a c l := by
  refine ⟨h.sl, fun hl b o e => hG b ?_ (h.on hl b o e)⟩
  obtain ⟨b', o', e', hat⟩ := h.sl.at' hl
  rw [e] at e'
  cases e'
  cases hl' : l with
  | nil => exact absurd hl' hl
  | cons x l2 => exact (hat 0 x (by rw [hl']; rfl)).2.2.2.2

/-- Whatever lies in memory lies among the blocks that there are. -/
theorem SlL.all {W : World} {a : Option Addr} {c : Nat} {l : List Val} (h : SlL W a c l) : SlG (fun k => k < W.heap.size) W a c l := by
  refine ⟨h, fun hl b o e => ?_⟩
  obtain ⟨b', o', e', hat⟩ := h.at' hl
  rw [e] at e'
  cases e'
  cases hl' : l with
  | nil => exact absurd hl' hl
  | cons x l2 => exact (hat 0 x (by rw [hl']; rfl)).2.2.2.2

/-! ### Entries -/

/-- An Entry. -/
structure Ent where
  key : List Val
  id : Int
  deriving DecidableEq

/-- An entry lies in block b from cell o on, its key too in one of G. -/
def AtEn (G : Nat → Prop) (W : World) (b o : Nat) (e : Ent) : Prop :=
  ∃ a c, W.cell? ⟨b, o, none⟩ = some (.slice a e.key.length c) ∧ W.cell? ⟨b, o + 1, none⟩ = some (.int .i64 e.id) ∧ SlG G W a c e.key ∧ b < W.heap.size ∧ G b

theorem AtEn.stay {G : Nat → Prop} {W W' : World} {b o : Nat} {e : Ent} (h : AtEn G W b o e) (hs : Stay G W W') : AtEn G W' b o e := by
  obtain ⟨a, c, h0, h1, h2, h3, h4⟩ := h
  exact ⟨a, c, by rw [hs.cell h3 h4]; exact h0, by rw [hs.cell h3 h4]; exact h1, h2.stay hs, Nat.lt_of_lt_of_le h3 hs.size, h4⟩

theorem AtEn.mono {G G' : Nat → Prop} {W : World} {b o : Nat} {e : Ent} (h : AtEn G W b o e) (hG : ∀ k, k < W.heap.size → G k → G' k) : AtEn G' W b o e := by
  obtain ⟨a, c, h0, h1, h2, h3, h4⟩ := h
  exact ⟨a, c, h0, h1, h2.mono hG, h3, hG b h3 h4⟩

def LstEn (G : Nat → Prop) (W : World) (b o : Nat) (l : List Ent) : Prop := ∀ (i : Nat) e, l[i]? = some e → AtEn G W b (o + i * 2) e

/-- A slice of the entries l. -/
structure SlEn (G : Nat → Prop) (W : World) (a : Option Addr) (c : Nat) (l : List Ent) : Prop where
  lc : l.length ≤ c
  cm : c ≤ maxLen
  at' : l ≠ [] → ∃ b o, a = some ⟨b, o, none⟩ ∧ LstEn G W b o l
  ids : ∀ e ∈ l, I64 e.id

theorem SlEn.stay {G : Nat → Prop} {W W' : World} {a : Option Addr} {c : Nat} {l : List Ent} (h : SlEn G W a c l) (hs : Stay G W W') : SlEn G W' a c l :=
  ⟨h.lc, h.cm, fun hl => by obtain ⟨b, o, e, hx⟩ := h.at' hl; exact ⟨b, o, e, fun i x hi => (hx i x hi).stay hs⟩, h.ids⟩
theorem SlEn.below {G : Nat → Prop} {W W' : World} {a : Option Addr} {c : Nat} {l : List Ent} (h : SlEn G W a c l) (hb : Below W.heap.size W W') : SlEn G W' a c l := h.stay (Stay.of_below hb)
theorem SlEn.mono {G G' : Nat → Prop} {W : World} {a : Option Addr} {c : Nat} {l : List Ent} (h : SlEn G W a c l) (hG : ∀ k, k < W.heap.size → G k → G' k) : SlEn G' W a c l :=
  ⟨h.lc, h.cm, fun hl => by obtain ⟨b, o, e, hx⟩ := h.at' hl; exact ⟨b, o, e, fun i x hi => (hx i x hi).mono hG⟩, h.ids⟩
theorem SlEn.nil (G : Nat → Prop) (W : World) (a : Option Addr) (c : Nat) (hc : c ≤ maxLen) : SlEn G W a c [] := ⟨Nat.zero_le _, hc, fun h => absurd rfl h, fun _ h => absurd h List.not_mem_nil⟩

theorem at_en {G : Nat → Prop} {W : World} {a : Option Addr} {c : Nat} {l : List Ent} (h : SlEn G W a c l) {i : Nat} {e : Ent} (he : l[i]? = some e) : ∃ b o, a = some ⟨b, o, none⟩ ∧ AtEn G W b (o + i * 2) e := by
  obtain ⟨b, o, ea, hl⟩ := h.at' (by rintro rfl; simp at he)
  exact ⟨b, o, ea, hl i e he⟩

/-! ### Steps -/

/-- A Step. -/
structure Stp where
  kind : Int
  key : List Val
  to : List Val
  id : Int

def Stp.en (s : Stp) : Ent := ⟨s.key, s.id⟩

def AtSt (W : World) (b o : Nat) (s : Stp) : Prop :=
  ∃ a c a' c', W.cell? ⟨b, o, none⟩ = some (.int .u8 s.kind) ∧ W.cell? ⟨b, o + 1, none⟩ = some (.slice a s.key.length c) ∧ W.cell? ⟨b, o + 2, none⟩ = some (.slice a' s.to.length c') ∧ W.cell? ⟨b, o + 3, none⟩ = some (.int .i64 s.id) ∧ SlL W a c s.key ∧ SlL W a' c' s.to ∧ b < W.heap.size

theorem AtSt.below {W W' : World} {b o : Nat} {s : Stp} (h : AtSt W b o s) (hb : Below W.heap.size W W') : AtSt W' b o s := by
  obtain ⟨a, c, a', c', h0, h1, h2, h3, h4, h5, h6⟩ := h
  exact ⟨a, c, a', c', by rw [hb.cell h6]; exact h0, by rw [hb.cell h6]; exact h1, by rw [hb.cell h6]; exact h2, by rw [hb.cell h6]; exact h3, h4.below hb, h5.below hb, Nat.lt_of_lt_of_le h6 hb.size⟩

def LstSt (W : World) (b o : Nat) (l : List Stp) : Prop := ∀ (i : Nat) s, l[i]? = some s → AtSt W b (o + i * 4) s

/-- A slice of the steps l. -/
structure SlSt (W : World) (a : Option Addr) (c : Nat) (l : List Stp) : Prop where
  lc : l.length ≤ c
  cm : c ≤ maxLen
  at' : l ≠ [] → ∃ b o, a = some ⟨b, o, none⟩ ∧ LstSt W b o l
  wf : ∀ s ∈ l, (0 ≤ s.kind ∧ s.kind ≤ 255) ∧ I64 s.id

theorem SlSt.below {W W' : World} {a : Option Addr} {c : Nat} {l : List Stp} (h : SlSt W a c l) (hb : Below W.heap.size W W') : SlSt W' a c l :=
  ⟨h.lc, h.cm, fun hl => by obtain ⟨b, o, e, hx⟩ := h.at' hl; exact ⟨b, o, e, fun i x hi => (hx i x hi).below hb⟩, h.wf⟩
theorem SlSt.nil (W : World) (a : Option Addr) (c : Nat) (hc : c ≤ maxLen) : SlSt W a c [] := ⟨Nat.zero_le _, hc, fun h => absurd rfl h, fun _ h => absurd h List.not_mem_nil⟩

theorem at_st {W : World} {a : Option Addr} {c : Nat} {l : List Stp} (h : SlSt W a c l) {i : Nat} {s : Stp} (hs : l[i]? = some s) : ∃ b o, a = some ⟨b, o, none⟩ ∧ AtSt W b (o + i * 4) s := by
  obtain ⟨b, o, ea, hl⟩ := h.at' (by rintro rfl; simp at hs)
  exact ⟨b, o, ea, hl i s hs⟩

end Go.Proofs.Ytfikaccgpjiedaa

