/-
  RuleNames walked.
-/
import Derived.Test.YtkipnkbmpgjcoaaTAwake
import Derived.Test.YtkipnkbmpgjcoaaTRecs
import Derived.Laws.BytesArg
import Derived.Deep.OwnRows
namespace Go.Proofs.Ytkipnkbmpgjcoaa
open Go.RowKit
set_option linter.unusedVariables false

def zerosB (n : Nat) : ByteArray := ⟨(List.replicate n 0).toArray⟩

theorem made_zeros (n : Nat) (hn : n ≤ 1000) (w : World) : ∃ W, Sem.run Try.prog (Instr.makeSlice 44 (.int .i64 (n : Int)) (.int .i64 (n : Int))) w = .ok (.slice (some ⟨w.heap.size, 0, none⟩) n n) W ∧
    Sem.run Try.prog (convert 44 9 (.slice (some ⟨w.heap.size, 0, none⟩) n n)) W = .ok (.string (zerosB n)) W ∧ Below w.heap.size w W := by
  refine ⟨_, run_make_row' 44 5 (.int .u8 0) 1 (by kernel_rfl) (by kernel_rfl) rfl .i64 .i64 n (by omega) (by omega) w, ?_, Below.allocs _ _⟩
  have := run_convert_bytes_arg (P := Try.prog) (w.alloc (.cells (madeCells #[.int .u8 0] n) 5)) 44 5 (by kernel_rfl) (by kernel_rfl) w.heap.size 0 n n (List.replicate n 0) (by simp) (fun i hi => by
    rw [World.cell?_alloc_at _ _ _ _ rfl]
    simp [madeCells, hi, List.getD, Nat.mod_one]) 9 (by kernel_rfl)
  rw [this, show strOfNums (List.replicate n 0) = zerosB n by simp [strOfNums, zerosB]]

theorem made_long (w : World) : ∃ W Z, Sem.run Try.prog (Instr.makeSlice 44 (.int .i64 33) (.int .i64 33)) w = .ok (.slice (some ⟨w.heap.size, 0, none⟩) 33 33) W ∧
    Sem.run Try.prog (convert 44 9 (.slice (some ⟨w.heap.size, 0, none⟩) 33 33)) W = .ok (.string Z) W ∧ Below w.heap.size w W ∧ nameB Z = false := by
  obtain ⟨W, h1, h2, h3⟩ := made_zeros 33 (by decide) w
  exact ⟨W, zerosB 33, h1, h2, h3, by decide +kernel⟩

/-- A list of texts in a block of their own. -/
theorem boxS (w : World) (l : List ByteArray) : ∃ W g, w.alloc (.cells (l.map Value.string).toArray 9) = W ∧ w.heap.size = g ∧ Below w.heap.size w W ∧ ∀ (k : Nat) s, l[k]? = some s → W.cell? ⟨g, k, none⟩ = some (.string s) := by
  refine ⟨_, _, rfl, rfl, Below.allocs w _, fun k s hk => ?_⟩
  rw [World.cell?_alloc_at _ _ _ _ (by simp)]
  simp [hk]

def l1 (Z : ByteArray) : List ByteArray := [⟨#[]⟩, ⟨#[65]⟩, ⟨#[49, 97]⟩, ⟨#[95, 97]⟩, ⟨#[97, 45, 98]⟩, ⟨#[97, 32, 98]⟩, Z, ⟨#[97, 195, 164]⟩]
def l2 : List ByteArray := [⟨#[97]⟩, ⟨#[97, 49]⟩, ⟨#[97, 95, 98]⟩, ⟨#[97, 98, 99, 100, 101, 102, 103, 104, 105, 106, 107, 108, 109, 110, 111, 112, 113, 114, 115, 116, 117, 118, 119, 120, 121, 122, 48, 49, 50, 51, 52, 53]⟩]
theorem l1_no {Z : ByteArray} (hZ : nameB Z = false) (k : Nat) (h : k < 8) : ∃ s, (l1 Z)[k]? = some s ∧ nameB s = false := by
  match k, h with
  | 0, _ => exact ⟨_, rfl, by decide +kernel⟩
  | 1, _ => exact ⟨_, rfl, by decide +kernel⟩
  | 2, _ => exact ⟨_, rfl, by decide +kernel⟩
  | 3, _ => exact ⟨_, rfl, by decide +kernel⟩
  | 4, _ => exact ⟨_, rfl, by decide +kernel⟩
  | 5, _ => exact ⟨_, rfl, by decide +kernel⟩
  | 6, _ => exact ⟨Z, rfl, hZ⟩
  | 7, _ => exact ⟨_, rfl, by decide +kernel⟩
theorem l2_yes (k : Nat) (h : k < 4) : ∃ s, l2[k]? = some s ∧ nameB s = true := by
  match k, h with
  | 0, _ => exact ⟨_, rfl, by decide +kernel⟩
  | 1, _ => exact ⟨_, rfl, by decide +kernel⟩
  | 2, _ => exact ⟨_, rfl, by decide +kernel⟩
  | 3, _ => exact ⟨_, rfl, by decide +kernel⟩

theorem OwnC.mono {b b' : Nat} {W : World} {s : Value} {l : List Col} (h : OwnC b W s l) (hb : b' ≤ b) : OwnC b' W s l := by
  rcases h.2 with ⟨h1, h2⟩ | ⟨g, cap, cur, h1, hbg, h3⟩
  · exact ⟨h.1, .inl ⟨h1, h2⟩⟩
  · exact ⟨h.1, .inr ⟨g, cap, cur, h1, by omega, h3⟩⟩

theorem OwnC.same {b : Nat} {W W' : World} {s : Value} {l : List Col} (h : OwnC b W s l) (hk : ∀ q, s.ownBlock = some q → W'.heap[q]? = W.heap[q]?) : OwnC b W' s l := by
  rcases h.2 with ⟨h1, h2⟩ | ⟨g, cap, cur, rfl, hbg, hg, h3⟩
  · exact ⟨h.1, .inl ⟨h1, h2⟩⟩
  · exact ⟨h.1, .inr ⟨g, cap, cur, rfl, hbg, by rw [hk g rfl]; exact hg, h3⟩⟩

theorem Recs.congr {W : World} {g n m : Nat} {f f' : Nat → List Value} (h : Recs W g n m f) (he : ∀ j, j < n → f j = f' j) : Recs W g n m f' :=
  ⟨h.lt, fun j c v hj hv => h.at' j c v hj (by rw [he j hj]; exact hv), fun j hj => by rw [← he j hj]; exact h.len j hj, h.fz⟩

/-- The tables that the first loop lays: the cells of the j-th. -/
def FJ (hs cs : Nat → Nat) (j : Nat) : List Value := [.string ⟨#[116]⟩, .slice (some ⟨hs j, 0, none⟩) 3 (cs j), .string ⟨#[114, 111, 111, 116]⟩]
def rowV (hs cs : Nat → Nat) (j : Nat) : Value := .slice (some ⟨hs j, 0, none⟩) 3 (cs j)

/-- What holds at the head of that loop. -/
structure LA (W5 : World) (gb k : Nat) (wr : World) (f : Nat → List Value) (hs cs : Nat → Nat) : Prop where
  recs : Recs wr gb 8 3 f
  is : ∀ j, j < k → f j = FJ hs cs j
  row : ∀ j, j < k → OwnC (gb + 1) wr (rowV hs cs j) tc
  up : ∀ i j, i < j → j < k → hs i < hs j
  low : Below gb W5 wr

def putN (hs : Nat → Nat) (k q : Nat) : Nat → Nat := fun j => if j = k then q else hs j
theorem putN_same (hs : Nat → Nat) (k q : Nat) : putN hs k q k = q := if_pos rfl
theorem putN_other (hs : Nat → Nat) (k q : Nat) {j : Nat} (h : j ≠ k) : putN hs k q j = hs j := if_neg h

theorem LA.step {W5 : World} {gb k : Nat} {wr : World} {f : Nat → List Value} {hs cs : Nat → Nat} (h : LA W5 gb k wr f hs cs) (hk : k < 8) (c0 : List Value) (hc0 : c0.length = 3) (e0 : c0[0]? = some (.string ⟨#[116]⟩)) (e2 : c0[2]? = some (.string ⟨#[114, 111, 111, 116]⟩))
    {V1 V3 : World} (hV1 : wr.setCells gb (k * 3) c0 = V1) (h1 : Recs V1 gb 8 3 (updR f k c0)) (hb : Below V1.heap.size V1 V3) (q c : Nat) (ho : OwnC V1.heap.size V3 (.slice (some ⟨q, 0, none⟩) 3 c) tc) :
    LA W5 gb (k + 1) (V3.setCell ⟨gb, k * 3 + 1, none⟩ (.slice (some ⟨q, 0, none⟩) 3 c)) (updR (updR f k c0) k (c0.set 1 (.slice (some ⟨q, 0, none⟩) 3 c))) (putN hs k q) (putN cs k c) := by
  have hq : V1.heap.size ≤ q := (ho.lt q rfl).1
  have hsz : V1.heap.size = wr.heap.size := by
    rw [← hV1]
    have : ∀ (vs : List Value) (o : Nat) (w : World), (w.setCells gb o vs).heap.size = w.heap.size := by
      intro vs
      induction vs with
      | nil => intro o w; rfl
      | cons v vs ih => intro o w; show ((w.setCell ⟨gb, o, none⟩ v).setCells gb (o + 1) vs).heap.size = _; rw [ih]; simp [World.setCell]
    exact this _ _ _
  have hgq : gb < q := Nat.lt_of_lt_of_le h1.lt hq
  have h3 := (h1.below hb).set (j := k) (c := 1) (o := k * 3 + 1) hk (by decide) rfl (.slice (some ⟨q, 0, none⟩) 3 c)
  rw [updR_same] at h3
  have blk : ∀ p, p < V1.heap.size → p ≠ gb → (V3.setCell ⟨gb, k * 3 + 1, none⟩ (.slice (some ⟨q, 0, none⟩) 3 c)).heap[p]? = wr.heap[p]? := fun p hp hpg => by
    rw [show (V3.setCell ⟨gb, k * 3 + 1, none⟩ (.slice (some ⟨q, 0, none⟩) 3 c)).heap[p]? = V3.heap[p]? by simp [World.setCell, Array.getElem?_modify, Ne.symm hpg], hb.block p hp, ← hV1, setCells_block _ _ _ _ _ hpg]
  refine ⟨h3, fun j hj => ?_, fun j hj => ?_, fun i j hij hj => ?_, ?_⟩
  · by_cases hjk : j = k
    · subst hjk
      rw [updR_same]
      unfold FJ
      rw [putN_same, putN_same]
      obtain ⟨a, b, d, rfl⟩ : ∃ a b d, c0 = [a, b, d] := by
        match c0, hc0 with
        | [a, b, d], _ => exact ⟨a, b, d, rfl⟩
      simp at e0 e2
      subst e0 e2
      rfl
    · rw [updR_other _ _ _ hjk, updR_other _ _ _ hjk, h.is j (by omega)]
      unfold FJ
      rw [putN_other _ _ _ hjk, putN_other _ _ _ hjk]
  · by_cases hjk : j = k
    · subst hjk
      unfold rowV
      rw [putN_same, putN_same]
      refine (ho.mono h1.lt).same fun p hp => ?_
      have hpq : q = p := by simpa [Value.ownBlock] using hp
      subst hpq
      simp [World.setCell, Array.getElem?_modify, Nat.ne_of_lt hgq]
    · have hr := h.row j (by omega)
      unfold rowV at hr ⊢
      rw [putN_other _ _ _ hjk, putN_other _ _ _ hjk]
      have hlt : gb + 1 ≤ hs j ∧ hs j < wr.heap.size := hr.lt _ rfl
      refine hr.same fun p hp => ?_
      have hpq : hs j = p := by simpa [Value.ownBlock] using hp
      subst hpq
      exact blk _ (by rw [hsz]; exact hlt.2) (by omega)
  · by_cases hjk : j = k
    · subst hjk
      rw [putN_other _ _ _ (by omega), putN_same]
      have : hs i < wr.heap.size := ((h.row i hij).lt _ rfl).2
      omega
    · rw [putN_other _ _ _ (by omega), putN_other _ _ _ hjk]
      exact h.up i j hij (by omega)
  · refine ((h.low.trans ?_).trans (hb.mono ?_)).setCell (p := ⟨gb, k * 3 + 1, none⟩) (Nat.le_refl _) _
    · rw [← hV1]; exact below_setCells (Below.refl _ _) (Nat.le_refl _) _ _
    · exact Nat.le_of_lt h1.lt

/-- The arm: a struct is stored into a record. -/
theorem rec_step {P : Program} {ops : Array Oper} {rest : List Oper} {o : Oper} {a : Act} {Q : Exit → Act → World → Prop} {W W' : World} {ty : TypeId} {x y : Operand} {g off : Nat} {cs : List Value} (hgd : o.guard = none) (ho : o.op = .store ty x y)
    (hx : a.eval x = .pointer (some ⟨g, off, none⟩)) (hy : a.eval y = .agg cs.toArray) (hrun : (storeVar ty ⟨g, off, none⟩ (.agg cs.toArray)).run P W = .ok () W') (h : wpList P ops Q rest (a.put o.dst undef) W') : wpList P ops Q (o :: rest) a W :=
  wpList_plain hgd fun _ hK => by
    unfold Oper.wp execOp
    simp only [ho, hx, hy, Instr.storeAt, Instr.sureAddr, Sem.run_bind, Sem.run_pure, Result.andThen_ok, hrun]
    exact hK _ _ h

theorem info_t : (Try.prog.info? 32).map (fun i => (i.zero, i.size, i.bytes)) = some (some (.agg #[.string ⟨#[]⟩, .slice none 0 0, .string ⟨#[]⟩]), 3, 56) := by kernel_rfl
theorem info_r : (Try.prog.info? 29).map (fun i => (i.zero, i.size, i.bytes)) = some (some (.agg #[.int .u8 0, .string ⟨#[]⟩, .string ⟨#[]⟩, .slice none 0 0, .int .u8 0, .int .u8 0, .int .i64 0, .int .i64 0, .string ⟨#[]⟩, .int .i64 0, .slice none 0 0, .string ⟨#[]⟩, .int .u8 0, .int .u8 0, .bool false, .bool false]), 16, 168) := by kernel_rfl

theorem OwnC.some' {b : Nat} {W : World} {s : Value} {l : List Col} (h : OwnC b W s l) (hl : l ≠ []) : ∃ q c, s = .slice (some ⟨q, 0, none⟩) l.length c := by
  rcases h.2 with ⟨h1, h2⟩ | ⟨g, cap, cur, h1, _⟩
  · exact absurd (List.length_eq_zero_iff.1 h2) hl
  · exact ⟨g, cap, h1⟩

/-- A row's columns, each as its cells. -/
def CF (l : List Col) (j : Nat) : List Value := match l[j]? with | some x => encC x | none => []

theorem OwnC.recs {b q c n : Nat} {W : World} {l : List Col} (h : OwnC b W (.slice (some ⟨q, 0, none⟩) n c) l) (hn : l.length = n) : Recs W q n 6 (CF l) ∧ n ≤ c ∧ c ≤ maxLen := by
  have h' : W.ownsRow b 49 6 (.slice (some ⟨q, 0, none⟩) n c) n (flatC l) := by rw [← hn]; rw [← hn] at h; exact h
  refine ⟨⟨(h.lt q rfl).2, fun j d v hj hv => ?_, fun j hj => ?_, fun t => h'.frozenAt t⟩, ?_⟩
  · obtain ⟨x, hx⟩ := getC (l := l) (i := j) (by omega)
    unfold CF at hv
    rw [hx] at hv
    have hd : d < 6 := by have := (List.getElem?_eq_some_iff.1 hv).1; simpa [encC] using this
    have := h'.cells (g := q) rfl (j * 6 + d) v (by rw [flatC_get l j d x hx hd]; exact hv)
    rw [Addr.add_lit] at this
    simpa using this
  · obtain ⟨x, hx⟩ := getC (l := l) (i := j) (by omega)
    unfold CF
    rw [hx]
    rfl
  · rcases h'.2 with ⟨h1, _⟩ | ⟨g, cap, cur, h1, _, _, h2, h3, _⟩
    · cases h1
    · injection h1 with _ _ h4
      subst h4
      exact ⟨h2, h3⟩

theorem Recs.slc {W : World} {q n c : Nat} {l : List Col} {f : Nat → List Value} (h : Recs W q n 6 f) (hl : l.length = n) (hf : ∀ j x, l[j]? = some x → f j = encC x) (hc : n ≤ c) (hm : c ≤ maxLen) (hw : ∀ x ∈ l, x.wf) : SlC W (some ⟨q, 0, none⟩) c l := by
  refine ⟨by omega, hm, fun _ => ⟨q, 0, rfl, fun i x hx => atC_of (fun d u hu => ?_) h.lt⟩, hw⟩
  have hi : i < n := by have := (List.getElem?_eq_some_iff.1 hx).1; omega
  have := h.at' i d u hi (by rw [hf i x hx]; exact hu)
  rw [show 0 + i * 6 + d = i * 6 + d by omega]
  exact this

def zc : Col := ⟨⟨#[]⟩, 0, Val.zero⟩
def tc4 : List Col := [⟨⟨#[97]⟩, 1, Val.zero⟩, ⟨⟨#[97]⟩, 3, Val.zero⟩, ⟨⟨#[99]⟩, 4, Val.zero⟩]
def tc5 : List Col := [⟨⟨#[97]⟩, 0, Val.zero⟩, ⟨⟨#[98]⟩, 3, Val.zero⟩, ⟨⟨#[99]⟩, 4, Val.zero⟩]
def tc6 : List Col := [⟨⟨#[97]⟩, 5, Val.zero⟩, ⟨⟨#[98]⟩, 3, Val.zero⟩, ⟨⟨#[99]⟩, 4, Val.zero⟩]
def tc7 : List Col := [⟨⟨#[97]⟩, 1, ⟨3, 0, 0, ⟨#[]⟩⟩⟩, ⟨⟨#[98]⟩, 3, Val.zero⟩, ⟨⟨#[99]⟩, 4, Val.zero⟩]
def tc9 : List Col := [zc, zc, zc, zc, zc, zc, zc, zc, zc]
def wfC (x : Col) : Bool := decide ((0 ≤ x.ty ∧ x.ty ≤ 255) ∧ (0 ≤ x.v.k ∧ x.v.k ≤ 255) ∧ (-9223372036854775808 ≤ x.v.n ∧ x.v.n ≤ 9223372036854775807) ∧ (-9223372036854775808 ≤ x.v.u ∧ x.v.u ≤ 9223372036854775807) ∧ x.v.t.size ≤ 9223372036854775807 ∧ x.nm.size ≤ 9223372036854775807)
theorem allwfC {l : List Col} (h : l.all wfC = true) : ∀ x ∈ l, x.wf := by
  intro x hx
  have := List.all_eq_true.mp h x hx
  simp only [wfC, decide_eq_true_eq] at this
  obtain ⟨⟨a, b⟩, ⟨c, d⟩, e, f, g, i⟩ := this
  exact ⟨a, b, ⟨c, d, e, f, g⟩, i⟩
theorem three {P : Nat → Col → Prop} {a b c : Col} (h0 : P 0 a) (h1 : P 1 b) (h2 : P 2 c) : ∀ j x, [a, b, c][j]? = some x → P j x := by
  intro j x hx
  match j, hx with
  | 0, hx => simp at hx; subst hx; exact h0
  | 1, hx => simp at hx; subst hx; exact h1
  | 2, hx => simp at hx; subst hx; exact h2
  | j + 3, hx => simp at hx

/-- The eight tables, made. -/
theorem made_t (w : World) : ∃ W, (Instr.makeSlice 47 (.int .i64 8) (.int .i64 8)).run Try.prog w = .ok (.slice (some ⟨w.heap.size, 0, none⟩) 8 8) W ∧ Recs W w.heap.size 8 3 (fun _ => [.string ⟨#[]⟩, .slice none 0 0, .string ⟨#[]⟩]) ∧ Below w.heap.size w W := by
  obtain ⟨i0, hi, hz0, hz1, hz2⟩ := info_parts info_t
  obtain ⟨W, h1, h2, h3, _⟩ := Recs.made w 47 32 i0 _ 3 Try.underlying47 hi hz0 hz1 (by decide) rfl 8 (by rw [hz2]; decide) (by decide)
  exact ⟨W, h1, h2, h3⟩
theorem made_c (w : World) : ∃ W, (Instr.makeSlice 30 (.int .i64 9) (.int .i64 9)).run Try.prog w = .ok (.slice (some ⟨w.heap.size, 0, none⟩) 9 9) W ∧ Recs W w.heap.size 9 6 (fun _ => [.string ⟨#[]⟩, .int .u8 0, .int .u8 0, .int .i64 0, .int .i64 0, .string ⟨#[]⟩]) ∧ Below w.heap.size w W := by
  obtain ⟨i0, hi, hz0, hz1, hz2⟩ := info_parts info_c
  obtain ⟨W, h1, h2, h3, _⟩ := Recs.made w 30 49 i0 _ 6 Try.underlying30 hi hz0 hz1 (by decide) rfl 9 (by rw [hz2]; decide) (by decide)
  exact ⟨W, h1, h2, h3⟩
theorem made_r (w : World) : ∃ W, (Instr.makeSlice 50 (.int .i64 12) (.int .i64 12)).run Try.prog w = .ok (.slice (some ⟨w.heap.size, 0, none⟩) 12 12) W ∧ Recs W w.heap.size 12 16 (fun _ => ruc zr) ∧ Below w.heap.size w W := by
  obtain ⟨i0, hi, hz0, hz1, hz2⟩ := info_parts info_r
  obtain ⟨W, h1, h2, h3, _⟩ := Recs.made w 50 29 i0 _ 16 Try.underlying50 hi hz0 hz1 (by decide) rfl 12 (by rw [hz2]; decide) (by decide)
  exact ⟨W, h1, h2, h3⟩

/-- The examples' rules here. -/
def ru1 (b : Nat) : Rl := ⟨3, ⟨#[117]⟩, ⟨#[116]⟩, some ⟨b, 0, none⟩, 1, 1, [0], .nil, ⟨#[]⟩, 0, 0, false, true⟩
def rf1 (b : Nat) : Rl := ⟨4, ⟨#[102]⟩, ⟨#[116]⟩, some ⟨b, 0, none⟩, 1, 1, [0], .nil, ⟨#[117]⟩, 0, 0, false, false⟩

theorem Recs.newB (w : World) (g : Nat) (hg : w.heap.size = g) (cs : List Value) (m : Nat) (hl : cs.length = m) (T : TypeId) : Recs (w.alloc (.cells cs.toArray T)) g 1 m (fun _ => cs) := by
  subst hg
  refine ⟨by simp, fun j c v hj hv => ?_, fun _ _ => hl, fun t => by go_simp⟩
  obtain rfl : j = 0 := by omega
  rw [World.cell?_alloc_at _ _ _ _ (by simp)]
  simpa using hv

theorem Recs.one {W : World} {g n m : Nat} {f : Nat → List Value} (h : Recs W g n m f) (hn : 0 < n) : Blk W g (f 0) :=
  ⟨h.lt, fun i v hv => by have := h.at' 0 i v hn hv; rwa [Nat.zero_mul, Nat.zero_add] at this⟩

/-- Numbers, each a record of one cell. -/
def IF (l : List Int) (j : Nat) : List Value := match l[j]? with | some x => [.int .i64 x] | none => []
theorem Recs.newI (w : World) (g : Nat) (hg : w.heap.size = g) (l : List Int) : Recs (w.alloc (.cells (l.map (Value.int .i64)).toArray 3)) g l.length 1 (IF l) := by
  subst hg
  refine ⟨by simp, fun j c v hj hv => ?_, fun j hj => ?_, fun t => by go_simp⟩
  · obtain ⟨x, hx⟩ := getI (l := l) (i := j) hj
    unfold IF at hv
    rw [hx] at hv
    have hc : c = 0 := by have := (List.getElem?_eq_some_iff.1 hv).1; simpa using this
    subst hc
    simp at hv
    subst hv
    rw [World.cell?_alloc_at _ _ _ _ (by simp)]
    simp [hx]
  · obtain ⟨x, hx⟩ := getI (l := l) (i := j) hj
    unfold IF
    rw [hx]
    rfl
theorem Recs.sli {W : World} {q n : Nat} {l : List Int} (h : Recs W q n 1 (IF l)) (hl : l.length = n) (hn : n ≤ 1000000) (hw : ∀ x ∈ l, I64 x) : SlI W (some ⟨q, 0, none⟩) n l := by
  refine ⟨by omega, by unfold maxLen; omega, fun _ => ⟨q, 0, rfl, h.lt, fun i x hx => ?_⟩, hw⟩
  have hi : i < n := by have := (List.getElem?_eq_some_iff.1 hx).1; omega
  have := h.at' i 0 (.int .i64 x) hi (by unfold IF; rw [hx]; rfl)
  rw [Nat.zero_add]
  simpa using this

/-- The blocks of the rules u and f. -/
theorem boxA9 (w : World) (b : Nat) (hb : w.heap.size = b) : ∃ W, (((w.alloc (.cells #[.int .i64 0] 3)).alloc (.cells #[.int .u8 3, .string ⟨#[117]⟩, .string ⟨#[116]⟩, .slice (some ⟨b, 0, none⟩) 1 1, .int .u8 0, .int .u8 0, .int .i64 0, .int .i64 0, .string ⟨#[]⟩, .int .i64 0, .slice none 0 0, .string ⟨#[]⟩, .int .u8 0, .int .u8 0, .bool false, .bool true] 29)).alloc (.cells #[.int .i64 0] 3)).alloc (.cells #[.int .u8 4, .string ⟨#[102]⟩, .string ⟨#[116]⟩, .slice (some ⟨b + 1 + 1, 0, none⟩) 1 1, .int .u8 0, .int .u8 0, .int .i64 0, .int .i64 0, .string ⟨#[]⟩, .int .i64 0, .slice none 0 0, .string ⟨#[117]⟩, .int .u8 0, .int .u8 0, .bool false, .bool false] 29) = W ∧
    SlI W (some ⟨b, 0, none⟩) 1 [0] ∧ Blk W (b + 1) (ruc (ru1 b)) ∧ SlI W (some ⟨b + 1 + 1, 0, none⟩) 1 [0] ∧ Recs W (b + 1 + 1 + 1) 1 16 (fun _ => ruc (rf1 (b + 1 + 1))) ∧ Below w.heap.size w W ∧
    ∃ Wm, Wm.heap.size = b + 1 + 1 + 1 ∧ Below w.heap.size w Wm ∧ Below Wm.heap.size Wm W ∧ SlI Wm (some ⟨b, 0, none⟩) 1 [0] ∧ Blk Wm (b + 1) (ruc (ru1 b)) := by
  obtain ⟨W1, hW1⟩ : ∃ W1, w.alloc (.cells #[.int .i64 0] 3) = W1 := ⟨_, rfl⟩
  obtain ⟨W2, hW2⟩ : ∃ W2, W1.alloc (.cells (ruc (ru1 b)).toArray 29) = W2 := ⟨_, rfl⟩
  obtain ⟨W3, hW3⟩ : ∃ W3, W2.alloc (.cells #[.int .i64 0] 3) = W3 := ⟨_, rfl⟩
  obtain ⟨W4, hW4⟩ : ∃ W4, W3.alloc (.cells (ruc (rf1 (b + 1 + 1))).toArray 29) = W4 := ⟨_, rfl⟩
  have s1 : W1.heap.size = b + 1 := by rw [← hW1]; simp [hb]
  have s2 : W2.heap.size = b + 1 + 1 := by rw [← hW2]; simp [s1]
  have s3 : W3.heap.size = b + 1 + 1 + 1 := by rw [← hW3]; simp [s2]
  have b1 : Below w.heap.size w W1 := by rw [← hW1]; exact Below.allocs _ _
  have b2 : Below W1.heap.size W1 W2 := by rw [← hW2]; exact Below.allocs _ _
  have b3 : Below W2.heap.size W2 W3 := by rw [← hW3]; exact Below.allocs _ _
  have b4 : Below W3.heap.size W3 W4 := by rw [← hW4]; exact Below.allocs _ _
  have F1 : SlI W1 (some ⟨b, 0, none⟩) 1 [0] := by rw [← hW1]; exact newIs w b hb [0] (alli64 (by decide)) (by decide)
  have F2 : Blk W2 (b + 1) (ruc (ru1 b)) := by rw [← hW2, ← s1]; exact Blk.new _ _ _
  have F3 : SlI W3 (some ⟨b + 1 + 1, 0, none⟩) 1 [0] := by rw [← hW3]; exact newIs W2 _ s2 [0] (alli64 (by decide)) (by decide)
  have F4 : Recs W4 (b + 1 + 1 + 1) 1 16 (fun _ => ruc (rf1 (b + 1 + 1))) := by rw [← hW4]; exact Recs.newB W3 _ s3 _ 16 rfl _
  refine ⟨W4, ?_, ((F1.below b2).below b3).below b4, (F2.below b3).below b4, F3.below b4, F4, below_tr (below_tr (below_tr b1 b2) b3) b4, W3, s3, below_tr (below_tr b1 b2) b3, b4, (F1.below b2).below b3, F2.below b3⟩
  rw [← hW4, ← hW3, ← hW2, ← hW1]
  rfl

/-- What holds at the head of the loop that lays the rules. -/
structure LB (v : World) (gw k : Nat) (r : Rl) (wr : World) (f : Nat → List Value) : Prop where
  recs : Recs wr gw 12 16 f
  is : ∀ j, j < k → f j = ruc r
  low : Below gw v wr
theorem LB.step {v : World} {gw k : Nat} {r : Rl} {wr V1 : World} {f : Nat → List Value} (h : LB v gw k r wr f) (hk : k < 12) (hV1 : wr.setCells gw (k * 16) (ruc r) = V1) (h1 : Recs V1 gw 12 16 (updR f k (ruc r))) : LB v gw (k + 1) r V1 (updR f k (ruc r)) := by
  refine ⟨h1, fun j hj => ?_, h.low.trans (by rw [← hV1]; exact below_setCells (Below.refl _ _) (Nat.le_refl _) _ _)⟩
  by_cases hjk : j = k
  · subst hjk; exact updR_same _ _ _
  · rw [updR_other _ _ _ hjk]; exact h.is j (by omega)

def rlate (b : Nat) : Rl := ⟨3, ⟨#[117]⟩, ⟨#[116]⟩, some ⟨b, 0, none⟩, 1, 1, [0], .nil, ⟨#[]⟩, 0, 0, true, true⟩
def rf2 (b : Nat) : Rl := ⟨4, ⟨#[102]⟩, ⟨#[116]⟩, some ⟨b, 0, none⟩, 1, 1, [1], .nil, ⟨#[117]⟩, 0, 0, false, false⟩
def rap1 (b : Nat) : Rl := ⟨5, ⟨#[112]⟩, ⟨#[116]⟩, some ⟨b, 0, none⟩, 1, 1, [0], .nil, ⟨#[]⟩, 0, 0, false, true⟩

set_option maxRecDepth 100000 in
set_option maxHeartbeats 16000000 in
theorem names_law (w : World) : Calls Try.prog 4 #[] w fun e w' => e = .returned (.bool true) ∧ Below w.heap.size w w' := by
  obtain ⟨W1, Z, hmk1, hcv1, hb1, hZ⟩ := made_long w
  obtain ⟨W2, b2, hW2, hb2, hbl2, hs2⟩ := boxS W1 (l1 Z)
  have HS2 := Lib.hid hs2
  have HZ := Lib.hid hZ
  have HB2 := Lib.hid (below_tr hb1 hbl2)
  unfold l1 at hW2
  simp only [List.map_cons, List.map_nil] at hW2
  clear hs2 hZ hb1 hbl2
  go_enter Try.func4, Try.ntmps4
  go_wp2_with fail
  go_loopg [22] 8 (fun gk i wr => ∃ k : Nat, k ≤ 8 ∧ gk = 8 - k ∧ i = .int .i64 k ∧ W2 = wr)
  case atStart => exact ⟨0, Nat.zero_le _, by omega, rfl, rfl⟩
  case round =>
    obtain ⟨k, hk, hgk, rfl, rfl⟩ := hrel
    by_cases hlt : k < 8
    · have hlt1 : (k : Int) < 8 := by omega
      obtain ⟨s, hs, hn⟩ := l1_no HZ.out k hlt
      have hc := HS2.out k s hs
      have HN := Lib.hid hn
      clear hs hn
      go_wp2_with fail
      refine (name_is s false HN.out _).mono ?_
      rintro e w9 ⟨rfl, rfl⟩
      go_wp2_with fail
      go_roundg (8 - (k + 1))
      case measure => omega
      case rel => exact ⟨k + 1, by omega, rfl, by go_num, rfl⟩
    have hlt1 : ¬ (k : Int) < 8 := by omega
    clear hgk hk hlt
    obtain ⟨W3, b3, hW3, hb3, hbl3, hs3⟩ := boxS W2 l2
    have HS3 := Lib.hid hs3
    have HB3 := Lib.hid (below_tr HB2.out hbl3)
    unfold l2 at hW3
    simp only [List.map_cons, List.map_nil] at hW3
    clear hs3 hbl3 hW2 hmk1 hcv1
    go_wp2_with fail
    go_loopg [31] 4 (fun gk i wr => ∃ k : Nat, k ≤ 4 ∧ gk = 4 - k ∧ i = .int .i64 k ∧ W3 = wr)
    case atStart => exact ⟨0, Nat.zero_le _, by omega, rfl, rfl⟩
    case round =>
      obtain ⟨k, hk, hgk, rfl, rfl⟩ := hrel
      by_cases hlt : k < 4
      · have hlt1 : (k : Int) < 4 := by omega
        obtain ⟨s, hs, hn⟩ := l2_yes k hlt
        have hc := HS3.out k s hs
        have HN := Lib.hid hn
        clear hs hn
        go_wp2_with fail
        refine (name_is s true HN.out _).mono ?_
        rintro e w9 ⟨rfl, rfl⟩
        go_wp2_with fail
        go_roundg (4 - (k + 1))
        case measure => omega
        case rel => exact ⟨k + 1, by omega, rfl, by go_num, rfl⟩
      have hlt1 : ¬ (k : Int) < 4 := by omega
      clear hgk hk hlt
      go_wp2_with fail
      refine (table_is W3).mono ?_
      rintro e w4 ⟨⟨g, rfl, hl4⟩, hb4⟩
      obtain ⟨W5, b5, hW5, hb5, B5, hbl5⟩ := boxT w4 (t1 g)
      obtain ⟨W6, hmk6, R6, hbl6⟩ := made_t W5
      obtain ⟨gb, hgb⟩ : ∃ gb, W5.heap.size = gb := ⟨_, rfl⟩
      rw [hgb] at hmk6 R6
      have HGB := Lib.hid hgb
      have HT5 : Hid ((t1 g).In W5) := Lib.hid ((t1_in hl4).below hbl5)
      have HB5 := Lib.hid (below_tr (below_tr HB3.out hb4) hbl5)
      have HT := Lib.hid B5
      have HL6 : Hid (LA W5 gb 0 W6 _ (fun _ => 0) (fun _ => 0)) := Lib.hid ⟨R6, fun j hj => absurd hj (Nat.not_lt_zero j), fun j hj => absurd hj (Nat.not_lt_zero j), fun i j _ hj => absurd hj (Nat.not_lt_zero j), by rw [← hgb]; exact hbl6⟩
      clear hl4 hb4 B5 hbl5 R6 hbl6 hgb hW3
      go_wp2_with fail
      clear hW5 hmk6
      go_loopg [8] 8 (fun gk s8 wr => ∃ (k : Nat) (f : Nat → List Value) (hs cs : Nat → Nat), k ≤ 8 ∧ gk = 8 - k ∧ s8 = .int .i64 k ∧ Hid (LA W5 gb k wr f hs cs))
      case atStart => exact ⟨0, _, _, _, Nat.zero_le _, by omega, rfl, HL6⟩
      case round =>
        obtain ⟨k, f, hs, cs, hk, hgk, rfl, HLA⟩ := hrel
        by_cases hlt : k < 8
        · have hlt1 : (k : Int) < 8 := by omega
          have low : Below W5.heap.size W5 wr := by rw [HGB.out]; exact HLA.out.low
          have tw := HT.out.below low
          have t0 := tw.get 0 _ rfl
          have t1c := tw.get 1 _ rfl
          have t2 := tw.get 2 _ rfl
          obtain ⟨hrun1, R1⟩ := Recs.store (P := Try.prog) HLA.out.recs 32 (j := k) (o := k * 3) hlt rfl (tbc (t1 g)) rfl rfl (by kernel_rfl)
          have hb1' : Below gb wr (wr.setCells gb (k * 3) (tbc (t1 g))) := below_setCells (Below.refl _ _) (Nat.le_refl _) _ _
          obtain ⟨V1, hV1⟩ : ∃ V, wr.setCells gb (k * 3) (tbc (t1 g)) = V := ⟨_, rfl⟩
          rw [hV1] at hrun1 R1 hb1'
          obtain ⟨V2, hV2⟩ : ∃ V, V1.alloc (.cells #[] 49) = V := ⟨_, rfl⟩
          have hN := NilC.new (base := V1.heap.size) V1 (Nat.le_refl _)
          have hb2' := Below.allocs V1 (.cells #[] 49)
          rw [hV2] at hN hb2'
          have low2 : Below W5.heap.size W5 V2 := low.trans (by rw [HGB.out]; exact hb1'.trans (hb2'.mono (Nat.le_of_lt R1.lt)))
          have tw2 := HT.out.below low2
          have s1c := tw2.get 1 _ rfl
          obtain ⟨sv, V3, hrun3, ho3, hb3', _, _⟩ := app_col (base := V1.heap.size) (l := []) (m := tc) hb2'.size hN.2 (HT5.out.below low2).sl (by decide) (fun _ h => by cases h)
          obtain ⟨q, c, rfl⟩ := ho3.some' (by decide)
          have HV : Hid (Below V1.heap.size V1 V3) := Lib.hid (hb2'.trans hb3')
          have R3 := R1.below HV.out
          have e1 := R3.at' k 1 (.slice (t1 g).a 3 3) hlt (by rw [updR_same]; rfl)
          have f1 := R3.fz (k * 3 + 1)
          have HO := Lib.hid ho3
          have HR1 := Lib.hid R1
          have HV1 := Lib.hid hV1
          clear hN low low2 tw tw2 hb1' hb2' hb3' ho3 R1 R3 hV1
          go_wp2_with (first | (refine at_dst none rfl ?_; refine rec_step (by rfl) (by rfl) (by rfl) (by rfl) hrun1 ?_) | (at_builtin; refine append_stepW rfl _ _ 30 rfl _ _ _ _ rfl rfl hrun3 ?_))
          go_roundg (8 - (k + 1))
          case measure => omega
          case rel => exact ⟨k + 1, _, _, _, by omega, rfl, by go_num, Lib.hid (HLA.out.step hlt (tbc (t1 g)) rfl rfl rfl HV1.out HR1.out HV.out q c HO.out)⟩
        have hlt1 : ¬ (k : Int) < 8 := by omega
        obtain rfl : k = 8 := by omega
        clear hgk hk hlt
        have G0 := HLA.out.recs.congr HLA.out.is
        have lw0 : Below W5.heap.size W5 wr := by rw [HGB.out]; exact HLA.out.low
        have hgW : W5.heap.size ≤ gb := Nat.le_of_eq HGB.out
        have hr0 : OwnC (gb + 1) wr (.slice (some ⟨hs 0, 0, none⟩) 3 (cs 0)) tc := HLA.out.row 0 (by decide)
        have ng0 : gb ≠ hs 0 := Nat.ne_of_lt (hr0.lt (hs 0) rfl).1
        obtain ⟨Q0_0, CAP0⟩ := hr0.recs rfl
        have HCAP0 := Lib.hid CAP0
        clear hr0 CAP0
        have hr1 : OwnC (gb + 1) wr (.slice (some ⟨hs 1, 0, none⟩) 3 (cs 1)) tc := HLA.out.row 1 (by decide)
        have ng1 : gb ≠ hs 1 := Nat.ne_of_lt (hr1.lt (hs 1) rfl).1
        obtain ⟨Q1_0, CAP1⟩ := hr1.recs rfl
        have HCAP1 := Lib.hid CAP1
        clear hr1 CAP1
        have hr4 : OwnC (gb + 1) wr (.slice (some ⟨hs 4, 0, none⟩) 3 (cs 4)) tc := HLA.out.row 4 (by decide)
        have ng4 : gb ≠ hs 4 := Nat.ne_of_lt (hr4.lt (hs 4) rfl).1
        obtain ⟨Q4_0, CAP4⟩ := hr4.recs rfl
        have HCAP4 := Lib.hid CAP4
        clear hr4 CAP4
        have hr5 : OwnC (gb + 1) wr (.slice (some ⟨hs 5, 0, none⟩) 3 (cs 5)) tc := HLA.out.row 5 (by decide)
        have ng5 : gb ≠ hs 5 := Nat.ne_of_lt (hr5.lt (hs 5) rfl).1
        obtain ⟨Q5_0, CAP5⟩ := hr5.recs rfl
        have HCAP5 := Lib.hid CAP5
        clear hr5 CAP5
        have hr6 : OwnC (gb + 1) wr (.slice (some ⟨hs 6, 0, none⟩) 3 (cs 6)) tc := HLA.out.row 6 (by decide)
        have ng6 : gb ≠ hs 6 := Nat.ne_of_lt (hr6.lt (hs 6) rfl).1
        obtain ⟨Q6_0, CAP6⟩ := hr6.recs rfl
        have HCAP6 := Lib.hid CAP6
        clear hr6 CAP6
        have hr7 : OwnC (gb + 1) wr (.slice (some ⟨hs 7, 0, none⟩) 3 (cs 7)) tc := HLA.out.row 7 (by decide)
        have ng7 : gb ≠ hs 7 := Nat.ne_of_lt (hr7.lt (hs 7) rfl).1
        obtain ⟨Q7_0, CAP7⟩ := hr7.recs rfl
        have HCAP7 := Lib.hid CAP7
        clear hr7 CAP7
        have nn0_4 : hs 0 ≠ hs 4 := Nat.ne_of_lt (HLA.out.up 0 4 (by decide) (by decide))
        have nn0_5 : hs 0 ≠ hs 5 := Nat.ne_of_lt (HLA.out.up 0 5 (by decide) (by decide))
        have nn0_6 : hs 0 ≠ hs 6 := Nat.ne_of_lt (HLA.out.up 0 6 (by decide) (by decide))
        have nn0_7 : hs 0 ≠ hs 7 := Nat.ne_of_lt (HLA.out.up 0 7 (by decide) (by decide))
        have nn1_4 : hs 1 ≠ hs 4 := Nat.ne_of_lt (HLA.out.up 1 4 (by decide) (by decide))
        have nn1_5 : hs 1 ≠ hs 5 := Nat.ne_of_lt (HLA.out.up 1 5 (by decide) (by decide))
        have nn1_6 : hs 1 ≠ hs 6 := Nat.ne_of_lt (HLA.out.up 1 6 (by decide) (by decide))
        have nn1_7 : hs 1 ≠ hs 7 := Nat.ne_of_lt (HLA.out.up 1 7 (by decide) (by decide))
        have nn4_5 : hs 4 ≠ hs 5 := Nat.ne_of_lt (HLA.out.up 4 5 (by decide) (by decide))
        have nn4_6 : hs 4 ≠ hs 6 := Nat.ne_of_lt (HLA.out.up 4 6 (by decide) (by decide))
        have nn4_7 : hs 4 ≠ hs 7 := Nat.ne_of_lt (HLA.out.up 4 7 (by decide) (by decide))
        have nn5_6 : hs 5 ≠ hs 6 := Nat.ne_of_lt (HLA.out.up 5 6 (by decide) (by decide))
        have nn5_7 : hs 5 ≠ hs 7 := Nat.ne_of_lt (HLA.out.up 5 7 (by decide) (by decide))
        have nn6_7 : hs 6 ≠ hs 7 := Nat.ne_of_lt (HLA.out.up 6 7 (by decide) (by decide))
        have x0 : wr.cell? ⟨gb, 0, none⟩ = some _ := G0.at' 0 0 _ (by decide) rfl
        have y0 := G0.fz 0
        obtain ⟨M1, hM1⟩ : ∃ M, wr.setCell ⟨gb, 0, none⟩ (.string ⟨#[]⟩) = M := ⟨_, rfl⟩
        have Q0_1 := Q0_0.other (q := gb) (o := 0) (ng0) (.string ⟨#[]⟩)
        have Q1_1 := Q1_0.other (q := gb) (o := 0) (ng1) (.string ⟨#[]⟩)
        have Q4_1 := Q4_0.other (q := gb) (o := 0) (ng4) (.string ⟨#[]⟩)
        have Q5_1 := Q5_0.other (q := gb) (o := 0) (ng5) (.string ⟨#[]⟩)
        have Q6_1 := Q6_0.other (q := gb) (o := 0) (ng6) (.string ⟨#[]⟩)
        have Q7_1 := Q7_0.other (q := gb) (o := 0) (ng7) (.string ⟨#[]⟩)
        have G1 := G0.set (j := 0) (c := 0) (o := 0) (by decide) (by decide) rfl (.string ⟨#[]⟩)
        have lw1 := lw0.setCell (p := ⟨gb, 0, none⟩) (hgW) (.string ⟨#[]⟩)
        rw [hM1] at Q0_1 Q1_1 Q4_1 Q5_1 Q6_1 Q7_1 G1 lw1
        have x1 : M1.cell? ⟨gb, 5, none⟩ = some _ := G1.at' 1 2 _ (by decide) rfl
        have y1 := G1.fz 5
        obtain ⟨M2, hM2⟩ : ∃ M, M1.setCell ⟨gb, 5, none⟩ (.string ⟨#[88]⟩) = M := ⟨_, rfl⟩
        have Q0_2 := Q0_1.other (q := gb) (o := 5) (ng0) (.string ⟨#[88]⟩)
        have Q1_2 := Q1_1.other (q := gb) (o := 5) (ng1) (.string ⟨#[88]⟩)
        have Q4_2 := Q4_1.other (q := gb) (o := 5) (ng4) (.string ⟨#[88]⟩)
        have Q5_2 := Q5_1.other (q := gb) (o := 5) (ng5) (.string ⟨#[88]⟩)
        have Q6_2 := Q6_1.other (q := gb) (o := 5) (ng6) (.string ⟨#[88]⟩)
        have Q7_2 := Q7_1.other (q := gb) (o := 5) (ng7) (.string ⟨#[88]⟩)
        have G2 := G1.set (j := 1) (c := 2) (o := 5) (by decide) (by decide) rfl (.string ⟨#[88]⟩)
        have lw2 := lw1.setCell (p := ⟨gb, 5, none⟩) (hgW) (.string ⟨#[88]⟩)
        rw [hM2] at Q0_2 Q1_2 Q4_2 Q5_2 Q6_2 Q7_2 G2 lw2
        have x2 : M2.cell? ⟨gb, 7, none⟩ = some _ := G2.at' 2 1 _ (by decide) rfl
        have y2 := G2.fz 7
        obtain ⟨M3, hM3⟩ : ∃ M, M2.setCell ⟨gb, 7, none⟩ (.slice none 0 0) = M := ⟨_, rfl⟩
        have Q0_3 := Q0_2.other (q := gb) (o := 7) (ng0) (.slice none 0 0)
        have Q1_3 := Q1_2.other (q := gb) (o := 7) (ng1) (.slice none 0 0)
        have Q4_3 := Q4_2.other (q := gb) (o := 7) (ng4) (.slice none 0 0)
        have Q5_3 := Q5_2.other (q := gb) (o := 7) (ng5) (.slice none 0 0)
        have Q6_3 := Q6_2.other (q := gb) (o := 7) (ng6) (.slice none 0 0)
        have Q7_3 := Q7_2.other (q := gb) (o := 7) (ng7) (.slice none 0 0)
        have G3 := G2.set (j := 2) (c := 1) (o := 7) (by decide) (by decide) rfl (.slice none 0 0)
        have lw3 := lw2.setCell (p := ⟨gb, 7, none⟩) (hgW) (.slice none 0 0)
        rw [hM3] at Q0_3 Q1_3 Q4_3 Q5_3 Q6_3 Q7_3 G3 lw3
        obtain ⟨M4, hmk4, K4, hbm4⟩ := made_c M3
        obtain ⟨hm, hhm⟩ : ∃ x, M3.heap.size = x := ⟨_, rfl⟩
        have nk : gb ≠ hm := by rw [← hhm]; exact Nat.ne_of_lt G3.lt
        have G4 := G3.below hbm4
        have lw4 := lw3.trans (hbm4.mono lw3.size)
        have nk0 : hs 0 ≠ hm := by rw [← hhm]; exact Nat.ne_of_lt Q0_3.lt
        have Q0_4 := Q0_3.below hbm4
        have nk1 : hs 1 ≠ hm := by rw [← hhm]; exact Nat.ne_of_lt Q1_3.lt
        have Q1_4 := Q1_3.below hbm4
        have nk4 : hs 4 ≠ hm := by rw [← hhm]; exact Nat.ne_of_lt Q4_3.lt
        have Q4_4 := Q4_3.below hbm4
        have nk5 : hs 5 ≠ hm := by rw [← hhm]; exact Nat.ne_of_lt Q5_3.lt
        have Q5_4 := Q5_3.below hbm4
        have nk6 : hs 6 ≠ hm := by rw [← hhm]; exact Nat.ne_of_lt Q6_3.lt
        have Q6_4 := Q6_3.below hbm4
        have nk7 : hs 7 ≠ hm := by rw [← hhm]; exact Nat.ne_of_lt Q7_3.lt
        have Q7_4 := Q7_3.below hbm4
        rw [hhm] at hmk4 K4
        clear hbm4
        have x4 : M4.cell? ⟨gb, 10, none⟩ = some _ := G4.at' 3 1 _ (by decide) rfl
        have y4 := G4.fz 10
        obtain ⟨M5, hM5⟩ : ∃ M, M4.setCell ⟨gb, 10, none⟩ (.slice (some ⟨hm, 0, none⟩) 9 9) = M := ⟨_, rfl⟩
        have Q0_5 := Q0_4.other (q := gb) (o := 10) (ng0) (.slice (some ⟨hm, 0, none⟩) 9 9)
        have Q1_5 := Q1_4.other (q := gb) (o := 10) (ng1) (.slice (some ⟨hm, 0, none⟩) 9 9)
        have Q4_5 := Q4_4.other (q := gb) (o := 10) (ng4) (.slice (some ⟨hm, 0, none⟩) 9 9)
        have Q5_5 := Q5_4.other (q := gb) (o := 10) (ng5) (.slice (some ⟨hm, 0, none⟩) 9 9)
        have Q6_5 := Q6_4.other (q := gb) (o := 10) (ng6) (.slice (some ⟨hm, 0, none⟩) 9 9)
        have Q7_5 := Q7_4.other (q := gb) (o := 10) (ng7) (.slice (some ⟨hm, 0, none⟩) 9 9)
        have K5 := K4.other (q := gb) (o := 10) (nk) (.slice (some ⟨hm, 0, none⟩) 9 9)
        have G5 := G4.set (j := 3) (c := 1) (o := 10) (by decide) (by decide) rfl (.slice (some ⟨hm, 0, none⟩) 9 9)
        have lw5 := lw4.setCell (p := ⟨gb, 10, none⟩) (hgW) (.slice (some ⟨hm, 0, none⟩) 9 9)
        rw [hM5] at Q0_5 Q1_5 Q4_5 Q5_5 Q6_5 Q7_5 K5 G5 lw5
        have x5 : M5.cell? ⟨hs 4, 6, none⟩ = some _ := Q4_5.at' 1 0 _ (by decide) rfl
        have y5 := Q4_5.fz 6
        have z5 : M5.cell? ⟨gb, 13, none⟩ = some (.slice (some ⟨hs 4, 0, none⟩) 3 (cs 4)) := G5.at' 4 1 _ (by decide) rfl
        obtain ⟨M6, hM6⟩ : ∃ M, M5.setCell ⟨hs 4, 6, none⟩ (.string ⟨#[97]⟩) = M := ⟨_, rfl⟩
        have G6 := G5.other (q := hs 4) (o := 6) ng4.symm (.string ⟨#[97]⟩)
        have Q0_6 := Q0_5.other (q := hs 4) (o := 6) (nn0_4.symm) (.string ⟨#[97]⟩)
        have Q1_6 := Q1_5.other (q := hs 4) (o := 6) (nn1_4.symm) (.string ⟨#[97]⟩)
        have Q5_6 := Q5_5.other (q := hs 4) (o := 6) (nn4_5) (.string ⟨#[97]⟩)
        have Q6_6 := Q6_5.other (q := hs 4) (o := 6) (nn4_6) (.string ⟨#[97]⟩)
        have Q7_6 := Q7_5.other (q := hs 4) (o := 6) (nn4_7) (.string ⟨#[97]⟩)
        have K6 := K5.other (q := hs 4) (o := 6) (nk4) (.string ⟨#[97]⟩)
        have Q4_6 := Q4_5.set (j := 1) (c := 0) (o := 6) (by decide) (by decide) rfl (.string ⟨#[97]⟩)
        have lw6 := lw5.setCell (p := ⟨hs 4, 6, none⟩) (by have := HLA.out.row 4 (by decide); have := (this.lt (hs 4) rfl).1; show W5.heap.size ≤ hs 4; omega) (.string ⟨#[97]⟩)
        rw [hM6] at G6 Q0_6 Q1_6 Q5_6 Q6_6 Q7_6 K6 Q4_6 lw6
        have x6 : M6.cell? ⟨hs 5, 1, none⟩ = some _ := Q5_6.at' 0 1 _ (by decide) rfl
        have y6 := Q5_6.fz 1
        have z6 : M6.cell? ⟨gb, 16, none⟩ = some (.slice (some ⟨hs 5, 0, none⟩) 3 (cs 5)) := G6.at' 5 1 _ (by decide) rfl
        obtain ⟨M7, hM7⟩ : ∃ M, M6.setCell ⟨hs 5, 1, none⟩ (.int .u8 0) = M := ⟨_, rfl⟩
        have G7 := G6.other (q := hs 5) (o := 1) ng5.symm (.int .u8 0)
        have Q0_7 := Q0_6.other (q := hs 5) (o := 1) (nn0_5.symm) (.int .u8 0)
        have Q1_7 := Q1_6.other (q := hs 5) (o := 1) (nn1_5.symm) (.int .u8 0)
        have Q4_7 := Q4_6.other (q := hs 5) (o := 1) (nn4_5.symm) (.int .u8 0)
        have Q6_7 := Q6_6.other (q := hs 5) (o := 1) (nn5_6) (.int .u8 0)
        have Q7_7 := Q7_6.other (q := hs 5) (o := 1) (nn5_7) (.int .u8 0)
        have K7 := K6.other (q := hs 5) (o := 1) (nk5) (.int .u8 0)
        have Q5_7 := Q5_6.set (j := 0) (c := 1) (o := 1) (by decide) (by decide) rfl (.int .u8 0)
        have lw7 := lw6.setCell (p := ⟨hs 5, 1, none⟩) (by have := HLA.out.row 5 (by decide); have := (this.lt (hs 5) rfl).1; show W5.heap.size ≤ hs 5; omega) (.int .u8 0)
        rw [hM7] at G7 Q0_7 Q1_7 Q4_7 Q6_7 Q7_7 K7 Q5_7 lw7
        have x7 : M7.cell? ⟨hs 6, 1, none⟩ = some _ := Q6_7.at' 0 1 _ (by decide) rfl
        have y7 := Q6_7.fz 1
        have z7 : M7.cell? ⟨gb, 19, none⟩ = some (.slice (some ⟨hs 6, 0, none⟩) 3 (cs 6)) := G7.at' 6 1 _ (by decide) rfl
        obtain ⟨M8, hM8⟩ : ∃ M, M7.setCell ⟨hs 6, 1, none⟩ (.int .u8 5) = M := ⟨_, rfl⟩
        have G8 := G7.other (q := hs 6) (o := 1) ng6.symm (.int .u8 5)
        have Q0_8 := Q0_7.other (q := hs 6) (o := 1) (nn0_6.symm) (.int .u8 5)
        have Q1_8 := Q1_7.other (q := hs 6) (o := 1) (nn1_6.symm) (.int .u8 5)
        have Q4_8 := Q4_7.other (q := hs 6) (o := 1) (nn4_6.symm) (.int .u8 5)
        have Q5_8 := Q5_7.other (q := hs 6) (o := 1) (nn5_6.symm) (.int .u8 5)
        have Q7_8 := Q7_7.other (q := hs 6) (o := 1) (nn6_7) (.int .u8 5)
        have K8 := K7.other (q := hs 6) (o := 1) (nk6) (.int .u8 5)
        have Q6_8 := Q6_7.set (j := 0) (c := 1) (o := 1) (by decide) (by decide) rfl (.int .u8 5)
        have lw8 := lw7.setCell (p := ⟨hs 6, 1, none⟩) (by have := HLA.out.row 6 (by decide); have := (this.lt (hs 6) rfl).1; show W5.heap.size ≤ hs 6; omega) (.int .u8 5)
        rw [hM8] at G8 Q0_8 Q1_8 Q4_8 Q5_8 Q7_8 K8 Q6_8 lw8
        have x8 : M8.cell? ⟨hs 7, 2, none⟩ = some _ := Q7_8.at' 0 2 _ (by decide) rfl
        have y8 := Q7_8.fz 2
        have z8 : M8.cell? ⟨gb, 22, none⟩ = some (.slice (some ⟨hs 7, 0, none⟩) 3 (cs 7)) := G8.at' 7 1 _ (by decide) rfl
        obtain ⟨M9, hM9⟩ : ∃ M, M8.setCell ⟨hs 7, 2, none⟩ (.int .u8 3) = M := ⟨_, rfl⟩
        have G9 := G8.other (q := hs 7) (o := 2) ng7.symm (.int .u8 3)
        have Q0_9 := Q0_8.other (q := hs 7) (o := 2) (nn0_7.symm) (.int .u8 3)
        have Q1_9 := Q1_8.other (q := hs 7) (o := 2) (nn1_7.symm) (.int .u8 3)
        have Q4_9 := Q4_8.other (q := hs 7) (o := 2) (nn4_7.symm) (.int .u8 3)
        have Q5_9 := Q5_8.other (q := hs 7) (o := 2) (nn5_7.symm) (.int .u8 3)
        have Q6_9 := Q6_8.other (q := hs 7) (o := 2) (nn6_7.symm) (.int .u8 3)
        have K9 := K8.other (q := hs 7) (o := 2) (nk7) (.int .u8 3)
        have Q7_9 := Q7_8.set (j := 0) (c := 2) (o := 2) (by decide) (by decide) rfl (.int .u8 3)
        have lw9 := lw8.setCell (p := ⟨hs 7, 2, none⟩) (by have := HLA.out.row 7 (by decide); have := (this.lt (hs 7) rfl).1; show W5.heap.size ≤ hs 7; omega) (.int .u8 3)
        rw [hM9] at G9 Q0_9 Q1_9 Q4_9 Q5_9 Q6_9 K9 Q7_9 lw9
        have x9 : M9.cell? ⟨hs 7, 3, none⟩ = some _ := Q7_9.at' 0 3 _ (by decide) rfl
        have y9 := Q7_9.fz 3
        obtain ⟨M10, hM10⟩ : ∃ M, M9.setCell ⟨hs 7, 3, none⟩ (.int .i64 0) = M := ⟨_, rfl⟩
        have G10 := G9.other (q := hs 7) (o := 3) ng7.symm (.int .i64 0)
        have Q0_10 := Q0_9.other (q := hs 7) (o := 3) (nn0_7.symm) (.int .i64 0)
        have Q1_10 := Q1_9.other (q := hs 7) (o := 3) (nn1_7.symm) (.int .i64 0)
        have Q4_10 := Q4_9.other (q := hs 7) (o := 3) (nn4_7.symm) (.int .i64 0)
        have Q5_10 := Q5_9.other (q := hs 7) (o := 3) (nn5_7.symm) (.int .i64 0)
        have Q6_10 := Q6_9.other (q := hs 7) (o := 3) (nn6_7.symm) (.int .i64 0)
        have K10 := K9.other (q := hs 7) (o := 3) (nk7) (.int .i64 0)
        have Q7_10 := Q7_9.set (j := 0) (c := 3) (o := 3) (by decide) (by decide) rfl (.int .i64 0)
        have lw10 := lw9.setCell (p := ⟨hs 7, 3, none⟩) (by have := HLA.out.row 7 (by decide); have := (this.lt (hs 7) rfl).1; show W5.heap.size ≤ hs 7; omega) (.int .i64 0)
        rw [hM10] at G10 Q0_10 Q1_10 Q4_10 Q5_10 Q6_10 K10 Q7_10 lw10
        have x10 : M10.cell? ⟨hs 7, 4, none⟩ = some _ := Q7_10.at' 0 4 _ (by decide) rfl
        have y10 := Q7_10.fz 4
        obtain ⟨M11, hM11⟩ : ∃ M, M10.setCell ⟨hs 7, 4, none⟩ (.int .i64 0) = M := ⟨_, rfl⟩
        have G11 := G10.other (q := hs 7) (o := 4) ng7.symm (.int .i64 0)
        have Q0_11 := Q0_10.other (q := hs 7) (o := 4) (nn0_7.symm) (.int .i64 0)
        have Q1_11 := Q1_10.other (q := hs 7) (o := 4) (nn1_7.symm) (.int .i64 0)
        have Q4_11 := Q4_10.other (q := hs 7) (o := 4) (nn4_7.symm) (.int .i64 0)
        have Q5_11 := Q5_10.other (q := hs 7) (o := 4) (nn5_7.symm) (.int .i64 0)
        have Q6_11 := Q6_10.other (q := hs 7) (o := 4) (nn6_7.symm) (.int .i64 0)
        have K11 := K10.other (q := hs 7) (o := 4) (nk7) (.int .i64 0)
        have Q7_11 := Q7_10.set (j := 0) (c := 4) (o := 4) (by decide) (by decide) rfl (.int .i64 0)
        have lw11 := lw10.setCell (p := ⟨hs 7, 4, none⟩) (by have := HLA.out.row 7 (by decide); have := (this.lt (hs 7) rfl).1; show W5.heap.size ≤ hs 7; omega) (.int .i64 0)
        rw [hM11] at G11 Q0_11 Q1_11 Q4_11 Q5_11 Q6_11 K11 Q7_11 lw11
        have x11 : M11.cell? ⟨hs 7, 5, none⟩ = some _ := Q7_11.at' 0 5 _ (by decide) rfl
        have y11 := Q7_11.fz 5
        obtain ⟨M12, hM12⟩ : ∃ M, M11.setCell ⟨hs 7, 5, none⟩ (.string ⟨#[]⟩) = M := ⟨_, rfl⟩
        have G12 := G11.other (q := hs 7) (o := 5) ng7.symm (.string ⟨#[]⟩)
        have Q0_12 := Q0_11.other (q := hs 7) (o := 5) (nn0_7.symm) (.string ⟨#[]⟩)
        have Q1_12 := Q1_11.other (q := hs 7) (o := 5) (nn1_7.symm) (.string ⟨#[]⟩)
        have Q4_12 := Q4_11.other (q := hs 7) (o := 5) (nn4_7.symm) (.string ⟨#[]⟩)
        have Q5_12 := Q5_11.other (q := hs 7) (o := 5) (nn5_7.symm) (.string ⟨#[]⟩)
        have Q6_12 := Q6_11.other (q := hs 7) (o := 5) (nn6_7.symm) (.string ⟨#[]⟩)
        have K12 := K11.other (q := hs 7) (o := 5) (nk7) (.string ⟨#[]⟩)
        have Q7_12 := Q7_11.set (j := 0) (c := 5) (o := 5) (by decide) (by decide) rfl (.string ⟨#[]⟩)
        have lw12 := lw11.setCell (p := ⟨hs 7, 5, none⟩) (by have := HLA.out.row 7 (by decide); have := (this.lt (hs 7) rfl).1; show W5.heap.size ≤ hs 7; omega) (.string ⟨#[]⟩)
        rw [hM12] at G12 Q0_12 Q1_12 Q4_12 Q5_12 Q6_12 K12 Q7_12 lw12
        have HG12 := Lib.hid G12
        have HQ0_12 := Lib.hid Q0_12
        have HQ1_12 := Lib.hid Q1_12
        have HQ4_12 := Lib.hid Q4_12
        have HQ5_12 := Lib.hid Q5_12
        have HQ6_12 := Lib.hid Q6_12
        have HQ7_12 := Lib.hid Q7_12
        have HK12 := Lib.hid K12
        have Hlw12 := Lib.hid lw12
        clear G0 Q0_0 Q1_0 Q4_0 Q5_0 Q6_0 Q7_0 lw0 G1 Q0_1 Q1_1 Q4_1 Q5_1 Q6_1 Q7_1 lw1 G2 Q0_2 Q1_2 Q4_2 Q5_2 Q6_2 Q7_2 lw2 G3 lw3 Q0_3 Q1_3 Q4_3 Q5_3 Q6_3 Q7_3 G4 Q0_4 Q1_4 Q4_4 Q5_4 Q6_4 Q7_4 lw4 K4 G5 Q0_5 Q1_5 Q4_5 Q5_5 Q6_5 Q7_5 lw5 K5 G6 Q0_6 Q1_6 Q4_6 Q5_6 Q6_6 Q7_6 lw6 K6 G7 Q0_7 Q1_7 Q4_7 Q5_7 Q6_7 Q7_7 lw7 K7 G8 Q0_8 Q1_8 Q4_8 Q5_8 Q6_8 Q7_8 lw8 K8 G9 Q0_9 Q1_9 Q4_9 Q5_9 Q6_9 Q7_9 lw9 K9 G10 Q0_10 Q1_10 Q4_10 Q5_10 Q6_10 Q7_10 lw10 K10 G11 Q0_11 Q1_11 Q4_11 Q5_11 Q6_11 Q7_11 lw11 K11 G12 K12 lw12 Q0_12 Q1_12 Q4_12 Q5_12 Q6_12 Q7_12
        go_wp2_with fail
        have HTB : Hid (∀ j, j < 8 → ∃ t : Tb, (∀ c v, (tbc t)[c]? = some v → M12.cell? ⟨gb, j * 3 + c, none⟩ = some v) ∧ t.In M12 ∧ tableB t = false) := Lib.hid (fun j hj => by
          match j, hj with
          | 0, _ => exact ⟨⟨⟨#[]⟩, some ⟨hs 0, 0, none⟩, 3, cs 0, tc, ⟨#[114, 111, 111, 116]⟩⟩, fun c v hv => HG12.out.at' 0 c v (by decide) hv, ⟨HQ0_12.out.slc (l := tc) rfl (three rfl rfl rfl) HCAP0.out.1 HCAP0.out.2 (allwfC (by decide)), rfl, of_decide_eq_true (by kernel_rfl), of_decide_eq_true (by kernel_rfl)⟩, by kernel_rfl⟩
          | 1, _ => exact ⟨⟨⟨#[116]⟩, some ⟨hs 1, 0, none⟩, 3, cs 1, tc, ⟨#[88]⟩⟩, fun c v hv => HG12.out.at' 1 c v (by decide) hv, ⟨HQ1_12.out.slc (l := tc) rfl (three rfl rfl rfl) HCAP1.out.1 HCAP1.out.2 (allwfC (by decide)), rfl, of_decide_eq_true (by kernel_rfl), of_decide_eq_true (by kernel_rfl)⟩, by kernel_rfl⟩
          | 2, _ => exact ⟨⟨⟨#[116]⟩, none, 0, 0, [], ⟨#[114, 111, 111, 116]⟩⟩, fun c v hv => HG12.out.at' 2 c v (by decide) hv, ⟨SlC.nil _ _ _ (by decide), rfl, of_decide_eq_true (by kernel_rfl), of_decide_eq_true (by kernel_rfl)⟩, by kernel_rfl⟩
          | 3, _ => exact ⟨⟨⟨#[116]⟩, some ⟨hm, 0, none⟩, 9, 9, tc9, ⟨#[114, 111, 111, 116]⟩⟩, fun c v hv => HG12.out.at' 3 c v (by decide) hv, ⟨HK12.out.slc (l := tc9) rfl (fun j x hx => by have := List.mem_of_getElem? hx; simp only [tc9, List.mem_cons, List.not_mem_nil, or_false, or_self] at this; subst this; rfl) (Nat.le_refl _) (of_decide_eq_true (by kernel_rfl)) (allwfC (by decide)), rfl, of_decide_eq_true (by kernel_rfl), of_decide_eq_true (by kernel_rfl)⟩, by kernel_rfl⟩
          | 4, _ => exact ⟨⟨⟨#[116]⟩, some ⟨hs 4, 0, none⟩, 3, cs 4, tc4, ⟨#[114, 111, 111, 116]⟩⟩, fun c v hv => HG12.out.at' 4 c v (by decide) hv, ⟨HQ4_12.out.slc (l := tc4) rfl (three rfl rfl rfl) HCAP4.out.1 HCAP4.out.2 (allwfC (by decide)), rfl, of_decide_eq_true (by kernel_rfl), of_decide_eq_true (by kernel_rfl)⟩, by kernel_rfl⟩
          | 5, _ => exact ⟨⟨⟨#[116]⟩, some ⟨hs 5, 0, none⟩, 3, cs 5, tc5, ⟨#[114, 111, 111, 116]⟩⟩, fun c v hv => HG12.out.at' 5 c v (by decide) hv, ⟨HQ5_12.out.slc (l := tc5) rfl (three rfl rfl rfl) HCAP5.out.1 HCAP5.out.2 (allwfC (by decide)), rfl, of_decide_eq_true (by kernel_rfl), of_decide_eq_true (by kernel_rfl)⟩, by kernel_rfl⟩
          | 6, _ => exact ⟨⟨⟨#[116]⟩, some ⟨hs 6, 0, none⟩, 3, cs 6, tc6, ⟨#[114, 111, 111, 116]⟩⟩, fun c v hv => HG12.out.at' 6 c v (by decide) hv, ⟨HQ6_12.out.slc (l := tc6) rfl (three rfl rfl rfl) HCAP6.out.1 HCAP6.out.2 (allwfC (by decide)), rfl, of_decide_eq_true (by kernel_rfl), of_decide_eq_true (by kernel_rfl)⟩, by kernel_rfl⟩
          | 7, _ => exact ⟨⟨⟨#[116]⟩, some ⟨hs 7, 0, none⟩, 3, cs 7, tc7, ⟨#[114, 111, 111, 116]⟩⟩, fun c v hv => HG12.out.at' 7 c v (by decide) hv, ⟨HQ7_12.out.slc (l := tc7) rfl (three rfl rfl rfl) HCAP7.out.1 HCAP7.out.2 (allwfC (by decide)), rfl, of_decide_eq_true (by kernel_rfl), of_decide_eq_true (by kernel_rfl)⟩, by kernel_rfl⟩)
        have HGL : Hid (gb < M12.heap.size) := Lib.hid HG12.out.lt
        have HT12 := Lib.hid (HT.out.below Hlw12.out)
        have HTI := Lib.hid (HT5.out.below Hlw12.out)
        have HB12 := Lib.hid (below_tr HB5.out Hlw12.out)
        go_loopg [9] 8 (fun gk s9 wr => ∃ k : Nat, k ≤ 8 ∧ gk = 8 - k ∧ s9 = .int .i64 k ∧ Hid (Below M12.heap.size M12 wr))
        case atStart => exact ⟨0, Nat.zero_le _, by omega, rfl, Lib.hid (Below.refl _ _)⟩
        case round =>
          obtain ⟨k, hk, hgk, rfl, BW⟩ := hrel
          by_cases hlt : k < 8
          · have hlt1 : (k : Int) < 8 := by omega
            obtain ⟨t, hct, hin, htb⟩ := HTB.out k hlt
            have v0 : wr.cell? ⟨gb, k * 3, none⟩ = some (.string t.nm) := by rw [BW.out.cell (p := ⟨gb, _, none⟩) HGL.out]; exact hct 0 _ rfl
            have v1 : wr.cell? ⟨gb, k * 3 + 1, none⟩ = some (.slice t.a t.n t.cap) := by rw [BW.out.cell (p := ⟨gb, _, none⟩) HGL.out]; exact hct 1 _ rfl
            have v2 : wr.cell? ⟨gb, k * 3 + 2, none⟩ = some (.string t.ow) := by rw [BW.out.cell (p := ⟨gb, _, none⟩) HGL.out]; exact hct 2 _ rfl
            have hcon := maytable_is t false htb wr (hin.below BW.out)
            clear hct hin htb
            go_wp2_with fail
            refine (show Calls Try.prog _ _ _ _ from hcon).mono ?_
            rintro e w9 ⟨rfl, hb9⟩
            have BW9 := Lib.hid (below_tr BW.out hb9)
            clear hcon hb9 v0 v1 v2
            go_wp2_with fail
            go_roundg (8 - (k + 1))
            case measure => omega
            case rel => exact ⟨k + 1, by omega, rfl, by go_num, BW9⟩
          have hlt1 : ¬ (k : Int) < 8 := by omega
          obtain rfl : k = 8 := by omega
          clear hgk hk hlt
          obtain ⟨b, hb⟩ : ∃ b, wr.heap.size = b := ⟨_, rfl⟩
          obtain ⟨V4, hV4, ui, ub, fi, fr, hbv, Wm, hsm, hbm, hbm4, uim, ubm⟩ := boxA9 wr b hb
          have HSM := Lib.hid hsm
          have HUIM := Lib.hid uim
          have HUBM := Lib.hid ubm
          have HTM := Lib.hid ((HT12.out.below BW.out).below hbm)
          have HTIM := Lib.hid ((HTI.out.below BW.out).below hbm)
          have HBM := Lib.hid (below_tr (below_tr HB12.out BW.out) hbm)
          have HBM4 := Lib.hid hbm4
          clear hsm uim ubm hbm hbm4
          have HUI := Lib.hid ui
          have HUB := Lib.hid ub
          have HFI := Lib.hid fi
          have HFR := Lib.hid fr
          have HBV := Lib.hid (below_tr (below_tr HB12.out BW.out) hbv)
          have HTV := Lib.hid ((HT12.out.below BW.out).below hbv)
          have HTJ := Lib.hid ((HTI.out.below BW.out).below hbv)
          have B0 := Lib.hid (Below.refl V4.heap.size V4)
          clear ui ub fi fr hbv
          have hcon := rfits_is (ru1 b) (t1 g) zr zt V4 (mk_in (r := ru1 b) (HUI.out.below B0.out) rfl (exnil_in _) (by kernel_rfl)) (HTJ.out.below B0.out) (zr_in _) (zt_in _) (show 1 ≤ 1000000 by decide) (by decide) 0 (by kernel_rfl)
          go_wp2_with (first | (refine at_dst none rfl ?_; refine store_fresh (by rfl) (by rfl) (by rfl) (by rfl) (by first | exact hb | (simp only [World.heap_alloc, Array.size_push, hb]; done) | (simp [hb]; done)) (by kernel_rfl) (by rfl) (by kernel_rfl) ?_; try rw [hV4]) | (refine at_dst (some 112) rfl ?_; refine load_step 112 29 10 _ _ _ _ rfl (b + 1) 0 rfl [.int .u8 (ru1 b).kind, .string (ru1 b).nm, .string (ru1 b).tb, .slice (ru1 b).a (ru1 b).n (ru1 b).cap, .int .u8 (ru1 b).is.op, .int .u8 (ru1 b).is.v.k, .int .i64 (ru1 b).is.v.n, .int .i64 (ru1 b).is.v.u, .string (ru1 b).is.v.t, .int .i64 (ru1 b).is.m, .slice (ru1 b).is.a (ru1 b).is.len (ru1 b).is.cap, .string (ru1 b).to, .int .u8 (ru1 b).od, .int .u8 (ru1 b).ou, .bool (ru1 b).late, .bool (ru1 b).valid] _ ((HUB.out.below B0.out).at0) Try.underlying29 rfl (by kernel_rfl) ?_) | (refine at_dst (some 113) rfl ?_; refine load_step 113 32 6 _ _ _ _ rfl b5 0 rfl [.string (t1 g).nm, .slice (t1 g).a (t1 g).n (t1 g).cap, .string (t1 g).ow] _ ((HTV.out.below B0.out).at0) Try.underlying32 rfl (by kernel_rfl) ?_))
          refine (show Calls Try.prog _ _ _ _ from hcon).mono ?_
          rintro e v1 ⟨rfl, hb1⟩
          have B1 := Lib.hid (below_tr B0.out hb1)
          clear hcon hb1 hV4
          have hcon := rfits_is (rf1 (b + 1 + 1)) (t1 g) (ru1 b) (t1 g) v1 (mk_in (r := rf1 (b + 1 + 1)) (HFI.out.below B1.out) rfl (exnil_in _) (by kernel_rfl)) (HTJ.out.below B1.out) (mk_in (r := ru1 b) (HUI.out.below B1.out) rfl (exnil_in _) (by kernel_rfl)) (HTJ.out.below B1.out) (show 1 ≤ 1000000 by decide) (show 1 ≤ 1000000 by decide) 0 (by kernel_rfl)
          go_wp2_with (first | (refine at_dst (some 119) rfl ?_; refine load_step 119 29 11 _ _ _ _ rfl (b + 1 + 1 + 1) 0 rfl [.int .u8 (rf1 (b + 1 + 1)).kind, .string (rf1 (b + 1 + 1)).nm, .string (rf1 (b + 1 + 1)).tb, .slice (rf1 (b + 1 + 1)).a (rf1 (b + 1 + 1)).n (rf1 (b + 1 + 1)).cap, .int .u8 (rf1 (b + 1 + 1)).is.op, .int .u8 (rf1 (b + 1 + 1)).is.v.k, .int .i64 (rf1 (b + 1 + 1)).is.v.n, .int .i64 (rf1 (b + 1 + 1)).is.v.u, .string (rf1 (b + 1 + 1)).is.v.t, .int .i64 (rf1 (b + 1 + 1)).is.m, .slice (rf1 (b + 1 + 1)).is.a (rf1 (b + 1 + 1)).is.len (rf1 (b + 1 + 1)).is.cap, .string (rf1 (b + 1 + 1)).to, .int .u8 (rf1 (b + 1 + 1)).od, .int .u8 (rf1 (b + 1 + 1)).ou, .bool (rf1 (b + 1 + 1)).late, .bool (rf1 (b + 1 + 1)).valid] _ (((HFR.out.below B1.out).one (by decide)).at0) Try.underlying29 rfl (by kernel_rfl) ?_) | (refine at_dst (some 120) rfl ?_; refine load_step 120 32 6 _ _ _ _ rfl b5 0 rfl [.string (t1 g).nm, .slice (t1 g).a (t1 g).n (t1 g).cap, .string (t1 g).ow] _ ((HTV.out.below B1.out).at0) Try.underlying32 rfl (by kernel_rfl) ?_) | (refine at_dst (some 121) rfl ?_; refine load_step 121 29 10 _ _ _ _ rfl (b + 1) 0 rfl [.int .u8 (ru1 b).kind, .string (ru1 b).nm, .string (ru1 b).tb, .slice (ru1 b).a (ru1 b).n (ru1 b).cap, .int .u8 (ru1 b).is.op, .int .u8 (ru1 b).is.v.k, .int .i64 (ru1 b).is.v.n, .int .i64 (ru1 b).is.v.u, .string (ru1 b).is.v.t, .int .i64 (ru1 b).is.m, .slice (ru1 b).is.a (ru1 b).is.len (ru1 b).is.cap, .string (ru1 b).to, .int .u8 (ru1 b).od, .int .u8 (ru1 b).ou, .bool (ru1 b).late, .bool (ru1 b).valid] _ ((HUB.out.below B1.out).at0) Try.underlying29 rfl (by kernel_rfl) ?_) | (refine at_dst (some 122) rfl ?_; refine load_step 122 32 6 _ _ _ _ rfl b5 0 rfl [.string (t1 g).nm, .slice (t1 g).a (t1 g).n (t1 g).cap, .string (t1 g).ow] _ ((HTV.out.below B1.out).at0) Try.underlying32 rfl (by kernel_rfl) ?_))
          refine (show Calls Try.prog _ _ _ _ from hcon).mono ?_
          rintro e v2 ⟨rfl, hb2⟩
          have B2 := Lib.hid (below_tr B1.out hb2)
          clear hcon hb2
          obtain ⟨V5, hmk9, RR, hbm9⟩ := made_r v2
          obtain ⟨gw, hgw⟩ : ∃ x, v2.heap.size = x := ⟨_, rfl⟩
          rw [hgw] at hmk9 RR
          have HGW := Lib.hid hgw
          have HL9 : Hid (LB v2 gw 0 (rf1 (b + 1 + 1)) V5 _) := Lib.hid ⟨RR, fun j hj => absurd hj (Nat.not_lt_zero j), by rw [← hgw]; exact hbm9⟩
          clear RR hbm9 hgw
          go_wp2_with fail
          clear hmk9
          go_loopg [13] 12 (fun gk s13 wr => ∃ (k : Nat) (f : Nat → List Value), k ≤ 12 ∧ gk = 12 - k ∧ s13 = .int .i64 k ∧ Hid (LB v2 gw k (rf1 (b + 1 + 1)) wr f))
          case atStart => exact ⟨0, _, Nat.zero_le _, by omega, rfl, HL9⟩
          case round =>
            obtain ⟨k, f, hk, hgk, rfl, HLB⟩ := hrel
            by_cases hlt : k < 12
            · have hlt1 : (k : Int) < 12 := by omega
              have low : Below v2.heap.size v2 wr := by rw [HGW.out]; exact HLB.out.low
              have HFW := Lib.hid (((HFR.out.below B2.out).below low).one (by decide))
              obtain ⟨hrun1, R1⟩ := Recs.store (P := Try.prog) HLB.out.recs 29 (j := k) (o := k * 16) hlt rfl (ruc (rf1 (b + 1 + 1))) rfl rfl (by kernel_rfl)
              obtain ⟨V1, hV1⟩ : ∃ V, wr.setCells gw (k * 16) (ruc (rf1 (b + 1 + 1))) = V := ⟨_, rfl⟩
              rw [hV1] at hrun1 R1
              have HR1 := Lib.hid R1
              have HV1 := Lib.hid hV1
              clear low R1 hV1
              go_wp2_with (first | (refine at_dst (some 135) rfl ?_; refine load_step 135 29 11 _ _ _ _ rfl (b + 1 + 1 + 1) 0 rfl [.int .u8 (rf1 (b + 1 + 1)).kind, .string (rf1 (b + 1 + 1)).nm, .string (rf1 (b + 1 + 1)).tb, .slice (rf1 (b + 1 + 1)).a (rf1 (b + 1 + 1)).n (rf1 (b + 1 + 1)).cap, .int .u8 (rf1 (b + 1 + 1)).is.op, .int .u8 (rf1 (b + 1 + 1)).is.v.k, .int .i64 (rf1 (b + 1 + 1)).is.v.n, .int .i64 (rf1 (b + 1 + 1)).is.v.u, .string (rf1 (b + 1 + 1)).is.v.t, .int .i64 (rf1 (b + 1 + 1)).is.m, .slice (rf1 (b + 1 + 1)).is.a (rf1 (b + 1 + 1)).is.len (rf1 (b + 1 + 1)).is.cap, .string (rf1 (b + 1 + 1)).to, .int .u8 (rf1 (b + 1 + 1)).od, .int .u8 (rf1 (b + 1 + 1)).ou, .bool (rf1 (b + 1 + 1)).late, .bool (rf1 (b + 1 + 1)).valid] _ (HFW.out.at0) Try.underlying29 rfl (by kernel_rfl) ?_) | (refine at_dst none rfl ?_; refine rec_step (by rfl) (by rfl) (by rfl) (by rfl) hrun1 ?_))
              go_roundg (12 - (k + 1))
              case measure => omega
              case rel => exact ⟨k + 1, _, by omega, rfl, by go_num, Lib.hid (HLB.out.step hlt HV1.out HR1.out)⟩
            have hlt1 : ¬ (k : Int) < 12 := by omega
            obtain rfl : k = 12 := by omega
            clear hgk hk hlt
            have GG0 := HLB.out.recs.congr HLB.out.is
            have lv0 : Below gw v2 wr := HLB.out.low
            have p0 : wr.cell? ⟨gw, 1, none⟩ = some _ := GG0.at' 0 1 _ (by decide) rfl
            have q0 := GG0.fz 1
            obtain ⟨N1, hN1⟩ : ∃ M, wr.setCell ⟨gw, 1, none⟩ (.string ⟨#[70]⟩) = M := ⟨_, rfl⟩
            have GG1 := GG0.set (j := 0) (c := 1) (o := 1) (by decide) (by decide) rfl (.string ⟨#[70]⟩)
            have lv1 := lv0.setCell (p := ⟨gw, 1, none⟩) (Nat.le_refl _) (.string ⟨#[70]⟩)
            rw [hN1] at GG1 lv1
            have p1 : N1.cell? ⟨gw, 18, none⟩ = some _ := GG1.at' 1 2 _ (by decide) rfl
            have q1 := GG1.fz 18
            obtain ⟨N2, hN2⟩ : ∃ M, N1.setCell ⟨gw, 18, none⟩ (.string ⟨#[115]⟩) = M := ⟨_, rfl⟩
            have GG2 := GG1.set (j := 1) (c := 2) (o := 18) (by decide) (by decide) rfl (.string ⟨#[115]⟩)
            have lv2 := lv1.setCell (p := ⟨gw, 18, none⟩) (Nat.le_refl _) (.string ⟨#[115]⟩)
            rw [hN2] at GG2 lv2
            have p2 : N2.cell? ⟨gw, 32, none⟩ = some _ := GG2.at' 2 0 _ (by decide) rfl
            have q2 := GG2.fz 32
            obtain ⟨N3, hN3⟩ : ∃ M, N2.setCell ⟨gw, 32, none⟩ (.int .u8 0) = M := ⟨_, rfl⟩
            have GG3 := GG2.set (j := 2) (c := 0) (o := 32) (by decide) (by decide) rfl (.int .u8 0)
            have lv3 := lv2.setCell (p := ⟨gw, 32, none⟩) (Nat.le_refl _) (.int .u8 0)
            rw [hN3] at GG3 lv3
            have p3 : N3.cell? ⟨gw, 48, none⟩ = some _ := GG3.at' 3 0 _ (by decide) rfl
            have q3 := GG3.fz 48
            obtain ⟨N4, hN4⟩ : ∃ M, N3.setCell ⟨gw, 48, none⟩ (.int .u8 6) = M := ⟨_, rfl⟩
            have GG4 := GG3.set (j := 3) (c := 0) (o := 48) (by decide) (by decide) rfl (.int .u8 6)
            have lv4 := lv3.setCell (p := ⟨gw, 48, none⟩) (Nat.le_refl _) (.int .u8 6)
            rw [hN4] at GG4 lv4
            have p4 : N4.cell? ⟨gw, 67, none⟩ = some _ := GG4.at' 4 3 _ (by decide) rfl
            have q4 := GG4.fz 67
            obtain ⟨N5, hN5⟩ : ∃ M, N4.setCell ⟨gw, 67, none⟩ (.slice none 0 0) = M := ⟨_, rfl⟩
            have GG5 := GG4.set (j := 4) (c := 3) (o := 67) (by decide) (by decide) rfl (.slice none 0 0)
            have lv5 := lv4.setCell (p := ⟨gw, 67, none⟩) (Nat.le_refl _) (.slice none 0 0)
            rw [hN5] at GG5 lv5
            obtain ⟨N6, hN6⟩ : ∃ M, N5.alloc (.cells #[.int .i64 0, .int .i64 1] 3) = M := ⟨_, rfl⟩
            obtain ⟨h5, hh5⟩ : ∃ x, N5.heap.size = x := ⟨_, rfl⟩
            have bb5 := Below.allocs N5 (.cells #[.int .i64 0, .int .i64 1] 3)
            rw [hN6] at bb5
            have neh5 : gw ≠ h5 := by rw [← hh5]; exact Nat.ne_of_lt GG5.lt
            have GG6 := GG5.below bb5
            have lv6 := lv5.trans (bb5.mono (Nat.le_of_lt GG5.lt))
            have Jh5_6 : Recs N6 h5 2 1 (IF [0, 1]) := by rw [← hN6]; exact Recs.newI N5 h5 hh5 [0, 1]
            clear bb5
            have p6 : N6.cell? ⟨gw, 83, none⟩ = some _ := GG6.at' 5 3 _ (by decide) rfl
            have q6 := GG6.fz 83
            obtain ⟨N7, hN7⟩ : ∃ M, N6.setCell ⟨gw, 83, none⟩ (.slice (some ⟨h5, 0, none⟩) 2 2) = M := ⟨_, rfl⟩
            have GG7 := GG6.set (j := 5) (c := 3) (o := 83) (by decide) (by decide) rfl (.slice (some ⟨h5, 0, none⟩) 2 2)
            have lv7 := lv6.setCell (p := ⟨gw, 83, none⟩) (Nat.le_refl _) (.slice (some ⟨h5, 0, none⟩) 2 2)
            have Jh5_7 := Jh5_6.other (q := gw) (o := 83) neh5 (.slice (some ⟨h5, 0, none⟩) 2 2)
            rw [hN7] at GG7 lv7 Jh5_7
            obtain ⟨N8, hN8⟩ : ∃ M, N7.alloc (.cells #[.int .i64 9] 3) = M := ⟨_, rfl⟩
            obtain ⟨h6, hh6⟩ : ∃ x, N7.heap.size = x := ⟨_, rfl⟩
            have bb7 := Below.allocs N7 (.cells #[.int .i64 9] 3)
            rw [hN8] at bb7
            have neh6 : gw ≠ h6 := by rw [← hh6]; exact Nat.ne_of_lt GG7.lt
            have GG8 := GG7.below bb7
            have lv8 := lv7.trans (bb7.mono (Nat.le_of_lt GG7.lt))
            have Jh6_8 : Recs N8 h6 1 1 (IF [9]) := by rw [← hN8]; exact Recs.newI N7 h6 hh6 [9]
            have Jh5_8 := Jh5_7.below bb7
            clear bb7
            have p8 : N8.cell? ⟨gw, 99, none⟩ = some _ := GG8.at' 6 3 _ (by decide) rfl
            have q8 := GG8.fz 99
            obtain ⟨N9, hN9⟩ : ∃ M, N8.setCell ⟨gw, 99, none⟩ (.slice (some ⟨h6, 0, none⟩) 1 1) = M := ⟨_, rfl⟩
            have GG9 := GG8.set (j := 6) (c := 3) (o := 99) (by decide) (by decide) rfl (.slice (some ⟨h6, 0, none⟩) 1 1)
            have lv9 := lv8.setCell (p := ⟨gw, 99, none⟩) (Nat.le_refl _) (.slice (some ⟨h6, 0, none⟩) 1 1)
            have Jh5_9 := Jh5_8.other (q := gw) (o := 99) neh5 (.slice (some ⟨h6, 0, none⟩) 1 1)
            have Jh6_9 := Jh6_8.other (q := gw) (o := 99) neh6 (.slice (some ⟨h6, 0, none⟩) 1 1)
            rw [hN9] at GG9 lv9 Jh5_9 Jh6_9
            have p9 : N9.cell? ⟨gw, 123, none⟩ = some _ := GG9.at' 7 11 _ (by decide) rfl
            have q9 := GG9.fz 123
            obtain ⟨N10, hN10⟩ : ∃ M, N9.setCell ⟨gw, 123, none⟩ (.string ⟨#[118]⟩) = M := ⟨_, rfl⟩
            have GG10 := GG9.set (j := 7) (c := 11) (o := 123) (by decide) (by decide) rfl (.string ⟨#[118]⟩)
            have lv10 := lv9.setCell (p := ⟨gw, 123, none⟩) (Nat.le_refl _) (.string ⟨#[118]⟩)
            have Jh5_10 := Jh5_9.other (q := gw) (o := 123) neh5 (.string ⟨#[118]⟩)
            have Jh6_10 := Jh6_9.other (q := gw) (o := 123) neh6 (.string ⟨#[118]⟩)
            rw [hN10] at GG10 lv10 Jh5_10 Jh6_10
            have p10 : N10.cell? ⟨gw, 140, none⟩ = some _ := GG10.at' 8 12 _ (by decide) rfl
            have q10 := GG10.fz 140
            obtain ⟨N11, hN11⟩ : ∃ M, N10.setCell ⟨gw, 140, none⟩ (.int .u8 5) = M := ⟨_, rfl⟩
            have GG11 := GG10.set (j := 8) (c := 12) (o := 140) (by decide) (by decide) rfl (.int .u8 5)
            have lv11 := lv10.setCell (p := ⟨gw, 140, none⟩) (Nat.le_refl _) (.int .u8 5)
            have Jh5_11 := Jh5_10.other (q := gw) (o := 140) neh5 (.int .u8 5)
            have Jh6_11 := Jh6_10.other (q := gw) (o := 140) neh6 (.int .u8 5)
            rw [hN11] at GG11 lv11 Jh5_11 Jh6_11
            have p11 : N11.cell? ⟨gw, 157, none⟩ = some _ := GG11.at' 9 13 _ (by decide) rfl
            have q11 := GG11.fz 157
            obtain ⟨N12, hN12⟩ : ∃ M, N11.setCell ⟨gw, 157, none⟩ (.int .u8 5) = M := ⟨_, rfl⟩
            have GG12 := GG11.set (j := 9) (c := 13) (o := 157) (by decide) (by decide) rfl (.int .u8 5)
            have lv12 := lv11.setCell (p := ⟨gw, 157, none⟩) (Nat.le_refl _) (.int .u8 5)
            have Jh5_12 := Jh5_11.other (q := gw) (o := 157) neh5 (.int .u8 5)
            have Jh6_12 := Jh6_11.other (q := gw) (o := 157) neh6 (.int .u8 5)
            rw [hN12] at GG12 lv12 Jh5_12 Jh6_12
            have p12 : N12.cell? ⟨gw, 160, none⟩ = some _ := GG12.at' 10 0 _ (by decide) rfl
            have q12 := GG12.fz 160
            obtain ⟨N13, hN13⟩ : ∃ M, N12.setCell ⟨gw, 160, none⟩ (.int .u8 3) = M := ⟨_, rfl⟩
            have GG13 := GG12.set (j := 10) (c := 0) (o := 160) (by decide) (by decide) rfl (.int .u8 3)
            have lv13 := lv12.setCell (p := ⟨gw, 160, none⟩) (Nat.le_refl _) (.int .u8 3)
            have Jh5_13 := Jh5_12.other (q := gw) (o := 160) neh5 (.int .u8 3)
            have Jh6_13 := Jh6_12.other (q := gw) (o := 160) neh6 (.int .u8 3)
            rw [hN13] at GG13 lv13 Jh5_13 Jh6_13
            have p13 : N13.cell? ⟨gw, 176, none⟩ = some _ := GG13.at' 11 0 _ (by decide) rfl
            have q13 := GG13.fz 176
            obtain ⟨N14, hN14⟩ : ∃ M, N13.setCell ⟨gw, 176, none⟩ (.int .u8 1) = M := ⟨_, rfl⟩
            have GG14 := GG13.set (j := 11) (c := 0) (o := 176) (by decide) (by decide) rfl (.int .u8 1)
            have lv14 := lv13.setCell (p := ⟨gw, 176, none⟩) (Nat.le_refl _) (.int .u8 1)
            have Jh5_14 := Jh5_13.other (q := gw) (o := 176) neh5 (.int .u8 1)
            have Jh6_14 := Jh6_13.other (q := gw) (o := 176) neh6 (.int .u8 1)
            rw [hN14] at GG14 lv14 Jh5_14 Jh6_14
            have p14 : N14.cell? ⟨gw, 190, none⟩ = some _ := GG14.at' 11 14 _ (by decide) rfl
            have q14 := GG14.fz 190
            obtain ⟨N15, hN15⟩ : ∃ M, N14.setCell ⟨gw, 190, none⟩ (.bool true) = M := ⟨_, rfl⟩
            have GG15 := GG14.set (j := 11) (c := 14) (o := 190) (by decide) (by decide) rfl (.bool true)
            have lv15 := lv14.setCell (p := ⟨gw, 190, none⟩) (Nat.le_refl _) (.bool true)
            have Jh5_15 := Jh5_14.other (q := gw) (o := 190) neh5 (.bool true)
            have Jh6_15 := Jh6_14.other (q := gw) (o := 190) neh6 (.bool true)
            rw [hN15] at GG15 lv15 Jh5_15 Jh6_15
            have lvE : Below v2.heap.size v2 N15 := by rw [HGW.out]; exact lv15
            have HGE := Lib.hid GG15
            have HJ5 := Lib.hid Jh5_15
            have HJ6 := Lib.hid Jh6_15
            have BE := Lib.hid (below_tr B2.out lvE)
            clear lvE GG0 lv0 GG1 lv1 GG2 lv2 GG3 lv3 GG4 lv4 GG5 lv5 GG6 lv6 Jh5_6 GG7 lv7 Jh5_7 GG8 lv8 Jh5_8 Jh6_8 GG9 lv9 Jh5_9 Jh6_9 GG10 lv10 Jh5_10 Jh6_10 GG11 lv11 Jh5_11 Jh6_11 GG12 lv12 Jh5_12 Jh6_12 GG13 lv13 Jh5_13 Jh6_13 GG14 lv14 Jh5_14 Jh6_14 GG15 lv15 Jh5_15 Jh6_15
            go_wp2_with fail
            clear p0 q0 p1 q1 p2 q2 p3 q3 p4 q4 p6 q6 p8 q8 p9 q9 p10 q10 p11 q11 p12 q12 p13 q13 p14 q14 hN1 hN2 hN3 hN4 hN5 hN6 hN7 hN8 hN9 hN10 hN11 hN12 hN13 hN14 hN15
            have HRB : Hid (∀ j, j < 12 → ∃ r : Rl, (∀ c v, (ruc r)[c]? = some v → N15.cell? ⟨gw, j * 16 + c, none⟩ = some v) ∧ r.In N15 ∧ r.n ≤ 1000000 ∧ fitsR r (t1 g) (ru1 b) (t1 g) = 4) := Lib.hid (fun j hj => by
              match j, hj with
              | 0, _ => exact ⟨⟨4, ⟨#[70]⟩, ⟨#[116]⟩, some ⟨b + 1 + 1, 0, none⟩, 1, 1, [0], .nil, ⟨#[117]⟩, 0, 0, false, false⟩, fun c v hv => HGE.out.at' 0 c v (by decide) hv, mk_in (HFI.out.below BE.out) rfl (exnil_in _) (by kernel_rfl), of_decide_eq_true (by kernel_rfl), by kernel_rfl⟩
              | 1, _ => exact ⟨⟨4, ⟨#[102]⟩, ⟨#[115]⟩, some ⟨b + 1 + 1, 0, none⟩, 1, 1, [0], .nil, ⟨#[117]⟩, 0, 0, false, false⟩, fun c v hv => HGE.out.at' 1 c v (by decide) hv, mk_in (HFI.out.below BE.out) rfl (exnil_in _) (by kernel_rfl), of_decide_eq_true (by kernel_rfl), by kernel_rfl⟩
              | 2, _ => exact ⟨⟨0, ⟨#[102]⟩, ⟨#[116]⟩, some ⟨b + 1 + 1, 0, none⟩, 1, 1, [0], .nil, ⟨#[117]⟩, 0, 0, false, false⟩, fun c v hv => HGE.out.at' 2 c v (by decide) hv, mk_in (HFI.out.below BE.out) rfl (exnil_in _) (by kernel_rfl), of_decide_eq_true (by kernel_rfl), by kernel_rfl⟩
              | 3, _ => exact ⟨⟨6, ⟨#[102]⟩, ⟨#[116]⟩, some ⟨b + 1 + 1, 0, none⟩, 1, 1, [0], .nil, ⟨#[117]⟩, 0, 0, false, false⟩, fun c v hv => HGE.out.at' 3 c v (by decide) hv, mk_in (HFI.out.below BE.out) rfl (exnil_in _) (by kernel_rfl), of_decide_eq_true (by kernel_rfl), by kernel_rfl⟩
              | 4, _ => exact ⟨⟨4, ⟨#[102]⟩, ⟨#[116]⟩, none, 0, 0, [], .nil, ⟨#[117]⟩, 0, 0, false, false⟩, fun c v hv => HGE.out.at' 4 c v (by decide) hv, mk_in (SlI.nil _ _ _ (by decide)) rfl (exnil_in _) (by kernel_rfl), of_decide_eq_true (by kernel_rfl), by kernel_rfl⟩
              | 5, _ => exact ⟨⟨4, ⟨#[102]⟩, ⟨#[116]⟩, some ⟨h5, 0, none⟩, 2, 2, [0, 1], .nil, ⟨#[117]⟩, 0, 0, false, false⟩, fun c v hv => HGE.out.at' 5 c v (by decide) hv, mk_in (HJ5.out.sli rfl (by decide) (alli64 (by decide))) rfl (exnil_in _) (by kernel_rfl), of_decide_eq_true (by kernel_rfl), by kernel_rfl⟩
              | 6, _ => exact ⟨⟨4, ⟨#[102]⟩, ⟨#[116]⟩, some ⟨h6, 0, none⟩, 1, 1, [9], .nil, ⟨#[117]⟩, 0, 0, false, false⟩, fun c v hv => HGE.out.at' 6 c v (by decide) hv, mk_in (HJ6.out.sli rfl (by decide) (alli64 (by decide))) rfl (exnil_in _) (by kernel_rfl), of_decide_eq_true (by kernel_rfl), by kernel_rfl⟩
              | 7, _ => exact ⟨⟨4, ⟨#[102]⟩, ⟨#[116]⟩, some ⟨b + 1 + 1, 0, none⟩, 1, 1, [0], .nil, ⟨#[118]⟩, 0, 0, false, false⟩, fun c v hv => HGE.out.at' 7 c v (by decide) hv, mk_in (HFI.out.below BE.out) rfl (exnil_in _) (by kernel_rfl), of_decide_eq_true (by kernel_rfl), by kernel_rfl⟩
              | 8, _ => exact ⟨⟨4, ⟨#[102]⟩, ⟨#[116]⟩, some ⟨b + 1 + 1, 0, none⟩, 1, 1, [0], .nil, ⟨#[117]⟩, 5, 0, false, false⟩, fun c v hv => HGE.out.at' 8 c v (by decide) hv, mk_in (HFI.out.below BE.out) rfl (exnil_in _) (by kernel_rfl), of_decide_eq_true (by kernel_rfl), by kernel_rfl⟩
              | 9, _ => exact ⟨⟨4, ⟨#[102]⟩, ⟨#[116]⟩, some ⟨b + 1 + 1, 0, none⟩, 1, 1, [0], .nil, ⟨#[117]⟩, 0, 5, false, false⟩, fun c v hv => HGE.out.at' 9 c v (by decide) hv, mk_in (HFI.out.below BE.out) rfl (exnil_in _) (by kernel_rfl), of_decide_eq_true (by kernel_rfl), by kernel_rfl⟩
              | 10, _ => exact ⟨⟨3, ⟨#[102]⟩, ⟨#[116]⟩, some ⟨b + 1 + 1, 0, none⟩, 1, 1, [0], .nil, ⟨#[117]⟩, 0, 0, false, false⟩, fun c v hv => HGE.out.at' 10 c v (by decide) hv, mk_in (HFI.out.below BE.out) rfl (exnil_in _) (by kernel_rfl), of_decide_eq_true (by kernel_rfl), by kernel_rfl⟩
              | 11, _ => exact ⟨⟨1, ⟨#[102]⟩, ⟨#[116]⟩, some ⟨b + 1 + 1, 0, none⟩, 1, 1, [0], .nil, ⟨#[117]⟩, 0, 0, true, false⟩, fun c v hv => HGE.out.at' 11 c v (by decide) hv, mk_in (HFI.out.below BE.out) rfl (exnil_in _) (by kernel_rfl), of_decide_eq_true (by kernel_rfl), by kernel_rfl⟩)
            have HGLE : Hid (gw < N15.heap.size) := Lib.hid HGE.out.lt
            go_loopg [14] 12 (fun gk s14 wr => ∃ k : Nat, k ≤ 12 ∧ gk = 12 - k ∧ s14 = .int .i64 k ∧ Hid (Below N15.heap.size N15 wr))
            case atStart => exact ⟨0, Nat.zero_le _, by omega, rfl, Lib.hid (Below.refl _ _)⟩
            case round =>
              obtain ⟨k, hk, hgk, rfl, BWD⟩ := hrel
              by_cases hlt : k < 12
              · have hlt1 : (k : Int) < 12 := by omega
                obtain ⟨rr, hct, hin, hnn, hff⟩ := HRB.out k hlt
                have HCT := Lib.hid hct
                have HIN := Lib.hid hin
                have HNN := Lib.hid hnn
                have HFF := Lib.hid hff
                clear hct hin hnn hff
                go_wp2_with fail
                have hdr := below_drw wr
                refine RX.wp_region_plan (fun w w' => Below w.heap.size w w') [.it (.slice (some ⟨gw, 0, none⟩) 12 12), .it (.int .i64 (k : Int)), .it (.pointer (some ⟨gw, k * 16, none⟩)), .it (.agg #[.int .u8 rr.kind, .string rr.nm, .string rr.tb, .slice rr.a rr.n rr.cap, .int .u8 rr.is.op, .int .u8 rr.is.v.k, .int .i64 rr.is.v.n, .int .i64 rr.is.v.u, .string rr.is.v.t, .int .i64 rr.is.m, .slice rr.is.a rr.is.len rr.is.cap, .string rr.to, .int .u8 rr.od, .int .u8 rr.ou, .bool rr.late, .bool rr.valid]), .it (.agg #[.string (t1 g).nm, .slice (t1 g).a (t1 g).n (t1 g).cap, .string (t1 g).ow]), .it (.agg #[.int .u8 (ru1 b).kind, .string (ru1 b).nm, .string (ru1 b).tb, .slice (ru1 b).a (ru1 b).n (ru1 b).cap, .int .u8 (ru1 b).is.op, .int .u8 (ru1 b).is.v.k, .int .i64 (ru1 b).is.v.n, .int .i64 (ru1 b).is.v.u, .string (ru1 b).is.v.t, .int .i64 (ru1 b).is.m, .slice (ru1 b).is.a (ru1 b).is.len (ru1 b).is.cap, .string (ru1 b).to, .int .u8 (ru1 b).od, .int .u8 (ru1 b).ou, .bool (ru1 b).late, .bool (ru1 b).valid]), .it (.agg #[.string (t1 g).nm, .slice (t1 g).a (t1 g).n (t1 g).cap, .string (t1 g).ow]), .it (.int .i64 4), .it (.bool false)] (by kernel_rfl) (by kernel_rfl) (fun _ => Below.refl _ _) (fun _ _ _ => below_tr) ?_
                refine RX.seqP_value (fun _ => Below.refl _ _) _ (by first | rfl | simp) (fun w' hw' hctx => by (go_simp); (try first | with_reducible rfl | simp)) ?_
                simp only [Act.put, List.setIfInBounds_toArray, List.set_cons_zero, List.set_cons_succ]
                refine RX.seqP_value (fun _ => Below.refl _ _) _ (by first | rfl | simp) (fun w' hw' hctx => by (go_simp); (try first | with_reducible rfl | simp)) ?_
                simp only [Act.put, List.setIfInBounds_toArray, List.set_cons_zero, List.set_cons_succ]
                refine RX.seqP_value (fun _ => Below.refl _ _) _ (by first | rfl | simp) (fun w' hw' hctx => by (go_simp); (try first | with_reducible rfl | simp)) ?_
                simp only [Act.put, List.setIfInBounds_toArray, List.set_cons_zero, List.set_cons_succ]
                refine RX.seqP_value (fun _ => Below.refl _ _) _ (by first | rfl | simp) (fun w' hw' hctx => exec_load _ _ _ _ _ _ _ _ _ gw (k * 16) rfl [.int .u8 rr.kind, .string rr.nm, .string rr.tb, .slice rr.a rr.n rr.cap, .int .u8 rr.is.op, .int .u8 rr.is.v.k, .int .i64 rr.is.v.n, .int .i64 rr.is.v.u, .string rr.is.v.t, .int .i64 rr.is.m, .slice rr.is.a rr.is.len rr.is.cap, .string rr.to, .int .u8 rr.od, .int .u8 rr.ou, .bool rr.late, .bool rr.valid] _ (fun c v hv => by rw [(below_tr BWD.out (below_tr hdr hw')).cell (p := ⟨gw, _, none⟩) HGLE.out]; exact HCT.out c v hv) Try.underlying29 rfl (by kernel_rfl)) ?_
                simp only [Act.put, List.setIfInBounds_toArray, List.set_cons_zero, List.set_cons_succ]
                refine RX.seqP_value (fun _ => Below.refl _ _) _ (by first | rfl | simp) (fun w' hw' hctx => exec_load _ _ _ _ _ _ _ _ _ b5 0 rfl [.string (t1 g).nm, .slice (t1 g).a (t1 g).n (t1 g).cap, .string (t1 g).ow] _ ((HTV.out.below (below_tr BE.out (below_tr BWD.out (below_tr hdr hw')))).at0) Try.underlying32 rfl (by kernel_rfl)) ?_
                simp only [Act.put, List.setIfInBounds_toArray, List.set_cons_zero, List.set_cons_succ]
                refine RX.seqP_value (fun _ => Below.refl _ _) _ (by first | rfl | simp) (fun w' hw' hctx => exec_load _ _ _ _ _ _ _ _ _ (b + 1) 0 rfl [.int .u8 (ru1 b).kind, .string (ru1 b).nm, .string (ru1 b).tb, .slice (ru1 b).a (ru1 b).n (ru1 b).cap, .int .u8 (ru1 b).is.op, .int .u8 (ru1 b).is.v.k, .int .i64 (ru1 b).is.v.n, .int .i64 (ru1 b).is.v.u, .string (ru1 b).is.v.t, .int .i64 (ru1 b).is.m, .slice (ru1 b).is.a (ru1 b).is.len (ru1 b).is.cap, .string (ru1 b).to, .int .u8 (ru1 b).od, .int .u8 (ru1 b).ou, .bool (ru1 b).late, .bool (ru1 b).valid] _ ((HUB.out.below (below_tr BE.out (below_tr BWD.out (below_tr hdr hw')))).at0) Try.underlying29 rfl (by kernel_rfl)) ?_
                simp only [Act.put, List.setIfInBounds_toArray, List.set_cons_zero, List.set_cons_succ]
                refine RX.seqP_value (fun _ => Below.refl _ _) _ (by first | rfl | simp) (fun w' hw' hctx => exec_load _ _ _ _ _ _ _ _ _ b5 0 rfl [.string (t1 g).nm, .slice (t1 g).a (t1 g).n (t1 g).cap, .string (t1 g).ow] _ ((HTV.out.below (below_tr BE.out (below_tr BWD.out (below_tr hdr hw')))).at0) Try.underlying32 rfl (by kernel_rfl)) ?_
                simp only [Act.put, List.setIfInBounds_toArray, List.set_cons_zero, List.set_cons_succ]
                refine RX.seqP_call (15) #[.agg #[.int .u8 rr.kind, .string rr.nm, .string rr.tb, .slice rr.a rr.n rr.cap, .int .u8 rr.is.op, .int .u8 rr.is.v.k, .int .i64 rr.is.v.n, .int .i64 rr.is.v.u, .string rr.is.v.t, .int .i64 rr.is.m, .slice rr.is.a rr.is.len rr.is.cap, .string rr.to, .int .u8 rr.od, .int .u8 rr.ou, .bool rr.late, .bool rr.valid], .agg #[.string (t1 g).nm, .slice (t1 g).a (t1 g).n (t1 g).cap, .string (t1 g).ow], .agg #[.int .u8 (ru1 b).kind, .string (ru1 b).nm, .string (ru1 b).tb, .slice (ru1 b).a (ru1 b).n (ru1 b).cap, .int .u8 (ru1 b).is.op, .int .u8 (ru1 b).is.v.k, .int .i64 (ru1 b).is.v.n, .int .i64 (ru1 b).is.v.u, .string (ru1 b).is.v.t, .int .i64 (ru1 b).is.m, .slice (ru1 b).is.a (ru1 b).is.len (ru1 b).is.cap, .string (ru1 b).to, .int .u8 (ru1 b).od, .int .u8 (ru1 b).ou, .bool (ru1 b).late, .bool (ru1 b).valid], .agg #[.string (t1 g).nm, .slice (t1 g).a (t1 g).n (t1 g).cap, .string (t1 g).ow]] (.int .i64 4) (by first | rfl | simp) (fun w' hw' hctx => ?_) (fun w' hw' hctx => rfits_is rr (t1 g) (ru1 b) (t1 g) w' (HIN.out.below (below_tr BWD.out (below_tr hdr hw'))) (HTJ.out.below (below_tr BE.out (below_tr BWD.out (below_tr hdr hw')))) (mk_in (r := ru1 b) (HUI.out.below (below_tr BE.out (below_tr BWD.out (below_tr hdr hw')))) rfl (exnil_in _) (by kernel_rfl)) (HTJ.out.below (below_tr BE.out (below_tr BWD.out (below_tr hdr hw')))) HNN.out (show 1 ≤ 1000000 by decide) 4 HFF.out) ?_
                · go_simp
                simp only [Act.put, List.setIfInBounds_toArray, List.set_cons_zero, List.set_cons_succ]
                refine RX.seqP_value (fun _ => Below.refl _ _) _ (by first | rfl | simp) (fun w' hw' hctx => by (go_simp); (try first | with_reducible rfl | simp)) ?_
                simp only [Act.put, List.setIfInBounds_toArray, List.set_cons_zero, List.set_cons_succ]
                refine RX.seqP_nil (fun x1 hR hctx _ => ?_)
                have hx1 := below_tr hdr hR
                clear hctx hR
                have BX := Lib.hid (below_tr BWD.out hx1)
                clear hx1 hdr
                go_wp2_with fail
                go_roundg (12 - (k + 1))
                case measure => omega
                case rel => exact ⟨k + 1, by omega, rfl, by go_num, BX⟩
              have hlt1 : ¬ (k : Int) < 12 := by omega
              obtain rfl : k = 12 := by omega
              clear hgk hk hlt
              have bm0 : Below Wm.heap.size Wm wr := HBM4.out.trans ((below_tr BE.out BWD.out).mono HBM4.out.size)
              have hfm : Wm.heap.size ≤ b + 1 + 1 + 1 := Nat.le_of_eq HSM.out
              have f0 := (HFR.out.below BE.out).below BWD.out
              have hfl0 := f0.lt
              obtain ⟨hl, hhl⟩ : ∃ x, wr.heap.size = x := ⟨_, rfl⟩
              obtain ⟨E1, hE1⟩ : ∃ E, wr.alloc (.cells #[.int .u8 (ru1 b).kind, .string (ru1 b).nm, .string (ru1 b).tb, .slice (ru1 b).a (ru1 b).n (ru1 b).cap, .int .u8 (ru1 b).is.op, .int .u8 (ru1 b).is.v.k, .int .i64 (ru1 b).is.v.n, .int .i64 (ru1 b).is.v.u, .string (ru1 b).is.v.t, .int .i64 (ru1 b).is.m, .slice (ru1 b).is.a (ru1 b).is.len (ru1 b).is.cap, .string (ru1 b).to, .int .u8 (ru1 b).od, .int .u8 (ru1 b).ou, .bool (ru1 b).late, .bool (ru1 b).valid] 29) = E := ⟨_, rfl⟩
              have be1 := Below.allocs wr (.cells #[.int .u8 (ru1 b).kind, .string (ru1 b).nm, .string (ru1 b).tb, .slice (ru1 b).a (ru1 b).n (ru1 b).cap, .int .u8 (ru1 b).is.op, .int .u8 (ru1 b).is.v.k, .int .i64 (ru1 b).is.v.n, .int .i64 (ru1 b).is.v.u, .string (ru1 b).is.v.t, .int .i64 (ru1 b).is.m, .slice (ru1 b).is.a (ru1 b).is.len (ru1 b).is.cap, .string (ru1 b).to, .int .u8 (ru1 b).od, .int .u8 (ru1 b).ou, .bool (ru1 b).late, .bool (ru1 b).valid] 29)
              rw [hE1] at be1
              have l1' : Recs E1 hl 1 16 (fun _ => ruc (ru1 b)) := by rw [← hE1]; exact Recs.newB wr hl hhl (ruc (ru1 b)) 16 rfl _
              have f1 := f0.below be1
              have nl : hl ≠ b + 1 + 1 + 1 := by rw [← hhl]; exact Nat.ne_of_gt hfl0
              have bm1 := bm0.trans (be1.mono bm0.size)
              have k1 : E1.cell? ⟨hl, 14, none⟩ = some _ := l1'.at' 0 14 _ (by decide) rfl
              have k2 := l1'.fz 14
              obtain ⟨E2, hE2⟩ : ∃ E, E1.setCell ⟨hl, 14, none⟩ (.bool true) = E := ⟨_, rfl⟩
              have l2' := l1'.set (j := 0) (c := 14) (o := 14) (by decide) (by decide) rfl (.bool true)
              have f2 := f1.other (q := hl) (o := 14) nl (.bool true)
              have bm2 := bm1.setCell (p := ⟨hl, 14, none⟩) (by show Wm.heap.size ≤ hl; rw [← hhl]; exact bm0.size) (.bool true)
              rw [hE2] at l2' f2 bm2
              obtain ⟨h1, hh1⟩ : ∃ x, E2.heap.size = x := ⟨_, rfl⟩
              obtain ⟨E3, hE3⟩ : ∃ E, E2.alloc (.cells #[.int .i64 1] 3) = E := ⟨_, rfl⟩
              have be3 := Below.allocs E2 (.cells #[.int .i64 1] 3)
              rw [hE3] at be3
              have j3 : Recs E3 h1 1 1 (IF [1]) := by rw [← hE3]; exact Recs.newI E2 h1 hh1 [1]
              have l3 := l2'.below be3
              have f3 := f2.below be3
              have bm3 := bm2.trans (be3.mono bm2.size)
              have nh : b + 1 + 1 + 1 ≠ h1 := by rw [← hh1]; exact Nat.ne_of_lt f2.lt
              have k3 : E3.cell? ⟨b + 1 + 1 + 1, 3, none⟩ = some _ := f3.at' 0 3 _ (by decide) rfl
              have k4 := f3.fz 3
              obtain ⟨E4, hE4⟩ : ∃ E, E3.setCell ⟨b + 1 + 1 + 1, 3, none⟩ (.slice (some ⟨h1, 0, none⟩) 1 1) = E := ⟨_, rfl⟩
              have f4 := f3.set (j := 0) (c := 3) (o := 3) (by decide) (by decide) rfl (.slice (some ⟨h1, 0, none⟩) 1 1)
              have l4 := l3.other (q := b + 1 + 1 + 1) (o := 3) nl.symm (.slice (some ⟨h1, 0, none⟩) 1 1)
              have j4 := j3.other (q := b + 1 + 1 + 1) (o := 3) nh (.slice (some ⟨h1, 0, none⟩) 1 1)
              have bm4 := bm3.setCell (p := ⟨b + 1 + 1 + 1, 3, none⟩) hfm (.slice (some ⟨h1, 0, none⟩) 1 1)
              rw [hE4] at f4 l4 j4 bm4
              obtain ⟨ha, hha⟩ : ∃ x, E4.heap.size = x := ⟨_, rfl⟩
              obtain ⟨E5, hE5⟩ : ∃ E, E4.alloc (.cells #[.int .i64 0] 3) = E := ⟨_, rfl⟩
              have be5 := Below.allocs E4 (.cells #[.int .i64 0] 3)
              rw [hE5] at be5
              have a5 : Recs E5 ha 1 1 (IF [0]) := by rw [← hE5]; exact Recs.newI E4 ha hha [0]
              have sz5 : E5.heap.size = ha + 1 := by rw [← hE5]; simp [hha]
              obtain ⟨E6, hE6⟩ : ∃ E, E5.alloc (.cells #[.int .u8 5, .string ⟨#[112]⟩, .string ⟨#[116]⟩, .slice (some ⟨ha, 0, none⟩) 1 1, .int .u8 0, .int .u8 0, .int .i64 0, .int .i64 0, .string ⟨#[]⟩, .int .i64 0, .slice none 0 0, .string ⟨#[]⟩, .int .u8 0, .int .u8 0, .bool false, .bool true] 29) = E := ⟨_, rfl⟩
              have be6 := Below.allocs E5 (.cells #[.int .u8 5, .string ⟨#[112]⟩, .string ⟨#[116]⟩, .slice (some ⟨ha, 0, none⟩) 1 1, .int .u8 0, .int .u8 0, .int .i64 0, .int .i64 0, .string ⟨#[]⟩, .int .i64 0, .slice none 0 0, .string ⟨#[]⟩, .int .u8 0, .int .u8 0, .bool false, .bool true] 29)
              rw [hE6] at be6
              have p6 : Recs E6 (ha + 1) 1 16 (fun _ => ruc (rap1 ha)) := by rw [← hE6]; exact Recs.newB E5 _ sz5 (ruc (rap1 ha)) 16 rfl _
              have HP := Lib.hid (p6.one (by decide))
              have HF := Lib.hid (((f4.below be5).below be6).one (by decide))
              have HLT := Lib.hid (((l4.below be5).below be6).one (by decide))
              have HJI := Lib.hid (((j4.below be5).below be6).sli rfl (by decide) (alli64 (by decide)))
              have HAI := Lib.hid ((a5.below be6).sli rfl (by decide) (alli64 (by decide)))
              have bm6 : Below Wm.heap.size Wm E6 := bm4.trans ((below_tr be5 be6).mono bm4.size)
              have HBE := Lib.hid bm6
              have HUE := Lib.hid ((HUB.out.below BE.out).below BWD.out)
              have C0 := Lib.hid (Below.refl E6.heap.size E6)
              clear bm0 bm1 bm2 bm3 bm4 bm6 be1 be3 be5 be6 p6 f0 f1 f2 f3 f4 l1' l2' l3 l4 j3 j4 a5
              have hcon := rfits_is (rf2 h1) (t1 g) (rlate b) (t1 g) E6 (mk_in (r := rf2 h1) (HJI.out.below C0.out) rfl (exnil_in _) (by kernel_rfl)) ((HTIM.out.below HBE.out).below C0.out) (mk_in (r := rlate b) ((HUIM.out.below HBE.out).below C0.out) rfl (exnil_in _) (by kernel_rfl)) ((HTIM.out.below HBE.out).below C0.out) (show 1 ≤ 1000000 by decide) (show 1 ≤ 1000000 by decide) 4 (by kernel_rfl)
              go_wp2_with (first | (refine at_dst none rfl ?_; refine store_fresh (by rfl) (by rfl) (by rfl) (by rfl) (by first | exact hhl | exact sz5 | (simp [hhl, hh1, hha, sz5]; done)) (by kernel_rfl) (by rfl) (by kernel_rfl) ?_; first | rw [show wr.alloc _ = E1 from hE1] | rw [show E5.alloc _ = E6 from hE6] | skip) | (refine at_dst (some 193) rfl ?_; refine load_step 193 29 10 _ _ _ _ rfl (b + 1) 0 rfl [.int .u8 (ru1 b).kind, .string (ru1 b).nm, .string (ru1 b).tb, .slice (ru1 b).a (ru1 b).n (ru1 b).cap, .int .u8 (ru1 b).is.op, .int .u8 (ru1 b).is.v.k, .int .i64 (ru1 b).is.v.n, .int .i64 (ru1 b).is.v.u, .string (ru1 b).is.v.t, .int .i64 (ru1 b).is.m, .slice (ru1 b).is.a (ru1 b).is.len (ru1 b).is.cap, .string (ru1 b).to, .int .u8 (ru1 b).od, .int .u8 (ru1 b).ou, .bool (ru1 b).late, .bool (ru1 b).valid] _ (HUE.out.at0) Try.underlying29 rfl (by kernel_rfl) ?_) | (refine at_dst (some 199) rfl ?_; refine load_step 199 29 11 _ _ _ _ rfl (b + 1 + 1 + 1) 0 rfl [.int .u8 (rf2 h1).kind, .string (rf2 h1).nm, .string (rf2 h1).tb, .slice (rf2 h1).a (rf2 h1).n (rf2 h1).cap, .int .u8 (rf2 h1).is.op, .int .u8 (rf2 h1).is.v.k, .int .i64 (rf2 h1).is.v.n, .int .i64 (rf2 h1).is.v.u, .string (rf2 h1).is.v.t, .int .i64 (rf2 h1).is.m, .slice (rf2 h1).is.a (rf2 h1).is.len (rf2 h1).is.cap, .string (rf2 h1).to, .int .u8 (rf2 h1).od, .int .u8 (rf2 h1).ou, .bool (rf2 h1).late, .bool (rf2 h1).valid] _ ((HF.out.below C0.out).at0) Try.underlying29 rfl (by kernel_rfl) ?_) | (refine at_dst (some 200) rfl ?_; refine load_step 200 32 6 _ _ _ _ rfl b5 0 rfl [.string (t1 g).nm, .slice (t1 g).a (t1 g).n (t1 g).cap, .string (t1 g).ow] _ (((HTM.out.below HBE.out).below C0.out).at0) Try.underlying32 rfl (by kernel_rfl) ?_) | (refine at_dst (some 201) rfl ?_; refine load_step 201 29 15 _ _ _ _ rfl (hl) 0 rfl [.int .u8 (rlate b).kind, .string (rlate b).nm, .string (rlate b).tb, .slice (rlate b).a (rlate b).n (rlate b).cap, .int .u8 (rlate b).is.op, .int .u8 (rlate b).is.v.k, .int .i64 (rlate b).is.v.n, .int .i64 (rlate b).is.v.u, .string (rlate b).is.v.t, .int .i64 (rlate b).is.m, .slice (rlate b).is.a (rlate b).is.len (rlate b).is.cap, .string (rlate b).to, .int .u8 (rlate b).od, .int .u8 (rlate b).ou, .bool (rlate b).late, .bool (rlate b).valid] _ ((HLT.out.below C0.out).at0) Try.underlying29 rfl (by kernel_rfl) ?_) | (refine at_dst (some 202) rfl ?_; refine load_step 202 32 6 _ _ _ _ rfl b5 0 rfl [.string (t1 g).nm, .slice (t1 g).a (t1 g).n (t1 g).cap, .string (t1 g).ow] _ (((HTM.out.below HBE.out).below C0.out).at0) Try.underlying32 rfl (by kernel_rfl) ?_))
              refine (show Calls Try.prog _ _ _ _ from hcon).mono ?_
              rintro e y1 ⟨rfl, hb1⟩
              have C1 := Lib.hid (below_tr C0.out hb1)
              clear hcon hb1 hE1 hE2 hE3 hE4 hE5 hE6 k1 k2 k3 k4
              have hcon := rfits_is (rf2 h1) (t1 g) (ru1 b) (t1 g) y1 (mk_in (r := rf2 h1) (HJI.out.below C1.out) rfl (exnil_in _) (by kernel_rfl)) ((HTIM.out.below HBE.out).below C1.out) (mk_in (r := ru1 b) ((HUIM.out.below HBE.out).below C1.out) rfl (exnil_in _) (by kernel_rfl)) ((HTIM.out.below HBE.out).below C1.out) (show 1 ≤ 1000000 by decide) (show 1 ≤ 1000000 by decide) 60 (by kernel_rfl)
              go_wp2_with (first | (refine at_dst (some 206) rfl ?_; refine load_step 206 29 11 _ _ _ _ rfl (b + 1 + 1 + 1) 0 rfl [.int .u8 (rf2 h1).kind, .string (rf2 h1).nm, .string (rf2 h1).tb, .slice (rf2 h1).a (rf2 h1).n (rf2 h1).cap, .int .u8 (rf2 h1).is.op, .int .u8 (rf2 h1).is.v.k, .int .i64 (rf2 h1).is.v.n, .int .i64 (rf2 h1).is.v.u, .string (rf2 h1).is.v.t, .int .i64 (rf2 h1).is.m, .slice (rf2 h1).is.a (rf2 h1).is.len (rf2 h1).is.cap, .string (rf2 h1).to, .int .u8 (rf2 h1).od, .int .u8 (rf2 h1).ou, .bool (rf2 h1).late, .bool (rf2 h1).valid] _ ((HF.out.below C1.out).at0) Try.underlying29 rfl (by kernel_rfl) ?_) | (refine at_dst (some 207) rfl ?_; refine load_step 207 32 6 _ _ _ _ rfl b5 0 rfl [.string (t1 g).nm, .slice (t1 g).a (t1 g).n (t1 g).cap, .string (t1 g).ow] _ (((HTM.out.below HBE.out).below C1.out).at0) Try.underlying32 rfl (by kernel_rfl) ?_) | (refine at_dst (some 208) rfl ?_; refine load_step 208 29 10 _ _ _ _ rfl (b + 1) 0 rfl [.int .u8 (ru1 b).kind, .string (ru1 b).nm, .string (ru1 b).tb, .slice (ru1 b).a (ru1 b).n (ru1 b).cap, .int .u8 (ru1 b).is.op, .int .u8 (ru1 b).is.v.k, .int .i64 (ru1 b).is.v.n, .int .i64 (ru1 b).is.v.u, .string (ru1 b).is.v.t, .int .i64 (ru1 b).is.m, .slice (ru1 b).is.a (ru1 b).is.len (ru1 b).is.cap, .string (ru1 b).to, .int .u8 (ru1 b).od, .int .u8 (ru1 b).ou, .bool (ru1 b).late, .bool (ru1 b).valid] _ (((HUBM.out.below HBE.out).below C1.out).at0) Try.underlying29 rfl (by kernel_rfl) ?_) | (refine at_dst (some 209) rfl ?_; refine load_step 209 32 6 _ _ _ _ rfl b5 0 rfl [.string (t1 g).nm, .slice (t1 g).a (t1 g).n (t1 g).cap, .string (t1 g).ow] _ (((HTM.out.below HBE.out).below C1.out).at0) Try.underlying32 rfl (by kernel_rfl) ?_))
              refine (show Calls Try.prog _ _ _ _ from hcon).mono ?_
              rintro e y2 ⟨rfl, hb2⟩
              have C2 := Lib.hid (below_tr C1.out hb2)
              clear hcon hb2
              have hcon := rfits_is (rap1 ha) (t1 g) zr zt y2 (mk_in (r := rap1 ha) (HAI.out.below C2.out) rfl (exnil_in _) (by kernel_rfl)) ((HTIM.out.below HBE.out).below C2.out) (zr_in _) (zt_in _) (show 1 ≤ 1000000 by decide) (by decide) 60 (by kernel_rfl)
              go_wp2_with (first | (refine at_dst (some 214) rfl ?_; refine load_step 214 29 16 _ _ _ _ rfl (ha + 1) 0 rfl [.int .u8 (rap1 ha).kind, .string (rap1 ha).nm, .string (rap1 ha).tb, .slice (rap1 ha).a (rap1 ha).n (rap1 ha).cap, .int .u8 (rap1 ha).is.op, .int .u8 (rap1 ha).is.v.k, .int .i64 (rap1 ha).is.v.n, .int .i64 (rap1 ha).is.v.u, .string (rap1 ha).is.v.t, .int .i64 (rap1 ha).is.m, .slice (rap1 ha).is.a (rap1 ha).is.len (rap1 ha).is.cap, .string (rap1 ha).to, .int .u8 (rap1 ha).od, .int .u8 (rap1 ha).ou, .bool (rap1 ha).late, .bool (rap1 ha).valid] _ ((HP.out.below C2.out).at0) Try.underlying29 rfl (by kernel_rfl) ?_) | (refine at_dst (some 215) rfl ?_; refine load_step 215 32 6 _ _ _ _ rfl b5 0 rfl [.string (t1 g).nm, .slice (t1 g).a (t1 g).n (t1 g).cap, .string (t1 g).ow] _ (((HTM.out.below HBE.out).below C2.out).at0) Try.underlying32 rfl (by kernel_rfl) ?_))
              refine (show Calls Try.prog _ _ _ _ from hcon).mono ?_
              rintro e y3 ⟨rfl, hb3⟩
              have C3 := Lib.hid (below_tr C2.out hb3)
              clear hcon hb3
              have hcon := awake_is y3
              go_wp2_with (fail)
              refine (show Calls Try.prog _ _ _ _ from hcon).mono ?_
              rintro e y4 ⟨rfl, hb4⟩
              have C4 := Lib.hid (below_tr C3.out hb4)
              clear hcon hb4
              go_wp2_with fail
              go_ret
              exact ⟨rfl, (HBM.out.trans (HBE.out.mono HBM.out.size)).trans (C4.out.mono (Nat.le_trans HBM.out.size HBE.out.size))⟩
end Go.Proofs.Ytkipnkbmpgjcoaa
