/-
  Rows of numbers; what the library does with them (stages 11 and 12, for this seat).
-/
import Derived.Test.YtjjhmfpdbjflmaaHMap
import Derived.Test.YtjjhmfpdbjflmaaShelf
import Derived.Laws.IdiomRangeMap
namespace Go.Proofs.Ytjjhmfpdbjflmaa
open Go.RowKit
set_option linter.unusedVariables false

section
variable {W W' : World}
theorem RowI.at {s : Value} {l : List Int} (h : RowI W s l) {j : Nat} (hj : j < l.length) : ∃ b c, s = .slice (some ⟨b, 0, none⟩) l.length c ∧ l.length ≤ c ∧ c ≤ maxLen ∧ b < W.heap.size ∧ (∀ i, i < l.length → W.cell? ⟨b, i, none⟩ = some (.int .i64 (l.getD i 0))) ∧ ∀ o, W.frozen? ⟨b, o, none⟩ = false := by
  obtain ⟨b, c, h1, h2, h3, h4, h5, h6⟩ := RowF.at h hj
  exact ⟨b, c, h1, h2, h3, h4, fun i hi => by have := h5 i hi 0 _ rfl; rwa [Nat.mul_one, Nat.add_zero] at this, h6⟩

theorem RowI.own {s : Value} {l : List Int} (h : RowI W s l) : W.ownsRow 0 3 1 s l.length (l.map (Value.int .i64)) := by
  obtain ⟨⟨xs, h1, h2⟩, h3⟩ := h
  have : xs = l.map (Value.int .i64) := by
    apply List.ext_getElem?
    intro i
    by_cases hi : i < l.length
    · have := h2 i hi 0 _ rfl
      rw [Nat.mul_one, Nat.add_zero] at this
      rw [this, List.getElem?_map, List.getElem?_eq_getElem hi]
      simp [hi]
    · rw [List.getElem?_eq_none (by rw [h1.1]; omega), List.getElem?_eq_none (by simp; omega)]
  rw [← this]
  exact h1

theorem RowI.of_own {s : Value} {base : Nat} {l : List Int} (h : W.ownsRow base 3 1 s l.length (l.map (Value.int .i64))) : RowI W s l := by
  refine ⟨⟨_, ⟨h.1, ?_⟩, fun j hj c v hv => ?_⟩, fun _ _ => rfl⟩
  · rcases h.2 with h0 | ⟨b, cap, cur, rfl, _, rest⟩
    · exact .inl h0
    · exact .inr ⟨b, cap, cur, rfl, Nat.zero_le _, rest⟩
  · have hc : c = 0 := by have := (List.getElem?_eq_some_iff.1 hv).1; simp [numR] at this; omega
    subst hc
    simp only [numR, List.getElem?_cons_zero, Option.some.injEq] at hv
    rw [Nat.mul_one, Nat.add_zero, List.getElem?_map, List.getElem?_eq_getElem hj, ← hv]
    simp [hj]

theorem own_ge {s : Value} {base n m : Nat} {e : TypeId} {xs : List Value} (h : W.ownsRow base e m s n xs) : ∀ k, s.ownBlock = some k → base ≤ k := by
  intro k hk
  rcases h.2 with ⟨rfl, _⟩ | ⟨b, cap, cur, rfl, hb, _⟩
  · cases hk
  · have : b = k := Option.some.inj hk
    omega

theorem RowI.form {s : Value} {l : List Int} (h : RowI W s l) : ∃ a c, s = .slice a l.length c ∧ l.length ≤ c ∧ c ≤ maxLen := RowF.form h
end

theorem own_base {W : World} {s : Value} {base n m : Nat} {e : TypeId} {xs : List Value} (h : W.ownsRow base e m s n xs) : W.ownsRow 0 e m s n xs := by
  refine ⟨h.1, ?_⟩
  rcases h.2 with h0 | ⟨b, cap, cur, h1, h2, h3⟩
  · exact .inl h0
  · exact .inr ⟨b, cap, cur, h1, Nat.zero_le _, h3⟩

/-- Numbers that rise. -/
def Rise (l : List Int) : Prop := l.Pairwise (· < ·)
def sortI (l : List Int) : List Int := l.mergeSort fun x y => decide (x ≤ y)

theorem sortI_perm (l : List Int) : (sortI l).Perm l := List.mergeSort_perm l _
theorem sortI_rise {l : List Int} (h : l.Nodup) : Rise (sortI l) := by
  have h1 : (sortI l).Pairwise fun x y => decide (x ≤ y) = true := List.pairwise_mergeSort (le := fun x y : Int => decide (x ≤ y)) (fun a b c h1 h2 => by simp at h1 h2 ⊢; omega) (fun a b => by simp; omega) l
  have h2 : (sortI l).Nodup := (sortI_perm l).nodup_iff.2 h
  unfold Rise
  exact (h1.and h2).imp fun {a b} ⟨h3, h4⟩ => by simp at h3; have : a ≠ b := h4; omega

/-- Lists that rise, of the same numbers, are one. -/
theorem rise_eq : ∀ {l m : List Int}, Rise l → Rise m → (∀ x, x ∈ l ↔ x ∈ m) → l = m
  | [], [], _, _, _ => rfl
  | [], y :: m, _, _, h => absurd ((h y).2 (List.mem_cons_self ..)) (by simp)
  | x :: l, [], _, _, h => absurd ((h x).1 (List.mem_cons_self ..)) (by simp)
  | x :: l, y :: m, h1, h2, h => by
    have a1 := List.pairwise_cons.1 h1
    have a2 := List.pairwise_cons.1 h2
    have e : x = y := by
      rcases List.mem_cons.1 ((h x).1 (List.mem_cons_self ..)) with e | e
      · exact e
      · rcases List.mem_cons.1 ((h y).2 (List.mem_cons_self ..)) with e' | e'
        · exact e'.symm
        · have := a1.1 y e'; have := a2.1 x e; omega
    subst e
    congr 1
    refine rise_eq a1.2 a2.2 fun z => ⟨fun hz => ?_, fun hz => ?_⟩
    · rcases List.mem_cons.1 ((h z).1 (List.mem_cons_of_mem _ hz)) with e | e
      · subst e; exact absurd (a1.1 z hz) (by omega)
      · exact e
    · rcases List.mem_cons.1 ((h z).2 (List.mem_cons_of_mem _ hz)) with e | e
      · subst e; exact absurd (a2.1 z hz) (by omega)
      · exact e

theorem putRow_touch (W : World) (b : Nat) (D : Array Int) : Touch (fun k => k = b) W (Sort.putRow (Value.int .i64) W b 0 D) :=
  ⟨rfl, rfl, rfl, by simp [Sort.putRow, Sort.mapBlock], fun i hi hn => by
    simp only [Sort.putRow, Sort.mapBlock]
    rw [Array.getElem?_modify, if_neg (fun e => hn e.symm)]⟩

/-- Numbers are written over a row of as many, or more: as many as are written are told. -/
theorem rowI_putRow {W : World} {b c n : Nat} {l m : List Int} (h : RowI W (.slice (some ⟨b, 0, none⟩) n c) l) (hn : l.length = n) (hl : m.length = n) : RowI (Sort.putRow (Value.int .i64) W b 0 m.toArray) (.slice (some ⟨b, 0, none⟩) n c) m := by
  subst hn
  have ho := h.own
  rcases ho.2 with ⟨h0, _⟩ | ⟨b', c', cur, h0, hb, hg, hnc, hcm, hcs, hx⟩
  · cases h0
  cases h0
  have hp : (Sort.putRow (Value.int .i64) W b 0 m.toArray).heap[b]? = some (.cells (Sort.putCells (Value.int .i64) 0 m.toArray cur) 3 (0, 0)) := by
    simp only [Sort.putRow, Sort.mapBlock]
    rw [Array.getElem?_modify, if_pos rfl, hg]
    rfl
  refine RowI.of_own (base := 0) ⟨by simp, .inr ⟨b, c, Sort.putCells (Value.int .i64) 0 m.toArray cur, by rw [hl], Nat.zero_le _, hp, by omega, hcm, by unfold Sort.putCells; simp [hcs], ?_⟩⟩
  apply List.ext_getElem?
  intro i
  rw [List.getElem?_take]
  by_cases hi : i < m.length
  · rw [if_pos (by omega)]
    unfold Sort.putCells
    have hi' : i < cur.size := by rw [hcs]; omega
    simp [hi, hi']
  · rw [if_neg (by omega), List.getElem?_eq_none (by simp; omega)]

theorem row_cut {e : TypeId} {m : Nat} {W : World} {a : Addr} {n c : Nat} {f : Nat → List Value} (h : RowF e m W (.slice (some a) n c) n f) {k : Nat} (hk : k ≤ n) : RowF e m W (.slice (some a) k c) k f := by
  obtain ⟨⟨xs, h1, h2⟩, h3⟩ := h
  have hkm : k * m ≤ n * m := Nat.mul_le_mul_right _ hk
  refine ⟨⟨xs.take (k * m), ⟨by rw [List.length_take, h1.1]; omega, ?_⟩, fun j hj c v hv => ?_⟩, fun j hj => h3 j (by omega)⟩
  · rcases h1.2 with ⟨h0, _⟩ | ⟨b, cap, cur, h0, hb, hg, hnc, hcm, hcs, hx⟩
    · cases h0
    · cases h0
      refine .inr ⟨b, c, cur, rfl, hb, hg, by omega, hcm, hcs, ?_⟩
      rw [← hx, List.take_take, Nat.min_eq_left hkm]
  · have hc : c < m := by have := (List.getElem?_eq_some_iff.1 hv).1; rwa [h3 j (by omega)] at this
    rw [List.getElem?_take_of_lt]
    · exact h2 j (by omega) c v hv
    · calc j * m + c < j * m + m := by omega
        _ = (j + 1) * m := by rw [Nat.add_mul, Nat.one_mul]
        _ ≤ k * m := Nat.mul_le_mul_right _ hj

theorem keys_nodup {W : World} {b n : Nat} {D : DataW Value} (h : W.ownsMap Try.prog 3 KR b n D) : (intKeys D).Nodup ∧ ∀ x, x ∈ intKeys D ↔ I64 x ∧ Maps.has D (.int .i64 x) = true := by
  obtain ⟨es, rfl, hp, hk⟩ := own_keys h
  constructor
  · show (es.map fun p => _).Nodup
    rw [List.nodup_iff_pairwise_ne, List.pairwise_map]
    refine hp.imp_of_mem fun {p q} hpm hqm hne e => ?_
    obtain ⟨x, e1, _⟩ := hk p hpm
    obtain ⟨y, e2, _⟩ := hk q hqm
    rw [e1, e2] at e
    apply hne
    rw [e1, e2]
    exact congrArg _ e
  · intro x
    constructor
    · intro hx
      obtain ⟨p, hpm, e⟩ := List.mem_map.1 hx
      obtain ⟨y, e1, e2⟩ := hk p hpm
      rw [e1] at e
      have : y = x := e
      subst this
      refine ⟨e2, ?_⟩
      rw [Maps.has_eq, List.any_eq_true]
      exact ⟨p, hpm, by rw [e1]; exact WideAt.sameKey_self (lawI.key (keyI e2))⟩
    · rintro ⟨hx, h1⟩
      rw [Maps.has_eq, List.any_eq_true] at h1
      obtain ⟨p, hpm, e⟩ := h1
      have := WideAt.sameKey_eq e
      exact List.mem_map.2 ⟨p, hpm, by rw [this]; rfl⟩

/-- Sort, at a row of its own. -/
theorem sort_is (s : Value) (l : List Int) (hl : l.length ≤ 1000000) (w : World) (h : RowI w s l) :
    Calls Try.prog 65 #[s] w fun e w' => e = .returned (.tuple #[]) ∧ RowI w' s (sortI l) ∧ Touch (fun k => s.ownBlock = some k) w w' := by
  have ho := h.own
  rcases ho.2 with ⟨rfl, h0⟩ | ⟨b, c, cur, rfl, hb, hg, hnc, hcm, hcs, hx⟩
  · have e : l = [] := List.eq_nil_of_length_eq_zero h0
    subst e
    refine (show Calls Try.prog 65 _ _ _ from AnyM.slices_Sort_int_none Try.sortI none 0 w).mono ?_
    rintro e w' ⟨rfl, rfl⟩
    have e0 : sortI [] = [] := by simp [sortI]
    rw [e0]
    exact ⟨rfl, RowF.nil _ _ _ _, Touch.refl _ _⟩
  · have hH : Sort.Holds (Value.int .i64) w b 0 l.toArray := fun j hj => by
      have hj' : j < l.length := by simpa using hj
      rw [Nat.zero_add, ho.cellAt j (by omega)]
      refine ⟨?_, ho.frozenAt j⟩
      rw [getElem!_pos l.toArray j hj]
      simp [hj']
    refine (show Calls Try.prog 65 _ _ _ from AnyM.slices_Sort_int Try.sortI b 0 c l w hH (some_lt hg) (by omega)).mono ?_
    rintro e w' ⟨rfl, q, os, rfl⟩
    have hd : Below w.heap.size w (Sort.ahead w q) := ⟨rfl, rfl, rfl, Nat.le_refl _, fun _ _ => rfl⟩
    have h1 := rowI_putRow (m := sortI l) (RowF.below h hd) rfl (sortI_perm l).length_eq
    have hgr : Below (Sort.putRow (Value.int .i64) (Sort.ahead w q) b 0 (sortI l).toArray).heap.size (Sort.putRow (Value.int .i64) (Sort.ahead w q) b 0 (sortI l).toArray) (Sort.grow (Sort.putRow (Value.int .i64) (Sort.ahead w q) b 0 (sortI l).toArray) os) :=
      ⟨rfl, rfl, rfl, by simp [Sort.grow], fun i hi => by
        show (_ ++ os)[i]? = _
        rw [Array.getElem?_append_left hi]⟩
    have h2 : RowI _ (.slice (some ⟨b, 0, none⟩) l.length c) (sortI l) := RowF.below h1 hgr
    exact ⟨rfl, h2, (((Touch.of_below hd).trans (putRow_touch _ b _) (fun _ _ h => h)).trans (Touch.of_below hgr) (fun _ _ h => h)).mono (fun k hk => by rw [hk]; rfl)⟩

/-- A literal of numbers. -/
theorem lit_rowI (W : World) (l : List Int) (n : Nat) (hn : l.length = n) (hm : n ≤ maxLen) : RowI (W.alloc (.cells (l.map (Value.int .i64)).toArray 3)) (.slice (some ⟨W.heap.size, 0, none⟩) n n) l := by
  subst hn
  refine RowI.of_own (base := 0) ?_
  have := World.ownsRow_lit (e := 3) (size := 1) (base := 0) W (l.map (Value.int .i64)).toArray l.length (Nat.zero_le _) hm (by simp)
  simpa using this

/-- m[x] = v, at the operation. -/
theorem put_f {w : World} {ops : Array Oper} {rest : List Oper} {o : Oper} {a : Act} {Q : Exit → Act → World → Prop} (hg : o.guard = none) (m x v : Operand) (t : TypeId) (hop : o.op = Op.mapUpdate t m x v)
    (e : TypeId) (ht : Try.prog.underlying t = some (.map 3 e)) (b n : Nat) (f : Int → Option Value) (hm : a.eval m = .map (some b)) (h : MapF w b n f) (hn : n < maxLen) (xi : Int) (hI : I64 xi) (hx : a.eval x = .int .i64 xi) (val : Value) (hv : a.eval v = val)
    (hK : ∀ w', MapF w' b (n + 1) (updM f xi (some val)) → w.grownBy w' (some b) → wpList Try.prog ops Q rest (a.put o.dst undef) w') : wpList Try.prog ops Q (o :: rest) a w := by
  refine wpList_plain hg fun K' hK' => ?_
  obtain ⟨w', hrun, r1, r2⟩ := h.put ht hn hI val
  unfold Oper.wp
  simp [execOp, hop, hm, hx, hv, hrun, Result.andThen]
  exact hK' _ _ (hK w' r1 r2)

/-- delete(m, x), at the operation. -/
theorem del_f {w : World} {ops : Array Oper} {rest : List Oper} {o : Oper} {a : Act} {Q : Exit → Act → World → Prop} (hg : o.guard = none) (m x : Operand) (t : TypeId) (hop : o.op = Op.call { callee := Callee.builtin Builtin.delete, args := #[m, x], argTypes := #[t, 3] })
    (e : TypeId) (ht : Try.prog.underlying t = some (.map 3 e)) (b n : Nat) (f : Int → Option Value) (hm : a.eval m = .map (some b)) (h : MapF w b n f) (xi : Int) (hI : I64 xi) (hx : a.eval x = .int .i64 xi)
    (hK : ∀ w', MapF w' b n (updM f xi none) → w.grownBy w' (some b) → wpList Try.prog ops Q rest (a.put o.dst (.tuple #[])) w') : wpList Try.prog ops Q (o :: rest) a w := by
  refine wpList_plain hg fun K' hK' => ?_
  obtain ⟨w', hrun, r1, r2⟩ := h.del ht hI o.type
  unfold Oper.wp
  simp [execOp, hop, resolve, invoke, builtin, hm, hx, hrun, Result.andThen]
  exact hK' _ _ (hK w' r1 r2)

theorem info_i : (Try.prog.info? 3).map (fun i => (i.zero, i.size, i.bytes)) = some (some (.int .i64 0), 1, 8) := by kernel_rfl

/-- One number more, at the end of a row of numbers (by append of a literal of one). -/
theorem row_push {W : World} {s : Value} {n : Nat} {f : Nat → Int} (t ty : TypeId) (ht : Try.prog.underlying t = some (.slice 3)) (h : RowF 3 1 W s n (numR f)) (x : Int) (hn : n + 1 ≤ 1000000) :
    ∃ a' c' W6, (Builtin.append_ #[t, t] ty #[s, .slice (some ⟨W.heap.size, 0, none⟩) 1 1]).run Try.prog (W.alloc (.cells #[.int .i64 x] 3)) = .ok (.slice a' (n + 1) c') W6 ∧
      RowF 3 1 W6 (.slice a' (n + 1) c') (n + 1) (numR fun j => if j < n then f j else x) ∧ Touch (fun k => s.ownBlock = some k) W W6 ∧ (∀ k, Value.ownBlock (.slice a' (n + 1) c') = some k → s.ownBlock = some k ∨ W.heap.size ≤ k) := by
  obtain ⟨i0, hi, hz, hsz, hby⟩ := info_parts info_i
  have hal := Below.allocs W (.cells [Value.int .i64 x].toArray 3)
  have hlit := Lit.new W 3 [.int .i64 x]
  obtain ⟨s', W6, hrun, hrow, hg, hown⟩ := (h.below hal).append (P := Try.prog) t ty i0 _ 8 ht hi hz hsz hby rfl (by decide) (by decide) (b := W.heap.size) (k := 1) (c := 1) (q := fun _ => [.int .i64 x])
    (fun j hj o v hv => by
      obtain rfl : j = 0 := by omega
      rw [Nat.zero_mul, Nat.zero_add]
      exact hlit.cell hv) (fun _ _ => rfl) (fun _ _ v hv => by simp at hv; subst hv; rfl) (by omega)
  obtain ⟨a', c', rfl, _, _⟩ := hrow.form
  refine ⟨a', c', W6, hrun, hrow.congr fun j hj => ?_, (Touch.of_below hal).trans (Touch.grown hg (fun k hk => hk)) (fun _ _ h => h), fun k hk => ?_⟩
  · unfold numR
    by_cases hjn : j < n
    · simp only [if_pos hjn]
    · simp only [if_neg hjn]
  · rcases hown with e | e
    · exact .inl (e ▸ hk)
    · right
      rw [e] at hk
      have : (W.alloc (.cells [Value.int .i64 x].toArray 3)).heap.size = k := Option.some.inj hk
      simp at this
      omega

theorem row_snoc {W : World} {s : Value} {l : List Int} (t ty : TypeId) (ht : Try.prog.underlying t = some (.slice 3)) (h : RowI W s l) (x : Int) (hn : l.length + 1 ≤ 1000000) :
    ∃ a' c' W6, (Builtin.append_ #[t, t] ty #[s, .slice (some ⟨W.heap.size, 0, none⟩) 1 1]).run Try.prog (W.alloc (.cells #[.int .i64 x] 3)) = .ok (.slice a' (l.length + 1) c') W6 ∧
      RowI W6 (.slice a' (l.length + 1) c') (l ++ [x]) ∧ Touch (fun k => s.ownBlock = some k) W W6 ∧ (∀ k, Value.ownBlock (.slice a' (l.length + 1) c') = some k → s.ownBlock = some k ∨ W.heap.size ≤ k) := by
  obtain ⟨a', c', W6, h1, h2, h3, h4⟩ := row_push t ty ht h x hn
  refine ⟨a', c', W6, h1, ?_, h3, h4⟩
  unfold RowI
  rw [List.length_append, List.length_singleton]
  refine h2.congr fun j hj => ?_
  unfold numR
  by_cases hjn : j < l.length
  · simp only [if_pos hjn]
    simp [List.getElem?_append_left hjn, hjn]
  · have e : j = l.length := by omega
    subst e
    simp

set_option maxRecDepth 100000 in
set_option maxHeartbeats 1000000 in
theorem ints_is (s s' : Value) (l m : List Int) (z0 : Bool) (hz : decide (l = m) = z0) (w : World) (h1 : RowI w s l) (h2 : RowI w s' m) :
    Calls Try.prog 15 #[s, s'] w fun e w' => e = .returned (.bool z0) ∧ Below w.heap.size w w' := by
  obtain ⟨n, hn⟩ : ∃ n, l.length = n := ⟨_, rfl⟩
  obtain ⟨k, hk⟩ : ∃ k, m.length = k := ⟨_, rfl⟩
  obtain ⟨a, c, rfl, hnc, hcm⟩ := h1.form
  obtain ⟨a', c', rfl, hnc', hcm'⟩ := h2.form
  rw [hn] at hnc h1 ⊢
  rw [hk] at hnc' h2 ⊢
  have HA := Lib.hid h1
  have HB := Lib.hid h2
  have HN := Lib.hid hn
  have HK := Lib.hid hk
  have HZ := Lib.hid hz
  have hbn : n ≤ 9223372036854775807 := by unfold maxLen at hcm; omega
  clear h1 h2 hnc hcm hnc' hcm'
  by_cases hnk : n = k
  · subst hnk
    clear hn hk hz
    go_enter Try.func15, Try.ntmps15
    go_wp2_with fail
    go_loopg [5] n (fun gg s5 wr => ∃ p : Nat, s5 = .int .i64 p ∧ p ≤ n ∧ n - p ≤ gg ∧ Hid (l.take p = m.take p) ∧ Hid (Below w.heap.size w wr))
    case atStart => exact ⟨0, rfl, Nat.zero_le _, by omega, Lib.hid rfl, Lib.hid (Below.refl _ _)⟩
    case round =>
      obtain ⟨p, rfl, hpn, hgg, HT, BW⟩ := hrel
      by_cases hlt : p < n
      · have hltz : (p : Int) < (n : Int) := by omega
        have z1 : ¬ n ≤ p := by omega
        obtain ⟨b, c1, e1, -, -, q0, q1, q2⟩ := RowI.at (l := l) (RowF.below HA.out BW.out) (j := p) (by rw [HN.out]; exact hlt)
        rw [HN.out] at e1
        cases e1
        obtain ⟨b', c2, e2, -, -, p0, p1, p2⟩ := RowI.at (l := m) (RowF.below HB.out BW.out) (j := p) (by rw [HK.out]; exact hlt)
        rw [HK.out] at e2
        cases e2
        obtain ⟨x, hx⟩ : ∃ x, l.getD p 0 = x := ⟨_, rfl⟩
        obtain ⟨y, hy⟩ : ∃ y, m.getD p 0 = y := ⟨_, rfl⟩
        have r1 := q1 p (by rw [HN.out]; exact hlt)
        have r2 := p1 p (by rw [HK.out]; exact hlt)
        rw [hx] at r1
        rw [hy] at r2
        have HX : Hid (l[p]? = some x) := Lib.hid (by rw [List.getElem?_eq_getElem (by rw [HN.out]; exact hlt), ← hx]; simp [HN.out, hlt])
        have HY : Hid (m[p]? = some y) := Lib.hid (by rw [List.getElem?_eq_getElem (by rw [HK.out]; exact hlt), ← hy]; simp [HK.out, hlt])
        clear hx hy q1 p1 q2 p2
        by_cases hxy : x = y
        · subst hxy
          go_wp2_with fail
          go_quiet (fail)
          go_wp2_with fail
          go_roundg (n - (p + 1))
          case measure => omega
          case rel => exact ⟨p + 1, by go_num, by omega, Nat.le_refl _, Lib.hid (by rw [List.take_add_one, List.take_add_one, HT.out, HX.out, HY.out]), Lib.hid (BW.out.trans ((drewN_below _ _).mono BW.out.size))⟩
        · have hq : (x == y) = false := by simpa using hxy
          obtain rfl : z0 = false := by
            rw [← HZ.out]
            refine decide_eq_false ?_
            rintro rfl
            rw [HX.out] at HY
            exact hxy (Option.some.inj HY.out)
          go_wp2_with fail
          go_quiet (fail)
          go_wp2_with fail
          go_ret
          exact ⟨rfl, BW.out.trans ((drewN_below _ _).mono BW.out.size)⟩
      · have hltz : ¬ (p : Int) < (n : Int) := by omega
        go_wp2_with fail
        go_ret
        have ht := HT.out
        rw [List.take_of_length_le (by rw [HN.out]; omega), List.take_of_length_le (by rw [HK.out]; omega)] at ht
        obtain rfl : z0 = true := by rw [← HZ.out]; exact decide_eq_true ht
        exact ⟨rfl, BW.out⟩
  · have hne : ¬ (n : Int) = (k : Int) := by omega
    have hz' : z0 = false := by rw [← hz]; exact decide_eq_false (fun e => hnk (by rw [← hn, ← hk, e]))
    subst hz'
    clear hn hk hz HZ
    go_enter Try.func15, Try.ntmps15
    go_wp2_with fail
    go_ret
    exact ⟨rfl, Below.refl _ _⟩

end Go.Proofs.Ytjjhmfpdbjflmaa
