/-
  slices.DeleteFunc at values, by span.invalid: what may be a span comes ahead.
-/
import Derived.Test.YtnifpphimodonaaSSort
namespace Go.Proofs.Ytnifpphimodonaa
open Go.RowKit Go.Shelf Go.Lib

/-- A value is written at place i of a block. -/
def putAt (W : World) (g i : Nat) (v : Val) : World :=
  (((W.setCell ⟨g, i * 4, none⟩ (.int .u8 v.k)).setCell ⟨g, i * 4 + 1, none⟩ (.int .i64 v.n)).setCell ⟨g, i * 4 + 2, none⟩ (.int .i64 v.u)).setCell ⟨g, i * 4 + 3, none⟩ (.string v.t)

def updF (D : Nat → Val) (i : Nat) (v : Val) : Nat → Val := fun t => if t = i then v else D t

theorem below_putAt {B : Nat} {a W : World} (h : Below B a W) {g : Nat} (hg : B ≤ g) (i : Nat) (v : Val) : Below B a (putAt W g i v) :=
  (((h.setCell (by exact hg) _).setCell (by exact hg) _).setCell (by exact hg) _).setCell (by exact hg) _

theorem size_putAt (W : World) (g i : Nat) (v : Val) : (putAt W g i v).heap.size = W.heap.size := by simp [putAt, World.setCell]

theorem cell_putAt_ne (W : World) (g i : Nat) (v : Val) (a : Addr) (h : a.block ≠ g ∨ (a.off < i * 4 ∨ i * 4 + 4 ≤ a.off)) : (putAt W g i v).cell? a = W.cell? a := by
  unfold putAt
  have : ∀ c, c < 4 → (⟨g, i * 4 + c, none⟩ : Addr) ≠ a := by
    rintro c hc rfl
    rcases h with h | h
    · exact h rfl
    · dsimp at h; omega
  rw [World.cell?_setCell_other _ _ _ _ (this 3 (by omega)), World.cell?_setCell_other _ _ _ _ (this 2 (by omega)), World.cell?_setCell_other _ _ _ _ (this 1 (by omega)), World.cell?_setCell_other _ _ _ _ (by simpa using this 0 (by omega))]

theorem RowF.put {W : World} {g n : Nat} {D : Nat → Val} (h : RowF W g n D) {i : Nat} (hi : i < n) (v : Val) : RowF (putAt W g i v) g n (updF D i v) := by
  refine ⟨fun j hj => ?_, fun t ht => ?_, by rw [size_putAt]; exact h.lt⟩
  · unfold updF
    by_cases e : j = i
    · subst e
      rw [if_pos rfl]
      obtain ⟨h0, h1, h2, h3, h4⟩ := h.at' j hj
      refine ⟨?_, ?_, ?_, ?_, by rw [size_putAt]; exact h4⟩ <;> (unfold putAt; go_simp)
    · rw [if_neg e]
      obtain ⟨h0, h1, h2, h3, h4⟩ := h.at' j hj
      exact ⟨by rw [cell_putAt_ne _ _ _ _ _ (.inr (by dsimp; omega))]; exact h0, by rw [cell_putAt_ne _ _ _ _ _ (.inr (by dsimp; omega))]; exact h1, by rw [cell_putAt_ne _ _ _ _ _ (.inr (by dsimp; omega))]; exact h2, by rw [cell_putAt_ne _ _ _ _ _ (.inr (by dsimp; omega))]; exact h3, by rw [size_putAt]; exact h4⟩
  · unfold putAt
    simp only [World.frozen?_setCell]
    exact h.fz t ht

/-- slices.IndexFunc at values. -/
theorem index_is (f : Nat) (lb : Array Value) (p : Val → Bool) (eg : ∀ args w, (callFunc f args).run Try.prog w = .ok (.enter f args) w) (b o n c : Nat) (D : Nat → Val) (w : World) (hn : n ≤ 1000)
    (hp : ∀ (W : World) (x : Val), Below w.heap.size w W → Calls Try.prog f (#[.agg #[.int .u8 x.k, .int .i64 x.n, .int .i64 x.u, .string x.t]] ++ lb) W fun e w' => e = .returned (.bool (p x)) ∧ Below w.heap.size w w') (hb : b < w.heap.size) (hat : ∀ i, i < n → AtV w b (o + i * 4) (D i)) :
    Calls Try.prog 30 #[.slice (some ⟨b, o, none⟩) n c, .func (.func f) #[] lb] w fun e w' => ∃ k : Int, e = .returned (.int .i64 k) ∧ Below w.heap.size w w' ∧
      ((k = -1 ∧ ∀ i, i < n → p (D i) = false) ∨ ∃ i : Nat, k = i ∧ i < n ∧ p (D i) = true ∧ ∀ j, j < i → p (D j) = false) := by
  have gz : ∀ i, i < n → ((List.range n).map D)[i]! = D i := fun i hi => by simp [hi]
  have hcon := AnyQ.slices_IndexFunc Try.indexV 4 (fun _ => by kernel_rfl) (fun _ => by kernel_rfl) encV (fun _ => rfl) p f lb eg b o n c ((List.range n).map D) w hp (by simp) (by omega) hb
    (fun j hj i v hv => by
      have hj' : j < n := by simpa using hj
      rw [gz j hj'] at hv
      exact encV_get (hat j hj') hv)
  change Calls Try.prog 30 _ _ _ at hcon
  refine hcon.mono ?_
  rintro e w' ⟨rfl, hb'⟩
  refine ⟨_, rfl, hb', ?_⟩
  by_cases h : ∃ i, i < n ∧ p (D i) = true
  · have hd : ∀ m, (∃ i, i ≤ m ∧ i < n ∧ p (D i) = true) → ∃ i, i < n ∧ p (D i) = true ∧ ∀ j, j < i → p (D j) = false := by
      intro m
      induction m with
      | zero =>
        rintro ⟨i, h1, h2, h3⟩
        exact ⟨i, h2, h3, fun j hj => by omega⟩
      | succ m ih =>
        rintro ⟨i, h1, h2, h3⟩
        by_cases hx : ∃ i, i ≤ m ∧ i < n ∧ p (D i) = true
        · exact ih hx
        · refine ⟨i, h2, h3, fun j hj => ?_⟩
          cases hq : p (D j)
          · rfl
          · exact (hx ⟨j, by omega, by omega, hq⟩).elim
    obtain ⟨i, hi⟩ := h
    obtain ⟨k, k1, k2, k3⟩ := hd i ⟨i, Nat.le_refl _, hi⟩
    refine .inr ⟨k, ?_, k1, k2, k3⟩
    rw [Lib.idxBy_hit (fun _ y => p y) _ n k default k1 (by simp) (by show p (_ : Val) = true; rw [gz k k1]; exact k2) (fun j hj => by show p (_ : Val) = false; rw [gz j (by omega)]; exact k3 j hj)]
  · have hno : ∀ i, i < n → p (D i) = false := fun i hi => by
      cases hq : p (D i)
      · rfl
      · exact (h ⟨i, hi, hq⟩).elim
    exact .inl ⟨Lib.idxBy_miss (fun _ y => p y) _ n default (fun j hj => by show p (_ : Val) = false; rw [gz j hj]; exact hno j hj), hno⟩

/-- slices.ContainsFunc at values. -/
theorem contains_is (f : Nat) (lb : Array Value) (p : Val → Bool) (eg : ∀ args w, (callFunc f args).run Try.prog w = .ok (.enter f args) w) (b o n c : Nat) (D : Nat → Val) (w : World) (hn : n ≤ 1000)
    (hp : ∀ (W : World) (x : Val), Below w.heap.size w W → Calls Try.prog f (#[.agg #[.int .u8 x.k, .int .i64 x.n, .int .i64 x.u, .string x.t]] ++ lb) W fun e w' => e = .returned (.bool (p x)) ∧ Below w.heap.size w w') (hb : b < w.heap.size) (hat : ∀ i, i < n → AtV w b (o + i * 4) (D i)) :
    Calls Try.prog 33 #[.slice (some ⟨b, o, none⟩) n c, .func (.func f) #[] lb] w fun e w' => e = .returned (.bool (((List.range n).map D).any p)) ∧ Below w.heap.size w w' := by
  have gz : ∀ i, i < n → ((List.range n).map D)[i]! = D i := fun i hi => by simp [hi]
  have hcon := AnyQ.slices_ContainsFunc Try.containsV 4 (fun _ => by kernel_rfl) (fun _ => by kernel_rfl) encV (fun _ => rfl) p f lb eg b o n c ((List.range n).map D) w hp (by simp) (by omega) hb
    (fun j hj i v hv => by
      have hj' : j < n := by simpa using hj
      rw [gz j hj'] at hv
      exact encV_get (hat j hj') hv)
  change Calls Try.prog 33 _ _ _ at hcon
  rw [List.take_of_length_le (by simp)] at hcon
  exact hcon

/-- clear at values: the cells from place i on hold zero values; those ahead stay. -/
theorem clear_is (g i n : Nat) (hn : 0 < n) (W : World) (hc : ∀ t, t < n * 4 → (W.cell? ⟨g, i * 4 + t, none⟩).isSome = true) (hf : ∀ t, t < n * 4 → W.frozen? ⟨g, i * 4 + t, none⟩ = false) :
    ∃ vs : List Value, vs.length = n * 4 ∧ ∀ ty cap, (Builtin.clear_ #[34] ty #[.slice (some ⟨g, i * 4, none⟩) n cap]).run Try.prog W = .ok (.tuple #[]) (W.setCells g (i * 4) vs) := by
  have zv : (zeroValue 23).run Try.prog W = .ok (.agg #[.int .u8 0, .int .i64 0, .int .i64 0, .string ⟨#[]⟩]) W := by kernel_rfl
  have uv : Try.prog.underlying 34 = some (.slice 23) := Try.underlying34
  have hl : (Builtin.zeroCells (.agg #[.int .u8 0, .int .i64 0, .int .i64 0, .string ⟨#[]⟩] : Value).cells n).toList.length = n * 4 := by
    simp [Builtin.zeroCells, Value.cells]
  have ho : ∀ v ∈ (Builtin.zeroCells (.agg #[.int .u8 0, .int .i64 0, .int .i64 0, .string ⟨#[]⟩] : Value).cells n).toList, v.oneCell' = true := by
    intro v hv
    simp only [Builtin.zeroCells, Value.cells, Array.toList_map, Array.toList_range, List.mem_map, List.mem_range] at hv
    obtain ⟨t, _, rfl⟩ := hv
    have : t % 4 < 4 := Nat.mod_lt _ (by decide)
    generalize t % 4 = r at this
    match r, this with
    | 0, _ => rfl
    | 1, _ => rfl
    | 2, _ => rfl
    | 3, _ => rfl
    | r + 4, h => omega
  have hst := run_storeCells_cells (P := Try.prog) g (i * 4) _ 0 W (by rw [hl]; exact hc) (by rw [hl]; exact hf) ho
  refine ⟨_, hl, fun ty cap => ?_⟩
  obtain ⟨m, rfl⟩ : ∃ m, n = m + 1 := ⟨n - 1, by omega⟩
  simp only [Nat.add_zero] at hst
  simp [Builtin.clear_, run_underlying uv, zv, hst]
theorem below_sets {g B : Nat} : ∀ (vs : List Value) (o : Nat) (w : World), B ≤ g → Below B w (w.setCells g o vs)
  | [], _, w, _ => Below.refl _ w
  | v :: r, o, w, h => by
    rw [World.setCells]
    exact ((Below.refl B w).setCell (p := ⟨g, o, none⟩) h v).trans (below_sets r (o + 1) _ h)

/-- What has been kept when j elements have been read. -/
structure KInv (D : Nat → Val) (n i j : Nat) (E : Nat → Val) : Prop where
  ij : i < j
  jn : j ≤ n
  kept : (List.range i).map E = ((List.range j).map D).filter okS
  rest : ∀ t, j ≤ t → E t = D t

theorem map_upd (E : Nat → Val) (i : Nat) (v : Val) : (List.range (i + 1)).map (updF E i v) = (List.range i).map E ++ [v] := by
  rw [List.range_succ, List.map_append, List.map_singleton]
  congr 1
  · refine List.map_congr_left fun t ht => ?_
    have : t < i := by simpa using ht
    unfold updF
    rw [if_neg (by omega)]
  · unfold updF
    rw [if_pos rfl]

theorem KInv.keep {D : Nat → Val} {n i j : Nat} {E : Nat → Val} (h : KInv D n i j E) (hj : j < n) (hk : okS (D j) = true) : KInv D n (i + 1) (j + 1) (updF E i (D j)) := by
  refine ⟨by have := h.ij; omega, hj, ?_, fun t ht => ?_⟩
  · rw [map_upd, h.kept, List.range_succ, List.map_append, List.filter_append]
    simp [hk]
  · unfold updF
    rw [if_neg (by have := h.ij; omega)]
    exact h.rest t (by omega)

theorem KInv.skip {D : Nat → Val} {n i j : Nat} {E : Nat → Val} (h : KInv D n i j E) (hj : j < n) (hk : okS (D j) = false) : KInv D n i (j + 1) E := by
  refine ⟨by have := h.ij; omega, hj, ?_, fun t ht => h.rest t (by omega)⟩
  rw [h.kept, List.range_succ, List.map_append, List.filter_append]
  simp [hk]

theorem KInv.start {D : Nat → Val} {n k : Nat} (hk : k < n) (h1 : okS (D k) = false) (h2 : ∀ t, t < k → okS (D t) = true) : KInv D n k (k + 1) D := by
  refine ⟨by omega, hk, ?_, fun t _ => rfl⟩
  rw [List.range_succ, List.map_append, List.filter_append]
  have : ((List.range k).map D).filter okS = (List.range k).map D := by
    rw [List.filter_eq_self]
    intro v hv
    simp only [List.mem_map, List.mem_range] at hv
    obtain ⟨t, ht, rfl⟩ := hv
    exact h2 t ht
  rw [this]
  simp [h1]

set_option maxRecDepth 100000 in
set_option maxHeartbeats 2000000 in
theorem del_is (g n cap : Nat) (D : Nat → Val) (w : World) (hR : RowF w g n D) (hn : n ≤ 1000) (hnc : n ≤ cap) :
    Calls Try.prog 36 #[.slice (some ⟨g, 0, none⟩) n cap, .func (.func 32) #[] #[]] w fun e w' => ∃ m D', e = .returned (.slice (some ⟨g, 0, none⟩) m cap) ∧ m ≤ n ∧ (List.range m).map D' = ((List.range n).map D).filter okS ∧ RowF w' g m D' ∧ Below g w w' := by
  have eg : ∀ args w, (callFunc 32 args).run Try.prog w = .ok (.enter 32 args) w := enters_of Try.func32 (by kernel_rfl) rfl
  have hI := index_is 32 #[] (fun v => !okS v) eg g 0 n cap D w hn (fun W x hb => (invalid_is x _ rfl W).mono fun e w' ⟨he, hb'⟩ => ⟨he, hb.trans (hb'.mono hb.size)⟩) hR.lt (fun i hi => by rw [Nat.zero_add]; exact hR.at' i hi)
  have HR := Lib.hid hR
  have HN := Lib.hid (And.intro hn hnc)
  clear hR
  go_enter Try.func36, Try.ntmps36
  go_wp2_with fail
  refine hI.mono ?_
  rintro e w1 ⟨k, rfl, hb1, ⟨rfl, hno⟩ | ⟨k0, rfl, hk0, hk1, hk2⟩⟩
  · go_wp2_with fail
    go_ret
    refine ⟨n, D, rfl, Nat.le_refl _, ?_, HR.out.below hb1, hb1.mono (Nat.le_of_lt HR.out.lt)⟩
    symm
    rw [List.filter_eq_self]
    intro v hv
    simp only [List.mem_map, List.mem_range] at hv
    obtain ⟨t, ht, rfl⟩ := hv
    simpa using hno t ht
  · have hne : ((k0 : Int) == -1) = false := beq_eq_false_iff_ne.2 (by omega)
    have HK : Hid (KInv D n k0 (k0 + 1) D) := Lib.hid (KInv.start hk0 (by simpa using hk1) (fun t ht => by simpa using hk2 t ht))
    have HB1 := Lib.hid (hb1.mono (Nat.le_of_lt HR.out.lt))
    have HR1 := Lib.hid (HR.out.below hb1)
    clear hk1 hk2 hb1 hI
    go_wp2_with fail
    go_loopg [5, 6, 7] n (fun gg s5 s6 _ wr => ∃ (i j : Nat) (E : Nat → Val), s5 = .int .i64 i ∧ s6 = .int .i64 j ∧ n - j ≤ gg ∧ Hid (KInv D n i j E) ∧ Hid (RowF wr g n E) ∧ Hid (Below g w wr))
    case atStart => exact ⟨k0, k0 + 1, D, rfl, by go_num, by omega, HK, HR1, HB1⟩
    case round =>
      obtain ⟨i, j, E, rfl, rfl, hgg, KI, RE, BE⟩ := hrel
      clear HK HR1 HB1 hne hk0
      have hij := KI.out.ij
      have hjn := KI.out.jn
      by_cases hlt : j < n
      · have hltz : (j : Int) < (n : Int) := by omega
        obtain ⟨v, hv⟩ : ∃ v, D j = v := ⟨_, rfl⟩
        have hE : E j = v := by rw [KI.out.rest j (Nat.le_refl _), hv]
        have hat := RE.out.at' j hlt
        rw [hE] at hat
        obtain ⟨c0, c1, c2, c3, c4⟩ := hat
        have HV := Lib.hid hv
        clear hv hE
        obtain ⟨b, hb⟩ : ∃ b, okS v = b := ⟨_, rfl⟩
        have HB := Lib.hid hb
        have hinv := fun W => invalid_is v (!b) (by rw [hb]) W
        clear hb
        have hnew := Boxed.new wr v.k v.n v.u v.t 23
        have hal := Below.allocs wr (.cells #[.int .u8 v.k, .int .i64 v.n, .int .i64 v.u, .string v.t] 23)
        cases b
        · go_wp2_with fail
          refine (hinv _).mono ?_
          rintro e w2 ⟨rfl, hb2⟩
          have hA := Lib.hid (below_tr hal hb2)
          clear hnew hal hb2
          go_wp2_with fail
          go_roundg (n - (j + 1))
          case measure => omega
          case rel => exact ⟨i, j + 1, E, rfl, by go_num, Nat.le_refl _, Lib.hid (KI.out.skip hlt (by rw [HV.out]; exact HB.out)), Lib.hid (RE.out.below hA.out), Lib.hid (BE.out.trans (hA.out.mono (Nat.le_of_lt RE.out.lt)))⟩
        · go_wp2_with fail
          refine (hinv _).mono ?_
          rintro e w2 ⟨rfl, hb2⟩
          have hA := Lib.hid (below_tr hal hb2)
          obtain ⟨n0, n1, n2, n3, n4⟩ := hnew.below hb2
          have hR2 := RE.out.below hA.out
          obtain ⟨d0, d1, d2, d3, d4⟩ := hR2.at' i (by omega)
          have f0 := hR2.fz (i * 4) (by omega)
          have f1 := hR2.fz (i * 4 + 1) (by omega)
          have f2 := hR2.fz (i * 4 + 2) (by omega)
          have f3 := hR2.fz (i * 4 + 3) (by omega)
          have HR2 := Lib.hid hR2
          have hiz : (i : Int) < (n : Int) := by omega
          clear hnew hal hb2 hR2
          go_wp2_with fail
          go_roundg (n - (j + 1))
          case measure => omega
          case rel =>
            refine ⟨i + 1, j + 1, updF E i v, by go_num, by go_num, Nat.le_refl _, Lib.hid ?_, Lib.hid (HR2.out.put (by omega) v), Lib.hid (below_putAt (BE.out.trans (hA.out.mono (Nat.le_of_lt RE.out.lt))) (Nat.le_refl _) i v)⟩
            have := KI.out.keep hlt (by rw [HV.out]; exact HB.out)
            rwa [HV.out] at this
      · have hjn' : j = n := by omega
        have hltz : ¬ (n : Int) < (n : Int) := by omega
        subst hjn'
        have hRE := RE.out
        obtain ⟨vs, hvl, hcl⟩ := clear_is g i (j - i) (by omega) wr
          (fun t ht => by
            obtain ⟨h0, h1, h2, h3, _⟩ := hRE.at' (i + t / 4) (by omega)
            have e : i * 4 + t = (i + t / 4) * 4 + t % 4 := by omega
            rw [e]
            have : t % 4 < 4 := Nat.mod_lt _ (by decide)
            rcases (show t % 4 = 0 ∨ t % 4 = 1 ∨ t % 4 = 2 ∨ t % 4 = 3 by omega) with h | h | h | h <;> rw [h]
            · rw [Nat.add_zero, h0]; rfl
            · rw [h1]; rfl
            · rw [h2]; rfl
            · rw [h3]; rfl)
          (fun t ht => hRE.fz _ (by omega))
        have hiz : (i : Int) < (j : Int) := by omega
        have HVL := Lib.hid hvl
        clear hRE hvl
        go_wp2
        go_ret
        refine ⟨i, rfl, by omega, E, KI.out.kept, ⟨fun t ht => ?_, fun t ht => ?_, ?_⟩, ?_⟩
        · obtain ⟨h0, h1, h2, h3, h4⟩ := RE.out.at' t (by omega)
          have hb := below_sets vs (i * 4) wr (Nat.le_refl g)
          refine ⟨?_, ?_, ?_, ?_, Nat.lt_of_lt_of_le h4 hb.size⟩
          · rw [World.cell?_setCells_out _ _ _ _ _ (fun _ _ => .inl (by dsimp; omega))]; exact h0
          · rw [World.cell?_setCells_out _ _ _ _ _ (fun _ _ => .inl (by dsimp; omega))]; exact h1
          · rw [World.cell?_setCells_out _ _ _ _ _ (fun _ _ => .inl (by dsimp; omega))]; exact h2
          · rw [World.cell?_setCells_out _ _ _ _ _ (fun _ _ => .inl (by dsimp; omega))]; exact h3
        · rw [World.frozen?_setCells]; exact RE.out.fz t (by omega)
        · exact Nat.lt_of_lt_of_le RE.out.lt (below_sets vs (i * 4) wr (Nat.le_refl g)).size
        · exact BE.out.trans (below_sets vs (i * 4) wr (Nat.le_refl g))
end Go.Proofs.Ytnifpphimodonaa
