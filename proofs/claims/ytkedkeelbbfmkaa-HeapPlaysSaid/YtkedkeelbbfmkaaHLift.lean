/-
  From the laws' walks to their rows: how a list of steps reads (stage 11).
-/
import Derived.Test.YtkedkeelbbfmkaaHLift0
import Derived.Test.YtkedkeelbbfmkaaHSteps
namespace Go.Proofs.Ytkedkeelbbfmkaa
open Go.RowKit Go.ChangeShapes Go.WideShapes Go.ChangeAt

theorem sized_str {s : ByteArray} (h : s.data.toList.length ≤ reachBytes) : s.size ≤ 140737488351232 := by
  have e : s.data.toList.length = s.size := by simp
  unfold reachBytes at h
  omega

section
variable {H : Type} {enc : TypeId × Value → H} {w : World}

theorem cV : Try.prog.cellsOf 43 = 4 := by kernel_rfl
set_option maxRecDepth 100000 in
theorem open_vcells {fuel : Nat} {cs : List Value} {x : DataW H × List MemPlace} (h : DataW.trod enc Try.prog w 0 (fun _ => true) true fuel 43 cs = some x) :
    ∃ k n u t, cs = [.int .u8 k, .int .i64 n, .int .i64 u, .string t] ∧ x.1 = .agg [.lit (.int .u8 k), .lit (.int .i64 n), .lit (.int .i64 u), .lit (.string t.data.toList)] ∧ (0 ≤ k ∧ k ≤ 255) ∧ I64 n ∧ I64 u ∧ t.size ≤ maxLen := by
  obtain ⟨xs, n, _, rfl, hl, hlen, hf⟩ := DataW.trod_struct Try.underlying43 h
  rw [cV] at hl
  obtain ⟨a, b, c, d, rfl⟩ : ∃ a b c d, cs = [a, b, c, d] := by
    match cs, hl with
    | [a, b, c, d], _ => exact ⟨a, b, c, d, rfl⟩
  obtain ⟨y0, y1, y2, y3, rfl⟩ : ∃ a b c d, xs = [a, b, c, d] := by
    match xs, hlen with
    | [a, b, c, d], _ => exact ⟨a, b, c, d, rfl⟩
  have h0 := hf 0 _ rfl
  have h1 := hf 1 _ rfl
  have h2 := hf 2 _ rfl
  have h3 := hf 3 _ rfl
  simp only [List.getElem?_cons_zero, List.getElem?_cons_succ] at h0 h1 h2 h3
  obtain ⟨k, e0, rfl, w0⟩ := DataW.trod_int Try.underlying5 h0
  obtain ⟨m, e1, rfl, w1⟩ := DataW.trod_int Try.underlying2 h1
  obtain ⟨u, e2, rfl, w2⟩ := DataW.trod_int Try.underlying2 h2
  obtain ⟨t, e3, rfl, w3⟩ := DataW.trod_string Try.underlying9 h3
  cases e0; cases e1; cases e2; cases e3
  exact ⟨k, m, u, t, rfl, rfl, wf8e w0, wf64e w1, wf64e w2, w3⟩

theorem mem_weightsAll {P : Program} {t : TypeId} {n : Nat} : ∀ {l : List (DataW H)} {d : DataW H}, d ∈ l → n ∈ d.weights P t → n ∈ DataW.weightsAll P t l
  | x :: l, d, h, hn => by
    simp only [DataW.weightsAll, List.mem_append]
    rcases List.mem_cons.1 h with rfl | h
    · exact .inl hn
    · exact .inr (mem_weightsAll h hn)


theorem list_of {n : Nat} (vals : Nat → Val) (i : Nat) (x : Val) (hx : ((List.range n).map vals)[i]? = some x) : i < n ∧ x = vals i := by
  rw [List.getElem?_map] at hx
  obtain ⟨j, h1, rfl⟩ := Option.map_eq_some_iff.1 hx
  obtain ⟨h2, h3⟩ := List.getElem?_eq_some_iff.1 h1
  have h4 : i < n := by simpa using h2
  rw [List.getElem_range] at h3
  subst h3
  exact ⟨h4, rfl⟩

set_option maxRecDepth 100000 in
/-- A slice of values that lies in a field. -/
theorem nested_row {fuel : Nat} {cs : List Value} {x : DataW H × List MemPlace} (hf : DataW.trod enc Try.prog w 0 (fun _ => true) true fuel 26 cs = some x)
    (hsz : ∀ n ∈ x.1.weights Try.prog 26, n ≤ reachBytes) : ∃ a n c l, cs = [.slice a n c] ∧ List.length l = n ∧ SlL w a c l := by
  rcases DataW.trod_slice Try.underlying26 hf with ⟨e3, _⟩ | ⟨a, len, cap, elems, rest, n', hn', e3, hx, _, hlc, hcm, hel, hat, _, _⟩
  · exact ⟨none, 0, 0, [], e3, rfl, SlL.nil _ _ _ (Nat.zero_le _)⟩
  · rw [cV] at hat
    subst hx
    have hk : ∀ i, i < len → ∃ q : Val, (∃ cs', w.cells? 0 (a.add (i * 4)) 4 = some cs' ∧ cs' = [.int .u8 q.k, .int .i64 q.n, .int .i64 q.u, .string q.t]) ∧ q.wf := by
      intro i hi
      have := hat i hi
      rw [List.getElem?_eq_getElem (by omega)] at this
      obtain ⟨cs', h1, h2⟩ := Option.bind_eq_some_iff.1 this
      obtain ⟨k, n, u, t, he, hd, wk, wn, wu, wt⟩ := open_vcells h2
      refine ⟨⟨k, n, u, t⟩, ⟨cs', h1, he⟩, ⟨wk.1, wk.2, wn, wu, ?_⟩⟩
      have hm : t.data.toList.length ∈ DataW.weights Try.prog 43 (elems[i]'(by omega)).1 := by
        rw [hd]
        simp [DataW.weights, DataW.weightsEach, Try.underlying43]
      have := hsz _ (by
        simp only [DataW.weights, Try.underlying26, List.mem_cons, List.mem_append]
        exact .inr (.inl (mem_weightsAll (List.mem_map.2 ⟨_, List.getElem_mem (by omega : i < elems.length), rfl⟩) hm)))
      have hs : t.size = t.data.toList.length := rfl
      show t.size ≤ 140737488351232
      rw [hs]
      exact this
    obtain ⟨vals, hvals⟩ := Deep.choose_lt hk
    refine ⟨some a, len, cap, (List.range len).map vals, e3, by simp, by simpa using hlc, hcm, fun hl => ?_, fun x hx => ?_⟩
    · have hl' : 0 < len := by
        rcases Nat.eq_zero_or_pos len with e | e
        · subst e; exact absurd rfl hl
        · exact e
      have ha : a = ⟨a.block, a.off, none⟩ := by
        obtain ⟨⟨cs', h1, rfl⟩, _⟩ := hvals 0 hl'
        obtain ⟨_, _, hc⟩ := World.cells?_some h1
        have := hc 0 (by omega)
        have he : (a.add (0 * 4)).add 0 = a := by simp [Addr.add]
        rw [he] at this
        exact (spot_none this).1
      refine ⟨a.block, a.off, by show some a = _; rw [← ha], fun i x hx => ?_⟩
      obtain ⟨hi, rfl⟩ := list_of vals i x hx
      obtain ⟨⟨cs', h1, rfl⟩, _⟩ := hvals i hi
      obtain ⟨_, _, hc⟩ := World.cells?_some h1
      have hb := World.cells?_block h1 (by omega)
      rw [ha] at hc hb
      simp only [add_at] at hc hb
      have g := fun j hj => hc j hj
      have g0 := g 0 (by omega)
      have g1 := g 1 (by omega)
      have g2 := g 2 (by omega)
      have g3 := g 3 (by omega)
      exact ⟨g0, g1, g2, g3, hb⟩
    · obtain ⟨i, hi, rfl⟩ := List.mem_map.1 hx
      exact (hvals i (by simpa using hi)).2

theorem cSt : Try.prog.cellsOf 53 = 11 := by kernel_rfl
theorem cTp : Try.prog.cellsOf 46 = 7 := by kernel_rfl

set_option maxRecDepth 100000 in
theorem open_tup {fuel : Nat} {cs : List Value} {x : DataW H × List MemPlace} (h : DataW.trod enc Try.prog w 0 (fun _ => true) true fuel 46 cs = some x)
    (hsz : ∀ n ∈ x.1.weights Try.prog 46, n ≤ reachBytes) :
    ∃ (t : Tup) (a : Option Addr) (c : Nat), cs = [.int .i64 t.no, .int .i64 t.id, .int .i64 t.mn, .int .i64 t.cm, .int .i64 t.mx, .int .i64 t.cx, .slice a t.row.length c] ∧ SlL w a c t.row ∧ I64 t.no ∧ I64 t.id ∧ I64 t.mn ∧ I64 t.cm ∧ I64 t.mx ∧ I64 t.cx ∧ ∀ x ∈ t.row, x.wf := by
  obtain ⟨xs, n, _, rfl, hl, hlen, hf⟩ := DataW.trod_struct Try.underlying46 h
  rw [cTp] at hl
  obtain ⟨c0, c1, c2, c3, c4, c5, c6, rfl⟩ : ∃ c0 c1 c2 c3 c4 c5 c6, cs = [c0, c1, c2, c3, c4, c5, c6] := by
    match cs, hl with
    | [c0, c1, c2, c3, c4, c5, c6], _ => exact ⟨c0, c1, c2, c3, c4, c5, c6, rfl⟩
  obtain ⟨y0, y1, y2, y3, y4, y5, y6, rfl⟩ : ∃ c0 c1 c2 c3 c4 c5 c6, xs = [c0, c1, c2, c3, c4, c5, c6] := by
    match xs, hlen with
    | [c0, c1, c2, c3, c4, c5, c6], _ => exact ⟨c0, c1, c2, c3, c4, c5, c6, rfl⟩
  have h0 := hf 0 _ rfl
  have h1 := hf 1 _ rfl
  have h2 := hf 2 _ rfl
  have h3 := hf 3 _ rfl
  have h4 := hf 4 _ rfl
  have h5 := hf 5 _ rfl
  have h6 := hf 6 _ rfl
  simp only [List.getElem?_cons_zero, List.getElem?_cons_succ] at h0 h1 h2 h3 h4 h5 h6
  have hw6 : ∀ n ∈ y6.1.weights Try.prog 26, n ≤ reachBytes := fun n hn => hsz n (by
    simp [DataW.weights, DataW.weightsEach, Try.underlying46]
    exact .inr (.inr (.inr (.inr (.inr (.inr hn))))))
  obtain ⟨k0, e0, rfl, w0⟩ := DataW.trod_int Try.underlying3 h0
  obtain ⟨k1, e1, rfl, w1⟩ := DataW.trod_int Try.underlying3 h1
  obtain ⟨k2, e2, rfl, w2⟩ := DataW.trod_int Try.underlying3 h2
  obtain ⟨k3, e3, rfl, w3⟩ := DataW.trod_int Try.underlying3 h3
  obtain ⟨k4, e4, rfl, w4⟩ := DataW.trod_int Try.underlying3 h4
  obtain ⟨k5, e5, rfl, w5⟩ := DataW.trod_int Try.underlying3 h5
  obtain ⟨a, n, c, l, e6, hl6, s6⟩ := nested_row h6 hw6
  cases e0; cases e1; cases e2; cases e3; cases e4; cases e5; cases e6
  subst hl6
  exact ⟨⟨k0, k1, k2, k3, k4, k5, l⟩, a, c, rfl, s6, wf64e w0, wf64e w1, wf64e w2, wf64e w3, wf64e w4, wf64e w5, s6.wf⟩

set_option maxRecDepth 100000 in
theorem open_stp {fuel : Nat} {cs : List Value} {x : DataW H × List MemPlace} (h : DataW.trod enc Try.prog w 0 (fun _ => true) true fuel 53 cs = some x)
    (hsz : ∀ n ∈ x.1.weights Try.prog 53, n ≤ reachBytes) :
    ∃ (s : Stp) (a : Option Addr) (c : Nat), cs = stpC s (.slice a s.t.row.length c) ∧ SlL w a c s.t.row ∧ s.wf := by
  obtain ⟨xs, n, _, rfl, hl, hlen, hf⟩ := DataW.trod_struct Try.underlying53 h
  rw [cSt] at hl
  obtain ⟨c0, c1, c2, c3, c4, c5, c6, c7, c8, c9, c10, rfl⟩ : ∃ c0 c1 c2 c3 c4 c5 c6 c7 c8 c9 c10, cs = [c0, c1, c2, c3, c4, c5, c6, c7, c8, c9, c10] := by
    match cs, hl with
    | [c0, c1, c2, c3, c4, c5, c6, c7, c8, c9, c10], _ => exact ⟨c0, c1, c2, c3, c4, c5, c6, c7, c8, c9, c10, rfl⟩
  obtain ⟨y0, y1, y2, y3, y4, rfl⟩ : ∃ c0 c1 c2 c3 c4, xs = [c0, c1, c2, c3, c4] := by
    match xs, hlen with
    | [c0, c1, c2, c3, c4], _ => exact ⟨c0, c1, c2, c3, c4, rfl⟩
  have h0 := hf 0 _ rfl
  have h1 := hf 1 _ rfl
  have h2 := hf 2 _ rfl
  have h3 := hf 3 _ rfl
  have h4 := hf 4 _ rfl
  simp only [List.getElem?_cons_zero, List.getElem?_cons_succ] at h0 h1 h2 h3 h4
  have hw1 : ∀ n ∈ y1.1.weights Try.prog 46, n ≤ reachBytes := fun n hn => hsz n (by
    simp [DataW.weights, DataW.weightsEach, Try.underlying53]
    exact .inr (.inl hn))
  obtain ⟨k0, e0, rfl, w0⟩ := DataW.trod_int Try.underlying5 h0
  obtain ⟨t, a, c, e1, s1, q0, q1, q2, q3, q4, q5, q6⟩ := open_tup h1 hw1
  obtain ⟨k2, e2, rfl, w2⟩ := DataW.trod_int Try.underlying3 h2
  obtain ⟨k3, e3, rfl, w3⟩ := DataW.trod_int Try.underlying3 h3
  obtain ⟨k4, e4, rfl, w4⟩ := DataW.trod_int Try.underlying3 h4
  cases e0; cases e1; cases e2; cases e3; cases e4
  exact ⟨⟨k0, t, k2, k3, k4⟩, a, c, rfl, s1, (wf8e w0).1, (wf8e w0).2, q0, q1, q2, q3, q4, q5, q6, wf64e w2, wf64e w3, wf64e w4⟩

theorem list_ofS {n : Nat} (vals : Nat → Stp) (i : Nat) (x : Stp) (hx : ((List.range n).map vals)[i]? = some x) : i < n ∧ x = vals i := by
  rw [List.getElem?_map] at hx
  obtain ⟨j, h1, rfl⟩ := Option.map_eq_some_iff.1 hx
  obtain ⟨h2, h3⟩ := List.getElem?_eq_some_iff.1 h1
  have h4 : i < n := by simpa using h2
  rw [List.getElem_range] at h3
  subst h3
  exact ⟨h4, rfl⟩

set_option maxRecDepth 100000 in
/-- An argument that is a slice of steps. -/
theorem open_steps {b0 : Nat} {v : Value} {d : DataW H} {p : List MemPlace} (hv : Value.okWide Try.prog w .any b0 48 v) (h : DataW.Trod enc Try.prog w 0 (fun _ => true) true 48 v d p)
    (hsz : ∀ n ∈ d.weights Try.prog 48, n ≤ reachBytes) : ∃ a n c l, v = .slice a n c ∧ List.length l = n ∧ SlSt w a c l := by
  obtain ⟨a0, len0, cap0, rfl⟩ := okWide_slice Try.underlying48 hv
  obtain ⟨fuel, hf⟩ := h
  rcases DataW.trod_slice Try.underlying48 hf with ⟨e3, _⟩ | ⟨a, len, cap, elems, rest, n', hn', e3, hx, _, hlc, hcm, hel, hat, _, _⟩
  · simp [Value.cells] at e3
    obtain ⟨rfl, rfl, rfl⟩ := e3
    exact ⟨none, 0, 0, [], rfl, rfl, SlSt.nil _ _ _ (Nat.zero_le _)⟩
  · simp [Value.cells] at e3
    obtain ⟨rfl, rfl, rfl⟩ := e3
    rw [cSt] at hat
    simp only [Prod.mk.injEq] at hx
    obtain ⟨rfl, _⟩ := hx
    haveI : Inhabited Stp := ⟨⟨0, ⟨0, 0, 0, 0, 0, 0, []⟩, 0, 0, 0⟩⟩
    have hk : ∀ i, i < len0 → ∃ s : Stp, (∃ (ra : Option Addr) (rc : Nat), w.cells? 0 (a.add (i * 11)) 11 = some (stpC s (.slice ra s.t.row.length rc)) ∧ SlL w ra rc s.t.row) ∧ s.wf := by
      intro i hi
      have := hat i hi
      rw [List.getElem?_eq_getElem (by omega)] at this
      obtain ⟨cs', h1, h2⟩ := Option.bind_eq_some_iff.1 this
      obtain ⟨s, ra, rc, rfl, q1, q2⟩ := open_stp h2 (fun n hn => hsz n (by
        simp only [DataW.weights, Try.underlying48, List.mem_cons, List.mem_append]
        exact .inr (.inl (mem_weightsAll (List.mem_map.2 ⟨_, List.getElem_mem (by omega : i < elems.length), rfl⟩) hn))))
      exact ⟨s, ⟨ra, rc, h1, q1⟩, q2⟩
    obtain ⟨vals, hvals⟩ := Deep.choose_lt hk
    refine ⟨some a, len0, cap0, (List.range len0).map vals, rfl, by simp, by simpa using hlc, hcm, fun hl => ?_, fun x hx => ?_⟩
    · have hl' : 0 < len0 := by
        rcases Nat.eq_zero_or_pos len0 with e | e
        · subst e; exact absurd rfl hl
        · exact e
      have ha : a = ⟨a.block, a.off, none⟩ := by
        obtain ⟨⟨_, _, h1, _⟩, _⟩ := hvals 0 hl'
        obtain ⟨_, _, hc⟩ := World.cells?_some h1
        have := hc 0 (by omega)
        have he : (a.add (0 * 11)).add 0 = a := by simp [Addr.add]
        rw [he] at this
        exact (spot_none this).1
      refine ⟨a.block, a.off, by show some a = _; rw [← ha], fun i x hx => ?_⟩
      obtain ⟨hi, rfl⟩ := list_ofS vals i x hx
      obtain ⟨⟨ra, rc, h1, q1⟩, _⟩ := hvals i hi
      obtain ⟨_, hlen, hc⟩ := World.cells?_some h1
      have hb := World.cells?_block h1 (by omega)
      rw [ha] at hc hb
      simp only [add_at] at hc hb
      refine ⟨ra, rc, q1, hb, fun j v hv => ?_⟩
      have hj : j < 11 := (List.getElem?_eq_some_iff.1 hv).1
      rw [hc j hj]
      exact hv
    · obtain ⟨i, hi, rfl⟩ := List.mem_map.1 hx
      exact (hvals i (by simpa using hi)).2

end
end Go.Proofs.Ytkedkeelbbfmkaa
