/-
  From the laws' walks to their rows: how a row of values, and a list of numbers, read (stage 6).
-/
import Derived.Test.YtfikaccgpjiedaaRows
import Derived.Test.YtfikaccgpjiedaaJJ1
import Derived.ProofKit
import Derived.OpenShut
import Derived.Carry
import Derived.SizedLaws
import Derived.Deep.Slices
namespace Go.Proofs.Ytfikaccgpjiedaa
open Go.RowKit Go.ChangeShapes Go.WideShapes Go.ChangeAt

theorem ownE : ownKnob Try.prog.godebug = none := by kernel_rfl

theorem sized_str {s : ByteArray} (h : s.data.toList.length ≤ reachBytes) : s.size ≤ 140737488351232 := by
  have e : s.data.toList.length = s.size := by simp
  unfold reachBytes at h
  omega

theorem laidE : laidOutB Try.prog = true := by kernel_rfl

theorem wf64e {n : Int} (h : (Lit.int .i64 n).wf = true) : I64 n := by unfold I64; simpa [Lit.wf, IntKind.min, IntKind.max, IntKind.signed, IntKind.bits] using h
theorem wf8e {n : Int} (h : (Lit.int .u8 n).wf = true) : 0 ≤ n ∧ n ≤ 255 := by simpa [Lit.wf, IntKind.min, IntKind.max, IntKind.signed, IntKind.bits] using h

section
variable {H : Type} {enc : TypeId × Value → H} {w : World}

theorem cV : Try.prog.cellsOf 66 = 4 := by kernel_rfl
set_option maxRecDepth 100000 in
theorem open_vcells {fuel : Nat} {cs : List Value} {x : DataW H × List MemPlace} (h : DataW.trod enc Try.prog w 0 (fun _ => true) true fuel 66 cs = some x) :
    ∃ k n u t, cs = [.int .u8 k, .int .i64 n, .int .i64 u, .string t] ∧ x.1 = .agg [.lit (.int .u8 k), .lit (.int .i64 n), .lit (.int .i64 u), .lit (.string t.data.toList)] ∧ (0 ≤ k ∧ k ≤ 255) ∧ I64 n ∧ I64 u ∧ t.size ≤ maxLen := by
  obtain ⟨xs, n, _, rfl, hl, hlen, hf⟩ := DataW.trod_struct Try.underlying66 h
  rw [cV] at hl
  obtain ⟨a, b, c, d, rfl⟩ : ∃ a b c d, cs = [a, b, c, d] := by
    match cs, hl with
    | [a, b, c, d], _ => exact ⟨a, b, c, d, rfl⟩
  obtain ⟨y0, y1, y2, y3, rfl⟩ : ∃ a b c d, xs = [a, b, c, d] := by
    match xs, hlen with
    | [a, b, c, d], _ => exact ⟨a, b, c, d, rfl⟩
  have h0 := hf 0 _ rfl
  have h1 := hf 1 _ rfl
  have h2 := hf 2 _ rfl
  have h3 := hf 3 _ rfl
  simp only [List.getElem?_cons_zero, List.getElem?_cons_succ] at h0 h1 h2 h3
  obtain ⟨k, e0, rfl, w0⟩ := DataW.trod_int Try.underlying5 h0
  obtain ⟨m, e1, rfl, w1⟩ := DataW.trod_int Try.underlying2 h1
  obtain ⟨u, e2, rfl, w2⟩ := DataW.trod_int Try.underlying2 h2
  obtain ⟨t, e3, rfl, w3⟩ := DataW.trod_string Try.underlying9 h3
  cases e0; cases e1; cases e2; cases e3
  exact ⟨k, m, u, t, rfl, rfl, wf8e w0, wf64e w1, wf64e w2, w3⟩

theorem spot_none {w : World} {a : Addr} {v : Value} (h : w.cell? a = some v) : a = ⟨a.block, a.off, none⟩ ∧ a.block < w.heap.size := by
  obtain ⟨b, o, s⟩ := a
  unfold World.cell? at h
  dsimp only at h
  split at h
  · rename_i c _ _ hb
    cases s with
    | none => exact ⟨rfl, by have := (Array.getElem?_eq_some_iff.1 hb).1; exact this⟩
    | some s => simp at h
  · cases h

theorem add_at {b o i : Nat} : (⟨b, o, none⟩ : Addr).add i = ⟨b, o + i, none⟩ := by
  unfold Addr.add
  split
  · rename_i h; rw [h]; rfl
  · rfl

theorem mem_weightsAll {P : Program} {t : TypeId} {n : Nat} : ∀ {l : List (DataW H)} {d : DataW H}, d ∈ l → n ∈ d.weights P t → n ∈ DataW.weightsAll P t l
  | x :: l, d, h, hn => by
    simp only [DataW.weightsAll, List.mem_append]
    rcases List.mem_cons.1 h with rfl | h
    · exact .inl hn
    · exact .inr (mem_weightsAll h hn)


theorem list_of {n : Nat} (vals : Nat → Val) (i : Nat) (x : Val) (hx : ((List.range n).map vals)[i]? = some x) : i < n ∧ x = vals i := by
  rw [List.getElem?_map] at hx
  obtain ⟨j, h1, rfl⟩ := Option.map_eq_some_iff.1 hx
  obtain ⟨h2, h3⟩ := List.getElem?_eq_some_iff.1 h1
  have h4 : i < n := by simpa using h2
  rw [List.getElem_range] at h3
  subst h3
  exact ⟨h4, rfl⟩

set_option maxRecDepth 100000 in
/-- An argument that is a slice of values: each text is within the form's reach. -/
theorem open_row {b0 : Nat} {v : Value} {d : DataW H} {p : List MemPlace} (hv : Value.okWide Try.prog w .any b0 27 v) (h : DataW.Trod enc Try.prog w 0 (fun _ => true) true 27 v d p)
    (hsz : ∀ n ∈ d.weights Try.prog 27, n ≤ reachBytes) : ∃ a n c l, v = .slice a n c ∧ List.length l = n ∧ SlL w a c l := by
  obtain ⟨a0, len0, cap0, rfl⟩ := okWide_slice Try.underlying27 hv
  obtain ⟨fuel, hf⟩ := h
  rcases DataW.trod_slice Try.underlying27 hf with ⟨e3, _⟩ | ⟨a, len, cap, elems, rest, n', hn', e3, hx, _, hlc, hcm, hel, hat, _, _⟩
  · simp [Value.cells] at e3
    obtain ⟨rfl, rfl, rfl⟩ := e3
    exact ⟨none, 0, 0, [], rfl, rfl, SlL.nil _ _ _ (Nat.zero_le _)⟩
  · simp [Value.cells] at e3
    obtain ⟨rfl, rfl, rfl⟩ := e3
    rw [cV] at hat
    simp only [Prod.mk.injEq] at hx
    obtain ⟨rfl, _⟩ := hx
    have hk : ∀ i, i < len0 → ∃ q : Val, (∃ cs', w.cells? 0 (a.add (i * 4)) 4 = some cs' ∧ cs' = [.int .u8 q.k, .int .i64 q.n, .int .i64 q.u, .string q.t]) ∧ q.wf := by
      intro i hi
      have := hat i hi
      rw [List.getElem?_eq_getElem (by omega)] at this
      obtain ⟨cs', h1, h2⟩ := Option.bind_eq_some_iff.1 this
      obtain ⟨k, n, u, t, he, hd, wk, wn, wu, wt⟩ := open_vcells h2
      refine ⟨⟨k, n, u, t⟩, ⟨cs', h1, he⟩, ⟨wk.1, wk.2, wn, wu, ?_⟩⟩
      have hm : t.data.toList.length ∈ DataW.weights Try.prog 66 (elems[i]'(by omega)).1 := by
        rw [hd]
        simp [DataW.weights, DataW.weightsEach, Try.underlying66]
      have := hsz _ (by
        simp only [DataW.weights, Try.underlying27, List.mem_cons, List.mem_append]
        exact .inr (.inl (mem_weightsAll (List.mem_map.2 ⟨_, List.getElem_mem (by omega : i < elems.length), rfl⟩) hm)))
      have hs : t.size = t.data.toList.length := rfl
      show t.size ≤ 140737488351232
      rw [hs]
      exact this
    obtain ⟨vals, hvals⟩ := Deep.choose_lt hk
    refine ⟨some a, len0, cap0, (List.range len0).map vals, rfl, by simp, by simpa using hlc, hcm, fun hl => ?_, fun x hx => ?_⟩
    · have hl' : 0 < len0 := by
        rcases Nat.eq_zero_or_pos len0 with e | e
        · subst e; exact absurd rfl hl
        · exact e
      have ha : a = ⟨a.block, a.off, none⟩ := by
        obtain ⟨⟨cs', h1, rfl⟩, _⟩ := hvals 0 hl'
        obtain ⟨_, _, hc⟩ := World.cells?_some h1
        have := hc 0 (by omega)
        have he : (a.add (0 * 4)).add 0 = a := by simp [Addr.add]
        rw [he] at this
        exact (spot_none this).1
      refine ⟨a.block, a.off, by show some a = _; rw [← ha], fun i x hx => ?_⟩
      obtain ⟨hi, rfl⟩ := list_of vals i x hx
      obtain ⟨⟨cs', h1, rfl⟩, _⟩ := hvals i hi
      obtain ⟨_, _, hc⟩ := World.cells?_some h1
      have hb := World.cells?_block h1 (by omega)
      rw [ha] at hc hb
      simp only [add_at] at hc hb
      have g := fun j hj => hc j hj
      have g0 := g 0 (by omega)
      have g1 := g 1 (by omega)
      have g2 := g 2 (by omega)
      have g3 := g 3 (by omega)
      exact ⟨g0, g1, g2, g3, hb⟩
    · obtain ⟨i, hi, rfl⟩ := List.mem_map.1 hx
      exact (hvals i (by simpa using hi)).2

theorem cI : Try.prog.cellsOf 3 = 1 := by kernel_rfl

theorem list_ofI {n : Nat} (vals : Nat → Int) (i : Nat) (x : Int) (hx : ((List.range n).map vals)[i]? = some x) : i < n ∧ x = vals i := by
  rw [List.getElem?_map] at hx
  obtain ⟨j, h1, rfl⟩ := Option.map_eq_some_iff.1 hx
  obtain ⟨h2, h3⟩ := List.getElem?_eq_some_iff.1 h1
  have h4 : i < n := by simpa using h2
  rw [List.getElem_range] at h3
  subst h3
  exact ⟨h4, rfl⟩

set_option maxRecDepth 100000 in
/-- An argument that is a slice of whole numbers. -/
theorem open_ints {b0 : Nat} {v : Value} {d : DataW H} {p : List MemPlace} (hv : Value.okWide Try.prog w .any b0 41 v) (h : DataW.Trod enc Try.prog w 0 (fun _ => true) true 41 v d p) :
    ∃ a n c l, v = .slice a n c ∧ List.length l = n ∧ SlI w a c l := by
  obtain ⟨a0, len0, cap0, rfl⟩ := okWide_slice Try.underlying41 hv
  obtain ⟨fuel, hf⟩ := h
  rcases DataW.trod_slice Try.underlying41 hf with ⟨e3, _⟩ | ⟨a, len, cap, elems, rest, n', hn', e3, hx, _, hlc, hcm, hel, hat, _, _⟩
  · simp [Value.cells] at e3
    obtain ⟨rfl, rfl, rfl⟩ := e3
    exact ⟨none, 0, 0, [], rfl, rfl, SlI.nil _ _ _ (Nat.zero_le _)⟩
  · simp [Value.cells] at e3
    obtain ⟨rfl, rfl, rfl⟩ := e3
    rw [cI] at hat
    have hk : ∀ i, i < len0 → ∃ q : Int, w.cells? 0 (a.add (i * 1)) 1 = some [.int .i64 q] ∧ I64 q := by
      intro i hi
      have := hat i hi
      rw [List.getElem?_eq_getElem (by omega)] at this
      obtain ⟨cs', h1, h2⟩ := Option.bind_eq_some_iff.1 this
      obtain ⟨q, rfl, _, wq⟩ := DataW.trod_int Try.underlying3 h2
      exact ⟨q, h1, wf64e wq⟩
    obtain ⟨vals, hvals⟩ := Deep.choose_lt hk
    refine ⟨some a, len0, cap0, (List.range len0).map vals, rfl, by simp, by simpa using hlc, hcm, fun hl => ?_, fun x hx => ?_⟩
    · have hl' : 0 < len0 := by
        rcases Nat.eq_zero_or_pos len0 with e | e
        · subst e; exact absurd rfl hl
        · exact e
      have ha : a = ⟨a.block, a.off, none⟩ := by
        obtain ⟨_, _, hc⟩ := World.cells?_some (hvals 0 hl').1
        have := hc 0 (by omega)
        have he : (a.add (0 * 1)).add 0 = a := by simp [Addr.add]
        rw [he] at this
        exact (spot_none this).1
      have hb0 : a.block < w.heap.size := by
        have hb := World.cells?_block (hvals 0 hl').1 (by omega)
        rw [ha] at hb
        simp only [add_at] at hb
        exact hb
      refine ⟨a.block, a.off, by show some a = _; rw [← ha], hb0, fun i x hx => ?_⟩
      obtain ⟨hi, rfl⟩ := list_ofI vals i x hx
      obtain ⟨_, _, hc⟩ := World.cells?_some (hvals i hi).1
      rw [ha] at hc
      simp only [add_at] at hc
      have := hc 0 (by omega)
      simpa using this
    · obtain ⟨i, hi, rfl⟩ := List.mem_map.1 hx
      exact (hvals i (by simpa using hi)).2

end

end Go.Proofs.Ytfikaccgpjiedaa

