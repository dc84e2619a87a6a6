/-
  From the laws' walks to their rows: how a list of steps reads (stage 7).
-/
import Derived.Test.YtfikaccgpjiedaaJKLift
import Derived.Test.YtfikaccgpjiedaaJBMem
namespace Go.Proofs.Ytfikaccgpjiedaa
open Go.RowKit Go.ChangeShapes Go.WideShapes Go.ChangeAt

section
variable {H : Type} {enc : TypeId × Value → H} {w : World}

set_option maxRecDepth 100000 in
/-- A slice of values that lies in a field. -/
theorem nested_row {fuel : Nat} {cs : List Value} {x : DataW H × List MemPlace} (hf : DataW.trod enc Try.prog w 0 (fun _ => true) true fuel 27 cs = some x)
    (hsz : ∀ n ∈ x.1.weights Try.prog 27, n ≤ reachBytes) : ∃ a n c l, cs = [.slice a n c] ∧ List.length l = n ∧ SlL w a c l := by
  rcases DataW.trod_slice Try.underlying27 hf with ⟨e3, _⟩ | ⟨a, len, cap, elems, rest, n', hn', e3, hx, _, hlc, hcm, hel, hat, _, _⟩
  · exact ⟨none, 0, 0, [], e3, rfl, SlL.nil _ _ _ (Nat.zero_le _)⟩
  · rw [cV] at hat
    subst hx
    have hk : ∀ i, i < len → ∃ q : Val, (∃ cs', w.cells? 0 (a.add (i * 4)) 4 = some cs' ∧ cs' = [.int .u8 q.k, .int .i64 q.n, .int .i64 q.u, .string q.t]) ∧ q.wf := by
      intro i hi
      have := hat i hi
      rw [List.getElem?_eq_getElem (by omega)] at this
      obtain ⟨cs', h1, h2⟩ := Option.bind_eq_some_iff.1 this
      obtain ⟨k, n, u, t, he, hd, wk, wn, wu, wt⟩ := open_vcells h2
      refine ⟨⟨k, n, u, t⟩, ⟨cs', h1, he⟩, ⟨wk.1, wk.2, wn, wu, ?_⟩⟩
      have hm : t.data.toList.length ∈ DataW.weights Try.prog 66 (elems[i]'(by omega)).1 := by
        rw [hd]
        simp [DataW.weights, DataW.weightsEach, Try.underlying66]
      have := hsz _ (by
        simp only [DataW.weights, Try.underlying27, List.mem_cons, List.mem_append]
        exact .inr (.inl (mem_weightsAll (List.mem_map.2 ⟨_, List.getElem_mem (by omega : i < elems.length), rfl⟩) hm)))
      have hs : t.size = t.data.toList.length := rfl
      show t.size ≤ 140737488351232
      rw [hs]
      exact this
    obtain ⟨vals, hvals⟩ := Deep.choose_lt hk
    refine ⟨some a, len, cap, (List.range len).map vals, e3, by simp, by simpa using hlc, hcm, fun hl => ?_, fun x hx => ?_⟩
    · have hl' : 0 < len := by
        rcases Nat.eq_zero_or_pos len with e | e
        · subst e; exact absurd rfl hl
        · exact e
      have ha : a = ⟨a.block, a.off, none⟩ := by
        obtain ⟨⟨cs', h1, rfl⟩, _⟩ := hvals 0 hl'
        obtain ⟨_, _, hc⟩ := World.cells?_some h1
        have := hc 0 (by omega)
        have he : (a.add (0 * 4)).add 0 = a := by simp [Addr.add]
        rw [he] at this
        exact (spot_none this).1
      refine ⟨a.block, a.off, by show some a = _; rw [← ha], fun i x hx => ?_⟩
      obtain ⟨hi, rfl⟩ := list_of vals i x hx
      obtain ⟨⟨cs', h1, rfl⟩, _⟩ := hvals i hi
      obtain ⟨_, _, hc⟩ := World.cells?_some h1
      have hb := World.cells?_block h1 (by omega)
      rw [ha] at hc hb
      simp only [add_at] at hc hb
      have g := fun j hj => hc j hj
      have g0 := g 0 (by omega)
      have g1 := g 1 (by omega)
      have g2 := g 2 (by omega)
      have g3 := g 3 (by omega)
      exact ⟨g0, g1, g2, g3, hb⟩
    · obtain ⟨i, hi, rfl⟩ := List.mem_map.1 hx
      exact (hvals i (by simpa using hi)).2

theorem cSt : Try.prog.cellsOf 29 = 4 := by kernel_rfl

set_option maxRecDepth 100000 in
theorem open_stp {fuel : Nat} {cs : List Value} {x : DataW H × List MemPlace} (h : DataW.trod enc Try.prog w 0 (fun _ => true) true fuel 29 cs = some x)
    (hsz : ∀ n ∈ x.1.weights Try.prog 29, n ≤ reachBytes) :
    ∃ (s : Stp) (a : Option Addr) (c : Nat) (a' : Option Addr) (c' : Nat), cs = [.int .u8 s.kind, .slice a s.key.length c, .slice a' s.to.length c', .int .i64 s.id] ∧ SlL w a c s.key ∧ SlL w a' c' s.to ∧ (0 ≤ s.kind ∧ s.kind ≤ 255) ∧ I64 s.id := by
  obtain ⟨xs, n, _, rfl, hl, hlen, hf⟩ := DataW.trod_struct Try.underlying29 h
  rw [cSt] at hl
  obtain ⟨a, b, c, d, rfl⟩ : ∃ a b c d, cs = [a, b, c, d] := by
    match cs, hl with
    | [a, b, c, d], _ => exact ⟨a, b, c, d, rfl⟩
  obtain ⟨y0, y1, y2, y3, rfl⟩ : ∃ a b c d, xs = [a, b, c, d] := by
    match xs, hlen with
    | [a, b, c, d], _ => exact ⟨a, b, c, d, rfl⟩
  have h0 := hf 0 _ rfl
  have h1 := hf 1 _ rfl
  have h2 := hf 2 _ rfl
  have h3 := hf 3 _ rfl
  simp only [List.getElem?_cons_zero, List.getElem?_cons_succ] at h0 h1 h2 h3
  have hw1 : ∀ n ∈ y1.1.weights Try.prog 27, n ≤ reachBytes := fun n hn => hsz n (by
    simp [DataW.weights, DataW.weightsEach, Try.underlying29]
    exact .inr (.inl hn))
  have hw2 : ∀ n ∈ y2.1.weights Try.prog 27, n ≤ reachBytes := fun n hn => hsz n (by
    simp [DataW.weights, DataW.weightsEach, Try.underlying29]
    exact .inr (.inr (.inl hn)))
  obtain ⟨k, e0, rfl, w0⟩ := DataW.trod_int Try.underlying5 h0
  obtain ⟨a1, n1, c1, l1, e1, hl1, s1⟩ := nested_row h1 hw1
  obtain ⟨a2, n2, c2, l2, e2, hl2, s2⟩ := nested_row h2 hw2
  obtain ⟨m, e3, rfl, w3⟩ := DataW.trod_int Try.underlying3 h3
  cases e0; cases e1; cases e2; cases e3
  subst hl1 hl2
  exact ⟨⟨k, l1, l2, m⟩, a1, c1, a2, c2, rfl, s1, s2, wf8e w0, wf64e w3⟩

set_option maxRecDepth 100000 in
/-- An argument that is a slice of steps. -/
theorem open_steps {b0 : Nat} {v : Value} {d : DataW H} {p : List MemPlace} (hv : Value.okWide Try.prog w .any b0 22 v) (h : DataW.Trod enc Try.prog w 0 (fun _ => true) true 22 v d p)
    (hsz : ∀ n ∈ d.weights Try.prog 22, n ≤ reachBytes) : ∃ a n c l, v = .slice a n c ∧ List.length l = n ∧ SlSt w a c l := by
  obtain ⟨a0, len0, cap0, rfl⟩ := okWide_slice Try.underlying22 hv
  obtain ⟨fuel, hf⟩ := h
  rcases DataW.trod_slice Try.underlying22 hf with ⟨e3, _⟩ | ⟨a, len, cap, elems, rest, n', hn', e3, hx, _, hlc, hcm, hel, hat, _, _⟩
  · simp [Value.cells] at e3
    obtain ⟨rfl, rfl, rfl⟩ := e3
    exact ⟨none, 0, 0, [], rfl, rfl, SlSt.nil _ _ _ (Nat.zero_le _)⟩
  · simp [Value.cells] at e3
    obtain ⟨rfl, rfl, rfl⟩ := e3
    rw [cSt] at hat
    simp only [Prod.mk.injEq] at hx
    obtain ⟨rfl, _⟩ := hx
    haveI : Inhabited Stp := ⟨⟨0, [], [], 0⟩⟩
    have hk : ∀ i, i < len0 → ∃ s : Stp, (∃ (ka : Option Addr) (kc : Nat) (ta : Option Addr) (tc : Nat), w.cells? 0 (a.add (i * 4)) 4 = some [.int .u8 s.kind, .slice ka s.key.length kc, .slice ta s.to.length tc, .int .i64 s.id] ∧ SlL w ka kc s.key ∧ SlL w ta tc s.to) ∧ (0 ≤ s.kind ∧ s.kind ≤ 255) ∧ I64 s.id := by
      intro i hi
      have := hat i hi
      rw [List.getElem?_eq_getElem (by omega)] at this
      obtain ⟨cs', h1, h2⟩ := Option.bind_eq_some_iff.1 this
      obtain ⟨s, ka, kc, ta, tc, rfl, q1, q2, q3, q4⟩ := open_stp h2 (fun n hn => hsz n (by
        simp only [DataW.weights, Try.underlying22, List.mem_cons, List.mem_append]
        exact .inr (.inl (mem_weightsAll (List.mem_map.2 ⟨_, List.getElem_mem (by omega : i < elems.length), rfl⟩) hn))))
      exact ⟨s, ⟨ka, kc, ta, tc, h1, q1, q2⟩, q3, q4⟩
    obtain ⟨vals, hvals⟩ := Deep.choose_lt hk
    have hget : ∀ (i : Nat) x, ((List.range len0).map vals)[i]? = some x → i < len0 ∧ x = vals i := fun i x hx => by
      rw [List.getElem?_map] at hx
      obtain ⟨j, h1, rfl⟩ := Option.map_eq_some_iff.1 hx
      obtain ⟨h2, h3⟩ := List.getElem?_eq_some_iff.1 h1
      have h4 : i < len0 := by simpa using h2
      rw [List.getElem_range] at h3
      subst h3
      exact ⟨h4, rfl⟩
    refine ⟨some a, len0, cap0, (List.range len0).map vals, rfl, by simp, by simpa using hlc, hcm, fun hl => ?_, fun x hx => ?_⟩
    · have hl' : 0 < len0 := by
        rcases Nat.eq_zero_or_pos len0 with e | e
        · subst e; exact absurd rfl hl
        · exact e
      have ha : a = ⟨a.block, a.off, none⟩ := by
        obtain ⟨⟨_, _, _, _, h1, _, _⟩, _⟩ := hvals 0 hl'
        obtain ⟨_, _, hc⟩ := World.cells?_some h1
        have := hc 0 (by omega)
        have he : (a.add (0 * 4)).add 0 = a := by simp [Addr.add]
        rw [he] at this
        exact (spot_none this).1
      refine ⟨a.block, a.off, by show some a = _; rw [← ha], fun i x hx => ?_⟩
      obtain ⟨hi, rfl⟩ := hget i x hx
      obtain ⟨⟨ka, kc, ta, tc, h1, q1, q2⟩, _⟩ := hvals i hi
      obtain ⟨_, _, hc⟩ := World.cells?_some h1
      have hb := World.cells?_block h1 (by omega)
      rw [ha] at hc hb
      simp only [add_at] at hc hb
      have g := fun j hj => hc j hj
      have g0 := g 0 (by omega)
      have g1 := g 1 (by omega)
      have g2 := g 2 (by omega)
      have g3 := g 3 (by omega)
      exact ⟨ka, kc, ta, tc, g0, g1, g2, g3, q1, q2, hb⟩
    · obtain ⟨i, hi, rfl⟩ := List.mem_map.1 hx
      exact (hvals i (by simpa using hi)).2

end
end Go.Proofs.Ytfikaccgpjiedaa

