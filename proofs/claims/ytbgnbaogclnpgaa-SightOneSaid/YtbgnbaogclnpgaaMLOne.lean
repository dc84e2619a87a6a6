/-
  Of rows that one transaction at a time writes one version at most is seen, by whoever looks, and what a snapshot sees does not change: covenantlaw12.SightOne answers true for every list of acts and number, and leaves them as they were. Conditions: none (each argument reads as the row says).
-/
import Derived.Test.YtbgnbaogclnpgaaMLift
import Derived.Test.YtbgnbaogclnpgaaMOneS
import Derived.Carry
namespace Go.Proofs.Ytbgnbaogclnpgaa
open Go.RowKit Go.ChangeShapes Go.WideShapes Go.ChangeAt

theorem wf8i {n : Int} (h : (Lit.int .i8 n).wf = true) : -128 ≤ n ∧ n ≤ 127 := by simpa [Lit.wf, IntKind.min, IntKind.max, IntKind.signed, IntKind.bits] using h

section
variable {H : Type} {enc : TypeId × Value → H} {w : World}

theorem cAc : Try.prog.cellsOf 45 = 4 := by kernel_rfl

set_option maxRecDepth 100000 in
theorem open_act1 {fuel : Nat} {cs : List Value} {x : DataW H × List MemPlace} (h : DataW.trod enc Try.prog w 0 (fun _ => true) true fuel 45 cs = some x) :
    ∃ s : Act1, cs = [.int .u8 s.who, .int .u8 s.kind, .int .u8 s.row, .int .i8 s.n] ∧ s.wf := by
  obtain ⟨xs, n, _, rfl, hl, hlen, hf⟩ := DataW.trod_struct Try.underlying45 h
  rw [cAc] at hl
  obtain ⟨a, b, c, d, rfl⟩ : ∃ a b c d, cs = [a, b, c, d] := by
    match cs, hl with
    | [a, b, c, d], _ => exact ⟨a, b, c, d, rfl⟩
  obtain ⟨y0, y1, y2, y3, rfl⟩ : ∃ a b c d, xs = [a, b, c, d] := by
    match xs, hlen with
    | [a, b, c, d], _ => exact ⟨a, b, c, d, rfl⟩
  have h0 := hf 0 _ rfl
  have h1 := hf 1 _ rfl
  have h2 := hf 2 _ rfl
  have h3 := hf 3 _ rfl
  simp only [List.getElem?_cons_zero, List.getElem?_cons_succ] at h0 h1 h2 h3
  obtain ⟨k, e0, rfl, w0⟩ := DataW.trod_int Try.underlying5 h0
  obtain ⟨m1, e1, rfl, w1⟩ := DataW.trod_int Try.underlying5 h1
  obtain ⟨m2, e2, rfl, w2⟩ := DataW.trod_int Try.underlying5 h2
  obtain ⟨m3, e3, rfl, w3⟩ := DataW.trod_int Try.underlying43 h3
  cases e0; cases e1; cases e2; cases e3
  exact ⟨⟨k, m1, m2, m3⟩, rfl, wf8e w0, wf8e w1, wf8e w2, wf8i w3⟩

theorem SlA.nil (W : World) (a : Option Addr) (c : Nat) (hc : c ≤ maxLen) : SlA W a c [] := ⟨Nat.zero_le _, hc, fun h => absurd rfl h, fun _ h => absurd h List.not_mem_nil⟩

set_option maxRecDepth 100000 in
/-- An argument that is a slice of acts. -/
theorem open_acts {b0 : Nat} {v : Value} {d : DataW H} {p : List MemPlace} (hv : Value.okWide Try.prog w .any b0 22 v) (h : DataW.Trod enc Try.prog w 0 (fun _ => true) true 22 v d p) :
    ∃ a n c l, v = .slice a n c ∧ List.length l = n ∧ SlA w a c l := by
  obtain ⟨a0, len0, cap0, rfl⟩ := okWide_slice Try.underlying22 hv
  obtain ⟨fuel, hf⟩ := h
  rcases DataW.trod_slice Try.underlying22 hf with ⟨e3, _⟩ | ⟨a, len, cap, elems, rest, n', hn', e3, hx, _, hlc, hcm, hel, hat, _, _⟩
  · simp [Value.cells] at e3
    obtain ⟨rfl, rfl, rfl⟩ := e3
    exact ⟨none, 0, 0, [], rfl, rfl, SlA.nil _ _ _ (Nat.zero_le _)⟩
  · simp [Value.cells] at e3
    obtain ⟨rfl, rfl, rfl⟩ := e3
    rw [cAc] at hat
    haveI : Inhabited Act1 := ⟨⟨0, 0, 0, 0⟩⟩
    have hk : ∀ i, i < len0 → ∃ s : Act1, w.cells? 0 (a.add (i * 4)) 4 = some [.int .u8 s.who, .int .u8 s.kind, .int .u8 s.row, .int .i8 s.n] ∧ s.wf := by
      intro i hi
      have := hat i hi
      rw [List.getElem?_eq_getElem (by omega)] at this
      obtain ⟨cs', h1, h2⟩ := Option.bind_eq_some_iff.1 this
      obtain ⟨s, rfl, q3⟩ := open_act1 h2
      exact ⟨s, h1, q3⟩
    obtain ⟨vals, hvals⟩ := Deep.choose_lt hk
    have hget : ∀ (i : Nat) x, ((List.range len0).map vals)[i]? = some x → i < len0 ∧ x = vals i := fun i x hx => by
      rw [List.getElem?_map] at hx
      obtain ⟨j, h1, rfl⟩ := Option.map_eq_some_iff.1 hx
      obtain ⟨h2, h3⟩ := List.getElem?_eq_some_iff.1 h1
      have h4 : i < len0 := by simpa using h2
      rw [List.getElem_range] at h3
      subst h3
      exact ⟨h4, rfl⟩
    refine ⟨some a, len0, cap0, (List.range len0).map vals, rfl, by simp, by simpa using hlc, hcm, fun hl => ?_, fun x hx => ?_⟩
    · have hl' : 0 < len0 := by
        rcases Nat.eq_zero_or_pos len0 with e | e
        · subst e; exact absurd rfl hl
        · exact e
      have ha : a = ⟨a.block, a.off, none⟩ := by
        obtain ⟨h1, _⟩ := hvals 0 hl'
        obtain ⟨_, _, hc⟩ := World.cells?_some h1
        have := hc 0 (by omega)
        have he : (a.add (0 * 4)).add 0 = a := by simp [Addr.add]
        rw [he] at this
        exact (spot_none this).1
      have hb : a.block < w.heap.size := by
        obtain ⟨h1, _⟩ := hvals 0 hl'
        have hb := World.cells?_block h1 (by omega)
        rw [ha] at hb
        simpa only [add_at] using hb
      refine ⟨a.block, a.off, by show some a = _; rw [← ha], hb, fun i x hx => ?_⟩
      obtain ⟨hi, rfl⟩ := hget i x hx
      obtain ⟨h1, _⟩ := hvals i hi
      obtain ⟨_, _, hc⟩ := World.cells?_some h1
      rw [ha] at hc
      simp only [add_at] at hc
      have g := fun j hj => hc j hj
      have g0 := g 0 (by omega)
      have g1 := g 1 (by omega)
      have g2 := g 2 (by omega)
      have g3 := g 3 (by omega)
      exact ⟨g0, g1, g2, g3⟩
    · obtain ⟨i, hi, rfl⟩ := List.mem_map.1 hx
      exact (hvals i (by simpa using hi)).2
end
end Go.Proofs.Ytbgnbaogclnpgaa

namespace Go.Proofs.Ytbgnbaogclnpgaa
open Go.RowKit Go.ChangeShapes Go.WideShapes Go.ChangeAt

set_option maxRecDepth 100000 in
theorem sightOne_lifted (os : Os) (started : os.Started) (H : Type) (enc : TypeId × Value → H) :
    ReturnsInHanded {} Try.checked os 3 .any (Rows.sightOneSpec.pre6 enc Try.prog Try.f3 Rows.sightOneRow.domain false) (Rows.sightOneSpec.post enc Try.prog Try.f3 false true false false) := by
  refine returnsInHanded_of_change (C := Try.checked) ownE started (by kernel_rfl) Try.func3
    (ChangeSpec.witness6 (enc := enc) (C := Try.checked) false ⟨#[], #[.slice none 0 0, .int .i64 0], []⟩ 8 (by kernel_rfl) (by kernel_rfl) (by kernel_rfl) (by kernel_rfl)) ?_
  intro W base args ds gs before hval0 hW _ _
  have hval : ∀ (j : Nat) t v, Try.f3.params[j]? = some t → args[j]? = some v → Value.okWide Try.prog W .any base t v := hval0
  have hW' := hW
  obtain ⟨p, q, hA0, hV, rfl, _, _⟩ := hW
  have hA : DataW.TrodAll enc Try.prog W 0 (fun _ => true) true Try.f3.params.toList args.toList ds p := hA0
  rw [Try.params3] at hA hval
  obtain ⟨v0, v1, d0, d1, p0, p1, rfl, rfl, rfl, h0, h1⟩ := trodAll_two hA
  obtain ⟨rfl, rfl⟩ := trodVars_none hV
  try simp only [List.append_nil] at hW'
  obtain ⟨a0, n0, c0, l0, rfl, hn0, hs0⟩ := open_acts (hval 0 22 v0 rfl rfl) h0
  obtain ⟨e1, rfl, rfl, rfl, wn1⟩ := open_int Try.underlying3 (hval 1 3 v1 rfl rfl) h1
  have hin1 := wf64e wn1
  have hlt : ∀ x ∈ p0 ++ [], x.block < W.heap.size := fun x hx => hW'.lt x (by first | exact hx | simpa using hx)
  have hlt0 : ∀ x ∈ (p0 : List MemPlace), x.block < W.heap.size := fun x hx => hlt x (by simp only [List.mem_append]; exact .inl hx)
  have hlt1 : ∀ x ∈ ([] : List MemPlace), x.block < W.heap.size := fun x hx => hlt x (by simp only [List.mem_append]; exact .inr hx)
  refine (one_law a0 c0 n0 l0 hn0 e1 hin1 W hs0).mono fun e W' ⟨he, hb⟩ => ?_
  subst he
  exact ⟨_, rfl, _, _, _, [], (p0 ++ []), [], hW', trodAll_mk1 (shut_bool Try.underlying4 _), trodAll_mk2 (Below.trod laidE (by kernel_rfl) (of_decide_eq_true (by kernel_rfl)) h0 hb hlt0) (Below.trod laidE (by kernel_rfl) (of_decide_eq_true (by kernel_rfl)) h1 hb hlt1), rfl, hb.frame _, fun h => by cases h⟩

/-- THE ROW. -/
theorem sightOne_holds : Rows.SightOneSaid :=
  OpenClaim.holds_of_wide 3 Try.f3 rfl rfl rfl rfl rfl rfl rfl ⟨rfl, rfl, rfl, rfl, rfl⟩ rfl rfl rfl rfl rfl (by kernel_rfl) Try.func3 (by kernel_rfl)
    (of_decide_eq_true (by kernel_rfl)) (by unfold Func.isWrapper; first | (rw [if_pos (by decide +kernel)]; kernel_rfl) | (rw [if_neg (by decide +kernel)]; exact ⟨rfl, rfl⟩))
    (fun os started H enc _ => sightOne_lifted os started H enc)
#print axioms sightOne_holds
end Go.Proofs.Ytbgnbaogclnpgaa
