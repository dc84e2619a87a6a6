/-
  From the laws' walks to their rows: how a list of steps reads (stage 14).
-/
import Derived.Test.YtjjhmfpdbjflmaaRows
import Derived.Test.YtjjhmfpdbjflmaaPLaw
import Derived.ProofKit
import Derived.OpenShut
import Derived.Carry
import Derived.SizedLaws
import Derived.Deep.Slices
namespace Go.Proofs.Ytjjhmfpdbjflmaa
open Go.RowKit Go.ChangeShapes Go.WideShapes Go.ChangeAt

theorem ownE : ownKnob Try.prog.godebug = none := by kernel_rfl
theorem laidE : laidOutB Try.prog = true := by kernel_rfl
theorem wf64e {n : Int} (h : (Lit.int .i64 n).wf = true) : I64 n := by unfold I64; simpa [Lit.wf, IntKind.min, IntKind.max, IntKind.signed, IntKind.bits] using h
theorem wf8e {n : Int} (h : (Lit.int .u8 n).wf = true) : U8 n := by
  have : 0 ≤ n ∧ n ≤ 255 := by simpa [Lit.wf, IntKind.min, IntKind.max, IntKind.signed, IntKind.bits] using h
  exact ⟨this.1, by omega⟩

theorem spot_none {w : World} {a : Addr} {v : Value} (h : w.cell? a = some v) : a = ⟨a.block, a.off, none⟩ ∧ a.block < w.heap.size := by
  obtain ⟨b, o, s⟩ := a
  unfold World.cell? at h
  dsimp only at h
  split at h
  · rename_i c _ _ hb
    cases s with
    | none => exact ⟨rfl, by have := (Array.getElem?_eq_some_iff.1 hb).1; exact this⟩
    | some s => simp at h
  · cases h

theorem add_at {b o i : Nat} : (⟨b, o, none⟩ : Addr).add i = ⟨b, o + i, none⟩ := by
  unfold Addr.add
  split
  · rename_i h; rw [h]; rfl
  · rfl

section
variable {H : Type} {enc : TypeId × Value → H} {w : World}

theorem cSt : Try.prog.cellsOf 32 = 3 := by kernel_rfl

set_option maxRecDepth 100000 in
theorem open_stp {fuel : Nat} {cs : List Value} {x : DataW H × List MemPlace} (h : DataW.trod enc Try.prog w 0 (fun _ => true) true fuel 32 cs = some x) :
    ∃ s : Stp, cs = stpC s ∧ s.wf := by
  obtain ⟨xs, n, _, rfl, hl, hlen, hf⟩ := DataW.trod_struct Try.underlying32 h
  rw [cSt] at hl
  obtain ⟨a, b, c, rfl⟩ : ∃ a b c, cs = [a, b, c] := by
    match cs, hl with
    | [a, b, c], _ => exact ⟨a, b, c, rfl⟩
  obtain ⟨y0, y1, y2, rfl⟩ : ∃ a b c, xs = [a, b, c] := by
    match xs, hlen with
    | [a, b, c], _ => exact ⟨a, b, c, rfl⟩
  have h0 := hf 0 _ rfl
  have h1 := hf 1 _ rfl
  have h2 := hf 2 _ rfl
  simp only [List.getElem?_cons_zero, List.getElem?_cons_succ] at h0 h1 h2
  obtain ⟨k, e0, rfl, w0⟩ := DataW.trod_int Try.underlying3 h0
  obtain ⟨m, e1, rfl, w1⟩ := DataW.trod_int Try.underlying5 h1
  obtain ⟨d, e2, rfl⟩ := DataW.trod_bool Try.underlying4 h2
  cases e0; cases e1; cases e2
  exact ⟨⟨k, m, d⟩, rfl, wf64e w0, wf8e w1⟩

set_option maxRecDepth 100000 in
/-- An argument that is a slice of steps. -/
theorem open_steps {b0 : Nat} {v : Value} {d : DataW H} {p : List MemPlace} (hv : Value.okWide Try.prog w .any b0 22 v) (h : DataW.Trod enc Try.prog w 0 (fun _ => true) true 22 v d p) :
    ∃ a n c l, v = .slice a n c ∧ List.length l = n ∧ SlSt w a c l := by
  obtain ⟨a0, len0, cap0, rfl⟩ := okWide_slice Try.underlying22 hv
  obtain ⟨fuel, hf⟩ := h
  rcases DataW.trod_slice Try.underlying22 hf with ⟨e3, _⟩ | ⟨a, len, cap, elems, rest, n', hn', e3, hx, _, hlc, hcm, hel, hat, _, _⟩
  · simp [Value.cells] at e3
    obtain ⟨rfl, rfl, rfl⟩ := e3
    exact ⟨none, 0, 0, [], rfl, rfl, SlSt.nil _ _ _ (Nat.zero_le _)⟩
  · simp [Value.cells] at e3
    obtain ⟨rfl, rfl, rfl⟩ := e3
    rw [cSt] at hat
    haveI : Inhabited Stp := ⟨⟨0, 0, false⟩⟩
    have hk : ∀ i, i < len0 → ∃ s : Stp, w.cells? 0 (a.add (i * 3)) 3 = some (stpC s) ∧ s.wf := by
      intro i hi
      have := hat i hi
      rw [List.getElem?_eq_getElem (by omega)] at this
      obtain ⟨cs', h1, h2⟩ := Option.bind_eq_some_iff.1 this
      obtain ⟨s, rfl, q3⟩ := open_stp h2
      exact ⟨s, h1, q3⟩
    obtain ⟨vals, hvals⟩ := Deep.choose_lt hk
    have hget : ∀ (i : Nat) x, ((List.range len0).map vals)[i]? = some x → i < len0 ∧ x = vals i := fun i x hx => by
      rw [List.getElem?_map] at hx
      obtain ⟨j, h1, rfl⟩ := Option.map_eq_some_iff.1 hx
      obtain ⟨h2, h3⟩ := List.getElem?_eq_some_iff.1 h1
      have h4 : i < len0 := by simpa using h2
      rw [List.getElem_range] at h3
      subst h3
      exact ⟨h4, rfl⟩
    refine ⟨some a, len0, cap0, (List.range len0).map vals, rfl, by simp, by simpa using hlc, hcm, fun hl => ?_, fun x hx => ?_⟩
    · have hl' : 0 < len0 := by
        rcases Nat.eq_zero_or_pos len0 with e | e
        · subst e; exact absurd rfl hl
        · exact e
      have ha : a = ⟨a.block, a.off, none⟩ := by
        obtain ⟨h1, _⟩ := hvals 0 hl'
        obtain ⟨_, _, hc⟩ := World.cells?_some h1
        have := hc 0 (by omega)
        have he : (a.add (0 * 3)).add 0 = a := by simp [Addr.add]
        rw [he] at this
        exact (spot_none this).1
      refine ⟨a.block, a.off, by show some a = _; rw [← ha], fun i x hx => ?_⟩
      obtain ⟨hi, rfl⟩ := hget i x hx
      obtain ⟨h1, _⟩ := hvals i hi
      obtain ⟨_, _, hc⟩ := World.cells?_some h1
      have hb := World.cells?_block h1 (by omega)
      rw [ha] at hc hb
      simp only [add_at] at hc hb
      refine ⟨hb, fun j v hv => ?_⟩
      have hj : j < 3 := (List.getElem?_eq_some_iff.1 hv).1
      rw [hc j hj]
      exact hv
    · obtain ⟨i, hi, rfl⟩ := List.mem_map.1 hx
      exact (hvals i (by simpa using hi)).2

end
end Go.Proofs.Ytjjhmfpdbjflmaa
