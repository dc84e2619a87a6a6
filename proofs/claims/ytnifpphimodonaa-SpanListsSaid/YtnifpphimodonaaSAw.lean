/-
  What Free hands back, as values in memory; lists of two and three values.
-/
import Derived.Test.YtnifpphimodonaaSFree2
namespace Go.Proofs.Ytnifpphimodonaa
open Go.RowKit

/-- The i-th gap, as a value. -/
def gapV (L : List (Int × Int)) (i : Nat) : Val := spanV (L.getD i (0, 0)).1 (L.getD i (0, 0)).2

theorem flatG_get : ∀ (L : List (Int × Int)) (i c : Nat), i < L.length → c < 4 → (flatG L)[i * 4 + c]? = (encV (gapV L i))[c]?
  | [], i, c, h, _ => absurd h (Nat.not_lt_zero _)
  | x :: L, 0, c, _, hc => by
    show (gapC x ++ flatG L)[0 * 4 + c]? = _
    rw [List.getElem?_append_left (by simp [gapC]; omega)]
    simp [gapC, encV, gapV, spanV]
  | x :: L, i + 1, c, h, hc => by
    show (gapC x ++ flatG L)[(i + 1) * 4 + c]? = _
    rw [List.getElem?_append_right (by simp [gapC]; omega)]
    have := flatG_get L i c (by simpa using h) hc
    rw [show (i + 1) * 4 + c - (gapC x).length = i * 4 + c by simp [gapC]; omega, this]
    simp [gapV]

/-- The gaps in memory. -/
theorem own_row {W : World} {base : Nat} {s : Value} {L : List (Int × Int)} (h : W.ownsRow base 23 4 s L.length (flatG L)) :
    (s = .slice none 0 0 ∧ L = []) ∨ ∃ g cap, s = .slice (some ⟨g, 0, none⟩) L.length cap ∧ L.length ≤ cap ∧ cap ≤ maxLen ∧ base ≤ g ∧ RowF W g L.length (gapV L) := by
  rcases h.2 with ⟨h1, h2⟩ | ⟨g, cap, cur, rfl, hbg, hg, hnc, hcm, hcs, hxs⟩
  · exact .inl ⟨h1, List.length_eq_zero_iff.1 h2⟩
  · refine .inr ⟨g, cap, rfl, hnc, hcm, hbg, ⟨fun i hi => atV_of (fun c u hu => ?_) (some_lt hg), fun t ht => ?_, some_lt hg⟩⟩
    · have hc : c < 4 := by have := (List.getElem?_eq_some_iff.1 hu).1; simpa [encV] using this
      have := flatG_get L i c hi hc
      rw [hu, ← hxs, List.getElem?_take_of_lt (by omega)] at this
      simp [World.cell?, show W.heap[g]? = _ from hg]
      simpa using this
    · simp [World.frozen?, show W.heap[g]? = _ from hg]

/-- A new list of two values. -/
theorem new2 (w : World) (x y : Val) : SlV (w.alloc (.cells #[.int .u8 x.k, .int .i64 x.n, .int .i64 x.u, .string x.t, .int .u8 y.k, .int .i64 y.n, .int .i64 y.u, .string y.t] 23)) (some ⟨w.heap.size, 0, none⟩) 2 2 (fun i => if i = 0 then x else y) := by
  refine ⟨Nat.le_refl _, by omega, by omega, fun _ => ⟨w.heap.size, 0, rfl, fun i hi => ?_⟩⟩
  rcases (show i = 0 ∨ i = 1 by omega) with rfl | rfl
  · refine ⟨?_, ?_, ?_, ?_, by simp⟩ <;> go_simp
  · refine ⟨?_, ?_, ?_, ?_, by simp⟩ <;> go_simp

theorem new1 (w : World) (x : Val) : SlV (w.alloc (.cells #[.int .u8 x.k, .int .i64 x.n, .int .i64 x.u, .string x.t] 23)) (some ⟨w.heap.size, 0, none⟩) 1 1 (fun _ => x) := by
  refine ⟨Nat.le_refl _, by omega, by omega, fun _ => ⟨w.heap.size, 0, rfl, fun i hi => ?_⟩⟩
  obtain rfl : i = 0 := by omega
  refine ⟨?_, ?_, ?_, ?_, by simp⟩ <;> go_simp

/-- A new list of three values. -/
theorem new3 (w : World) (x y z : Val) : SlV (w.alloc (.cells #[.int .u8 x.k, .int .i64 x.n, .int .i64 x.u, .string x.t, .int .u8 y.k, .int .i64 y.n, .int .i64 y.u, .string y.t, .int .u8 z.k, .int .i64 z.n, .int .i64 z.u, .string z.t] 23)) (some ⟨w.heap.size, 0, none⟩) 3 3 (fun i => if i = 0 then x else if i = 1 then y else z) := by
  refine ⟨Nat.le_refl _, by omega, by omega, fun _ => ⟨w.heap.size, 0, rfl, fun i hi => ?_⟩⟩
  rcases (show i = 0 ∨ i = 1 ∨ i = 2 by omega) with rfl | rfl | rfl
  · refine ⟨?_, ?_, ?_, ?_, by simp⟩ <;> go_simp
  · refine ⟨?_, ?_, ?_, ?_, by simp⟩ <;> go_simp
  · refine ⟨?_, ?_, ?_, ?_, by simp⟩ <;> go_simp

theorem meet_span (a b c d : Int) : meetS (spanV a b) (spanV c d) = decide (a < b ∧ c < d ∧ a < d ∧ c < b) := by
  rw [Bool.eq_iff_iff, meetS_iff, okS_span, okS_span]
  simp [spanV]

theorem ex_gaps : GapsS (spanV 0 10) (fun i => if i = 0 then spanV 2 4 else spanV 3 7) 2 [(0, 2), (7, 10)] := by
  refine ⟨by simp, by simp, fun x => ?_⟩
  constructor
  · rintro ⟨g, hg, h1, h2⟩
    simp only [List.mem_cons, List.not_mem_nil, or_false] at hg
    rcases hg with rfl | rfl
    · simp only at h1 h2
      refine ⟨by show (0 : Int) ≤ x; omega, by show x < (10 : Int); omega, fun j hj => ?_⟩
      rcases (show j = 0 ∨ j = 1 by omega) with rfl | rfl
      · show ¬ ((2 : Int) ≤ x ∧ x < 4); omega
      · show ¬ ((3 : Int) ≤ x ∧ x < 7); omega
    · simp only at h1 h2
      refine ⟨by show (0 : Int) ≤ x; omega, by show x < (10 : Int); omega, fun j hj => ?_⟩
      rcases (show j = 0 ∨ j = 1 by omega) with rfl | rfl
      · show ¬ ((2 : Int) ≤ x ∧ x < 4); omega
      · show ¬ ((3 : Int) ≤ x ∧ x < 7); omega
  · rintro ⟨h1, h2, h3⟩
    have a1 : ¬ ((2 : Int) ≤ x ∧ x < 4) := h3 0 (by omega)
    have a2 : ¬ ((3 : Int) ≤ x ∧ x < 7) := h3 1 (by omega)
    have b1 : (0 : Int) ≤ x := h1
    have b2 : x < (10 : Int) := h2
    rcases Int.lt_or_le x 2 with h | h
    · exact ⟨(0, 2), by simp, by show (0 : Int) ≤ x; omega, h⟩
    · exact ⟨(7, 10), by simp, by show (7 : Int) ≤ x; omega, b2⟩

theorem ex_first : FirstS (fun i => if i = 0 then spanV 1 2 else if i = 1 then spanV 5 9 else spanV 8 10) 3 1 2 true := by
  refine .inl ⟨rfl, by omega, by omega, ?_, fun a ha => ?_, fun a b h1 h2 => ?_⟩
  · show meetS (spanV 5 9) (spanV 8 10) = true
    rw [meet_span]; decide
  · obtain rfl : a = 0 := by omega
    show meetS (spanV 1 2) (spanV 8 10) = false
    rw [meet_span]; decide
  · obtain rfl : a = 1 := by omega
    obtain rfl : b = 0 := by omega
    show meetS (spanV 1 2) (spanV 5 9) = false
    rw [meet_span]; decide
end Go.Proofs.Ytnifpphimodonaa
