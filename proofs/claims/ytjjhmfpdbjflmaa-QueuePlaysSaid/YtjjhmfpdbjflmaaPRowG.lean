/-
  Rows of numbers read at a place; sets that another one has (stage 14).
-/
import Derived.Test.YtjjhmfpdbjflmaaPAwake
namespace Go.Proofs.Ytjjhmfpdbjflmaa
open Go.RowKit
set_option linter.unusedVariables false

/-- The blocks that a lock has. -/
theorem Qu.own {X : Nat → Prop} {N : Nat} {W : World} {h z : Nat} {A : Lk} (H : Qu X N W h z A) : ∃ Y : Nat → Prop, (∀ k, Y k → QF X N k ∧ k < W.heap.size) ∧ ∀ W', Stay Y W W' → Qu X N W' h z A := by
  obtain ⟨b, s, n, h1, h2, h3⟩ := H.is
  exact ⟨LkF h b s, fun k hk => ⟨h3 k hk, h1.lt k hk⟩, fun W' hs => ⟨H.ok, fun k hk => Nat.lt_of_lt_of_le (H.xs k hk) hs.size, Nat.le_trans H.nw hs.size, b, s, n, h1.stay hs, h2, h3⟩⟩
theorem RowI.look {W : World} {a : Option Addr} {n c i : Nat} {l : List Int} {x : Int} (h : RowI W (.slice a n c) l) (hx : l[i]? = some x) : ∃ b, a = some ⟨b, 0, none⟩ ∧ b < W.heap.size ∧ W.cell? ⟨b, i, none⟩ = some (.int .i64 x) := by
  obtain ⟨hi, e⟩ := List.getElem?_eq_some_iff.1 hx
  obtain ⟨b, c', e1, -, -, h3, h4, -⟩ := RowI.at h hi
  simp only [Value.slice.injEq] at e1
  obtain ⟨rfl, -, -⟩ := e1
  refine ⟨b, rfl, h3, ?_⟩
  rw [h4 i hi]
  simp [hi, e]
theorem RowI.cell {W : World} {b n c i : Nat} {l : List Int} {x : Int} (h : RowI W (.slice (some ⟨b, 0, none⟩) n c) l) (hx : l[i]? = some x) : b < W.heap.size ∧ W.cell? ⟨b, i, none⟩ = some (.int .i64 x) := by
  obtain ⟨b', e, h1, h2⟩ := h.look hx
  cases e
  exact ⟨h1, h2⟩
theorem RowI.cap {W : World} {a : Option Addr} {n c : Nat} {l : List Int} (h : RowI W (.slice a n c) l) : n ≤ c ∧ c ≤ maxLen ∧ n = l.length := by
  obtain ⟨a', c', e, h1, h2⟩ := RowI.form h
  simp only [Value.slice.injEq] at e
  obtain ⟨-, rfl, rfl⟩ := e
  exact ⟨h1, h2, rfl⟩
theorem get_int {l : List Int} {i : Nat} (h : i < l.length) : ∃ x, l[i]? = some x := ⟨l[i], by simp [h]⟩
theorem mem_int {l : List Int} {i : Nat} {x : Int} (h : l[i]? = some x) : x ∈ l := List.mem_of_getElem? h
theorem fst_get {l : PL} {i : Nat} {x : Int} (h : (fsts l)[i]? = some x) : ∃ m, l[i]? = some (x, m) := by
  unfold fsts at h
  rw [List.getElem?_map] at h
  obtain ⟨p, h1, rfl⟩ := Option.map_eq_some_iff.1 h
  exact ⟨p.2, h1⟩
theorem fsts_take (l : PL) (i : Nat) : fsts (l.take i) = (fsts l).take i := by unfold fsts; rw [List.map_take]

theorem compl_bit (y : Nat) (hy : y < 65536) (j : Nat) : (65535 - y).testBit j = (decide (j < 16) && !y.testBit j) := by
  have := Nat.testBit_two_pow_sub_succ (n := 16) (x := y) (by omega) j
  rw [← this]
  congr 1
  omega
theorem andNot_none {x y : Int} (hx : U16 x) (hy : U16 y) (h : ∀ k, hasB x k = true → hasB y k = true) : (bits .andNot .u16 x y != 0) = false := by
  have h1 := hx.1
  have h2 := hx.2
  have h3 := hy.1
  have h4 := hy.2
  rw [u16_andNot x y (by omega) (by omega) (by omega) (by omega)]
  have e : x.toNat &&& (65535 - y.toNat) = 0 := by
    rw [and_none]
    intro k hk hk2
    rw [compl_bit _ (by omega)] at hk2
    have := h k hk
    unfold hasB at this
    rw [this] at hk2
    simp at hk2
  simp [e]

set_option maxRecDepth 100000 in
set_option maxHeartbeats 4000000 in
theorem inr_ex (a : Option Addr) (n c : Nat) (l : List Int) (hln : l.length = n) (x : Int) (w : World) (h : RowI w (.slice a n c) l) (q : Bool) (hq : decide (x ∈ l) = q) :
    Calls Try.prog 28 #[.slice a n c, .int .i64 x] w fun e w' => e = .returned (.bool q) ∧ Below w.heap.size w w' := by
  have hn : n ≤ 9223372036854775807 := by
    obtain ⟨h1, h2, -⟩ := RowI.cap h
    unfold maxLen at h2
    omega
  have HR := Lib.hid h
  have HL := Lib.hid hln
  have HQ := Lib.hid hq
  clear h hln hq
  go_enter Try.func28, Try.ntmps28
  go_wp2_with fail
  go_loopg [5] n (fun gg s5 wr => ∃ (i : Nat), s5 = .int .i64 i ∧ i ≤ n ∧ n - i ≤ gg ∧ wr = w ∧ Hid (∀ j : Nat, j < i → l.getD j 0 ≠ x))
  case atStart => exact ⟨0, rfl, Nat.zero_le _, by omega, rfl, Lib.hid (fun j hj => by omega)⟩
  case round =>
    obtain ⟨i, rfl, hi, hgg, rfl, HN⟩ := hrel
    by_cases hlt : i < n
    · have hltz : (i : Int) < (n : Int) := by omega
      obtain ⟨b, c', e1, -, -, hbl, c0, -⟩ := HR.out.at (j := i) (by rw [HL.out]; exact hlt)
      have ea : a = some ⟨b, 0, none⟩ := by
        simp only [Value.slice.injEq] at e1
        exact e1.1
      subst ea
      have d0 := c0 i (by rw [HL.out]; exact hlt)
      obtain ⟨y, hy⟩ : ∃ y, l.getD i 0 = y := ⟨_, rfl⟩
      rw [hy] at d0
      have HY := Lib.hid hy
      clear e1 c0 hy
      have HLT := Lib.hid (And.intro hlt (And.intro hi hgg))
      clear hi hgg
      by_cases hyx : y = x
      · have hc : (y == x) = true := by simpa using hyx
        go_wp2_with fail
        go_ret
        have e9 := HQ.out
        have : x ∈ l := by
          rw [← hyx, ← HY.out]
          have : i < l.length := by rw [HL.out]; exact HLT.out.1
          rw [List.getD_eq_getElem?_getD, List.getElem?_eq_getElem this]
          exact List.getElem_mem this
        rw [decide_eq_true this] at e9
        subst e9
        exact ⟨rfl, Below.refl _ _⟩
      · have hc : (y == x) = false := by simpa using hyx
        have HNE := Lib.hid hyx
        clear hyx
        go_wp2_with fail
        go_roundg (n - (i + 1))
        case measure => have := HLT.out; omega
        case rel => exact ⟨i + 1, by go_num, by have := HLT.out; omega, Nat.le_refl _, rfl, Lib.hid (fun j hj => by
          by_cases e : j = i
          · subst e
            rw [HY.out]
            exact HNE.out
          · exact HN.out j (by omega))⟩
    · have hltz : ¬ (i : Int) < (n : Int) := by omega
      have hni : i = n := by omega
      subst hni
      go_wp2_with fail
      go_ret
      have e9 := HQ.out
      have : x ∉ l := fun hx => by
        obtain ⟨j, hj, e⟩ := List.mem_iff_getElem.1 hx
        have := HN.out j (by rw [← HL.out]; exact hj)
        rw [List.getD_eq_getElem?_getD, List.getElem?_eq_getElem hj] at this
        exact this e
      rw [decide_eq_false this] at e9
      subst e9
      exact ⟨rfl, Below.refl _ _⟩
theorem in_row (v : Value) (l : List Int) (x : Int) (w : World) (h : RowI w v l) (q : Bool) (hq : decide (x ∈ l) = q) :
    Calls Try.prog 28 #[v, .int .i64 x] w fun e w' => e = .returned (.bool q) ∧ Below w.heap.size w w' := by
  obtain ⟨a, c, rfl, -, -⟩ := h.form
  exact inr_ex a l.length c l rfl x w h q hq

end Go.Proofs.Ytjjhmfpdbjflmaa
