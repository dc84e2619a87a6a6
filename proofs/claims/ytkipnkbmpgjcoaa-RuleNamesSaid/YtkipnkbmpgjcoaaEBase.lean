/-
  Expressions in memory; the smallest functions of package expr (arity, numeric, the checks of a column).
-/
import Derived.Test.YtkipnkbmpgjcoaaEMay
namespace Go.Proofs.Ytkipnkbmpgjcoaa
open Go.RowKit

/-- An api.Expr lies in block b from o on. -/
def AtE (W : World) (b o : Nat) (e : Ex) : Prop :=
  W.cell? ⟨b, o, none⟩ = some (.int .u8 e.op) ∧ W.cell? ⟨b, o + 1, none⟩ = some (.int .u8 e.v.k) ∧ W.cell? ⟨b, o + 2, none⟩ = some (.int .i64 e.v.n) ∧ W.cell? ⟨b, o + 3, none⟩ = some (.int .i64 e.v.u) ∧
  W.cell? ⟨b, o + 4, none⟩ = some (.string e.v.t) ∧ W.cell? ⟨b, o + 5, none⟩ = some (.int .i64 e.m) ∧ W.cell? ⟨b, o + 6, none⟩ = some (.slice e.a e.len e.cap) ∧ b < W.heap.size

theorem AtE.below {W W' : World} {b o : Nat} {e : Ex} (h : AtE W b o e) (hb : Below W.heap.size W W') : AtE W' b o e := by
  obtain ⟨h0, h1, h2, h3, h4, h5, h6, h7⟩ := h
  exact ⟨by rw [hb.cell h7]; exact h0, by rw [hb.cell h7]; exact h1, by rw [hb.cell h7]; exact h2, by rw [hb.cell h7]; exact h3, by rw [hb.cell h7]; exact h4, by rw [hb.cell h7]; exact h5, by rw [hb.cell h7]; exact h6, Nat.lt_of_lt_of_le h7 hb.size⟩

/-- An api.Expr lies in a block of its own. -/
def BoxE (W : World) (g : Nat) (e : Ex) : Prop :=
  W.cell? ⟨g, 0, none⟩ = some (.int .u8 e.op) ∧ W.cell? ⟨g, 1, none⟩ = some (.int .u8 e.v.k) ∧ W.cell? ⟨g, 2, none⟩ = some (.int .i64 e.v.n) ∧ W.cell? ⟨g, 3, none⟩ = some (.int .i64 e.v.u) ∧
  W.cell? ⟨g, 4, none⟩ = some (.string e.v.t) ∧ W.cell? ⟨g, 5, none⟩ = some (.int .i64 e.m) ∧ W.cell? ⟨g, 6, none⟩ = some (.slice e.a e.len e.cap) ∧ g < W.heap.size

theorem BoxE.below {W W' : World} {g : Nat} {e : Ex} (h : BoxE W g e) (hb : Below W.heap.size W W') : BoxE W' g e := by
  obtain ⟨h0, h1, h2, h3, h4, h5, h6, h7⟩ := h
  exact ⟨by rw [hb.cell h7]; exact h0, by rw [hb.cell h7]; exact h1, by rw [hb.cell h7]; exact h2, by rw [hb.cell h7]; exact h3, by rw [hb.cell h7]; exact h4, by rw [hb.cell h7]; exact h5, by rw [hb.cell h7]; exact h6, Nat.lt_of_lt_of_le h7 hb.size⟩

theorem BoxE.new (w : World) (e : Ex) : BoxE (w.alloc (.cells #[.int .u8 e.op, .int .u8 e.v.k, .int .i64 e.v.n, .int .i64 e.v.u, .string e.v.t, .int .i64 e.m, .slice e.a e.len e.cap] 27)) w.heap.size e := by
  refine ⟨?_, ?_, ?_, ?_, ?_, ?_, ?_, by simp⟩ <;> go_simp

/-- What the kinds of the fields ask. -/
structure Ex.wf (e : Ex) : Prop where
  op0 : 0 ≤ e.op
  op1 : e.op ≤ 255
  m : I64 e.m
  k0 : 0 ≤ e.v.k
  k1 : e.v.k ≤ 255
  n : I64 e.v.n
  u : I64 e.v.u
  t : e.v.t.size ≤ maxLen
  lc : e.len ≤ e.cap
  cm : e.cap ≤ maxLen

/-- An expression's Args, and theirs, lie in memory. -/
def Ex.In (W : World) : Ex → Prop
  | .nil => Ex.wf .nil
  | .node op v m a len cap kid => (Ex.node op v m a len cap kid).wf ∧ (0 < len → ∃ b o, a = some ⟨b, o, none⟩ ∧ ∀ i, i < len → AtE W b (o + i * 7) (kid i)) ∧ ∀ i, i < len → (kid i).In W

theorem Ex.in_iff {W : World} {e : Ex} : e.In W ↔ e.wf ∧ (0 < e.len → ∃ b o, e.a = some ⟨b, o, none⟩ ∧ ∀ i, i < e.len → AtE W b (o + i * 7) (e.kid i)) ∧ ∀ i, i < e.len → (e.kid i).In W := by
  cases e
  · exact ⟨fun h => ⟨h, fun h => absurd h (Nat.not_lt_zero _), fun i h => absurd h (Nat.not_lt_zero _)⟩, fun h => h.1⟩
  · exact Iff.rfl

theorem Ex.In.below {W W' : World} (hb : Below W.heap.size W W') : ∀ {e : Ex}, e.In W → e.In W' := by
  intro e
  induction e using Ex.ind with
  | h e ih =>
    intro h
    rw [Ex.in_iff] at h ⊢
    obtain ⟨h1, h2, h3⟩ := h
    refine ⟨h1, fun hl => ?_, fun i hi => ih i hi (h3 i hi)⟩
    obtain ⟨b, o, e1, h4⟩ := h2 hl
    exact ⟨b, o, e1, fun i hi => (h4 i hi).below hb⟩

theorem Ex.In.wf' {W : World} {e : Ex} (h : e.In W) : e.wf := (Ex.in_iff.1 h).1
theorem Ex.In.kid' {W : World} {e : Ex} (h : e.In W) {i : Nat} (hi : i < e.len) : (e.kid i).In W := (Ex.in_iff.1 h).2.2 i hi
theorem Ex.In.args {W : World} {e : Ex} (h : e.In W) (hl : 0 < e.len) : ∃ b o, e.a = some ⟨b, o, none⟩ ∧ ∀ i, i < e.len → AtE W b (o + i * 7) (e.kid i) := (Ex.in_iff.1 h).2.1 hl

theorem arity_is (op : Int) (n : Int) (h : (arity op : Int) = n) (w : World) :
    Calls Try.prog 96 #[.int .u8 op] w fun e w' => e = .returned (.int .i64 n) ∧ w = w' := by
  subst h
  by_cases h3 : op = 3
  · subst h3
    go_enter Try.func96, Try.ntmps96
    go_wp2_with fail
    go_ret
    exact ⟨rfl, rfl⟩
  by_cases h4 : op = 4
  · subst h4
    go_enter Try.func96, Try.ntmps96
    go_wp2_with fail
    go_ret
    exact ⟨rfl, rfl⟩
  by_cases h5 : op = 5
  · subst h5
    go_enter Try.func96, Try.ntmps96
    go_wp2_with fail
    go_ret
    exact ⟨rfl, rfl⟩
  by_cases h6 : op = 6
  · subst h6
    go_enter Try.func96, Try.ntmps96
    go_wp2_with fail
    go_ret
    exact ⟨rfl, rfl⟩
  by_cases h7 : op = 7
  · subst h7
    go_enter Try.func96, Try.ntmps96
    go_wp2_with fail
    go_ret
    exact ⟨rfl, rfl⟩
  by_cases h8 : op = 8
  · subst h8
    go_enter Try.func96, Try.ntmps96
    go_wp2_with fail
    go_ret
    exact ⟨rfl, rfl⟩
  by_cases h9 : op = 9
  · subst h9
    go_enter Try.func96, Try.ntmps96
    go_wp2_with fail
    go_ret
    exact ⟨rfl, rfl⟩
  by_cases h10 : op = 10
  · subst h10
    go_enter Try.func96, Try.ntmps96
    go_wp2_with fail
    go_ret
    exact ⟨rfl, rfl⟩
  by_cases h11 : op = 11
  · subst h11
    go_enter Try.func96, Try.ntmps96
    go_wp2_with fail
    go_ret
    exact ⟨rfl, rfl⟩
  by_cases h12 : op = 12
  · subst h12
    go_enter Try.func96, Try.ntmps96
    go_wp2_with fail
    go_ret
    exact ⟨rfl, rfl⟩
  by_cases h13 : op = 13
  · subst h13
    go_enter Try.func96, Try.ntmps96
    go_wp2_with fail
    go_ret
    exact ⟨rfl, rfl⟩
  have d3 : (op == 3) = false := by simpa using h3
  have d4 : (op == 4) = false := by simpa using h4
  have d5 : (op == 5) = false := by simpa using h5
  have d6 : (op == 6) = false := by simpa using h6
  have d7 : (op == 7) = false := by simpa using h7
  have d8 : (op == 8) = false := by simpa using h8
  have d9 : (op == 9) = false := by simpa using h9
  have d10 : (op == 10) = false := by simpa using h10
  have d11 : (op == 11) = false := by simpa using h11
  have d12 : (op == 12) = false := by simpa using h12
  have d13 : (op == 13) = false := by simpa using h13
  have hx : arity op = 0 := by unfold arity; rw [if_neg (by omega), if_neg (by omega)]
  rw [hx]
  go_enter Try.func96, Try.ntmps96
  go_wp2_with fail
  go_ret
  exact ⟨rfl, rfl⟩

/-- What a check of a column answers, in whatever world to come. -/
structure HasC (W : World) (f : FuncId) (cap : Array Value) (has : Int → Bool) : Prop where
  enter : ∀ args w, (callFunc f args).run Try.prog w = .ok (.enter f args) w
  calls : ∀ W', Below W.heap.size W W' → ∀ m, I64 m → Calls Try.prog f (#[.int .i64 m] ++ cap) W' fun e w' => e = .returned (.bool (has m)) ∧ Below W'.heap.size W' w'

theorem HasC.below {W W1 : World} {f : FuncId} {cap : Array Value} {has : Int → Bool} (h : HasC W f cap has) (hb : Below W.heap.size W W1) : HasC W1 f cap has :=
  ⟨h.enter, fun W' hb' m hm => h.calls W' (below_tr hb hb') m hm⟩

theorem below_is (W : World) (g n : Nat) (hg : g < W.heap.size) (hc : W.cell? ⟨g, 0, none⟩ = some (.int .i64 n)) : HasC W 94 #[.pointer (some ⟨g, 0, none⟩)] (hasBelow n) := by
  refine ⟨fun args w => by go_simp, fun W' hb m hm => ?_⟩
  have hc' : W'.cell? ⟨g, 0, none⟩ = some (.int .i64 n) := by rw [hb.cell hg]; exact hc
  unfold hasBelow
  by_cases h0 : 0 ≤ m
  · by_cases h1 : m < n
    · show Calls Try.prog 94 #[.int .i64 m, .pointer (some ⟨g, 0, none⟩)] W' _
      have e : (decide (0 ≤ m) && decide (m < (n : Int))) = true := by simp [h0, h1]
      rw [e]
      go_enter Try.func94, Try.ntmps94
      go_wp2_with fail
      go_ret
      exact ⟨rfl, Below.refl _ _⟩
    · show Calls Try.prog 94 #[.int .i64 m, .pointer (some ⟨g, 0, none⟩)] W' _
      have e : (decide (0 ≤ m) && decide (m < (n : Int))) = false := by simp [h1]
      rw [e]
      have h2 : decide (m < (n : Int)) = false := by simpa using h1
      go_enter Try.func94, Try.ntmps94
      go_wp2_with fail
      go_ret
      exact ⟨rfl, Below.refl _ _⟩
  · show Calls Try.prog 94 #[.int .i64 m, .pointer (some ⟨g, 0, none⟩)] W' _
    have e : (decide (0 ≤ m) && decide (m < (n : Int))) = false := by simp [h0]
    rw [e]
    have h2 : decide (0 ≤ m) = false := by simpa using h0
    go_enter Try.func94, Try.ntmps94
    go_wp2_with fail
    go_ret
    exact ⟨rfl, Below.refl _ _⟩
end Go.Proofs.Ytkipnkbmpgjcoaa
