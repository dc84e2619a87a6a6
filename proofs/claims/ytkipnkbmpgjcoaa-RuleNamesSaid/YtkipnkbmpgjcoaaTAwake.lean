/-
  The law's own examples: table, awake.
-/
import Derived.Test.YtkipnkbmpgjcoaaTLaw
namespace Go.Proofs.Ytkipnkbmpgjcoaa
open Go.RowKit
set_option linter.unusedVariables false

def tc : List Col := [⟨⟨#[97]⟩, 1, Val.zero⟩, ⟨⟨#[98]⟩, 3, Val.zero⟩, ⟨⟨#[99]⟩, 4, Val.zero⟩]
/-- The examples' table; one without columns; nobody's. -/
def t1 (g : Nat) : Tb := ⟨⟨#[116]⟩, some ⟨g, 0, none⟩, 3, 3, tc, ⟨#[114, 111, 111, 116]⟩⟩
def t0 : Tb := ⟨⟨#[116]⟩, none, 0, 0, [], ⟨#[114, 111, 111, 116]⟩⟩
def zt : Tb := ⟨⟨#[]⟩, none, 0, 0, [], ⟨#[]⟩⟩
/-- The examples' rules. -/
def zr : Rl := ⟨0, ⟨#[]⟩, ⟨#[]⟩, none, 0, 0, [], .nil, ⟨#[]⟩, 0, 0, false, false⟩
def rnull (b : Nat) : Rl := ⟨1, ⟨#[110]⟩, ⟨#[116]⟩, some ⟨b, 0, none⟩, 2, 2, [0, 1], .nil, ⟨#[]⟩, 0, 0, false, false⟩
def rchk : Rl := ⟨2, ⟨#[107]⟩, ⟨#[116]⟩, none, 0, 0, [], .node 2 Val.zero 0 none 0 0 (fun _ => .nil), ⟨#[]⟩, 0, 0, false, false⟩
def runi (b : Nat) : Rl := ⟨3, ⟨#[117]⟩, ⟨#[116]⟩, some ⟨b, 0, none⟩, 2, 2, [0, 1], .nil, ⟨#[]⟩, 0, 0, false, true⟩
def rfor (b : Nat) : Rl := ⟨4, ⟨#[102]⟩, ⟨#[116]⟩, some ⟨b, 0, none⟩, 1, 1, [0], .nil, ⟨#[117]⟩, 0, 0, false, false⟩
def rapt (b : Nat) : Rl := ⟨5, ⟨#[112]⟩, ⟨#[116]⟩, some ⟨b, 0, none⟩, 2, 2, [1, 2], .nil, ⟨#[]⟩, 0, 0, false, true⟩

theorem val0_wf : Val.zero.wf := ⟨by decide, by decide, by unfold I64; decide, by unfold I64; decide, by decide⟩
theorem tc_wf : ∀ x ∈ tc, x.wf := by
  intro x hx
  simp only [tc, List.mem_cons, List.not_mem_nil, or_false] at hx
  rcases hx with rfl | rfl | rfl <;> exact ⟨by decide, by decide, val0_wf, by decide⟩

theorem t1_in {W : World} {g : Nat} (h : LstC W g 0 tc) : (t1 g).In W :=
  ⟨⟨show 3 ≤ 3 by decide, show 3 ≤ maxLen by decide, fun _ => ⟨g, 0, rfl, h⟩, tc_wf⟩, rfl, show 1 ≤ 9223372036854775807 by decide, show 4 ≤ 9223372036854775807 by decide⟩
theorem t0_in (W : World) : t0.In W := ⟨SlC.nil _ _ _ (by decide), rfl, by decide, by decide⟩
theorem zt_in (W : World) : zt.In W := ⟨SlC.nil _ _ _ (by decide), rfl, by decide, by decide⟩

theorem exnil_in (W : World) : (Ex.nil).In W := by
  rw [Ex.in_iff]
  exact ⟨⟨by decide, by decide, i64_0, by decide, by decide, i64_0, i64_0, by decide, by decide, by decide⟩, fun h => absurd h (by decide), fun i h => absurd h (Nat.not_lt_zero _)⟩

/-- A rule made of parts that lie in memory. -/
theorem mk_in {W : World} {r : Rl} (h1 : SlI W r.a r.cap r.cols) (h2 : r.cols.length = r.n) (h3 : r.is.In W) (h4 : decide ((0 ≤ r.kind ∧ r.kind ≤ 255) ∧ (0 ≤ r.od ∧ r.od ≤ 255) ∧ (0 ≤ r.ou ∧ r.ou ≤ 255) ∧ r.nm.size ≤ 9223372036854775807 ∧ r.tb.size ≤ 9223372036854775807 ∧ r.to.size ≤ 9223372036854775807) = true) : r.In W := by
  simp only [decide_eq_true_eq] at h4
  exact ⟨h1, h2, h3, h4.1, h4.2.1, h4.2.2.1, h4.2.2.2.1, h4.2.2.2.2.1, h4.2.2.2.2.2⟩

theorem zr_in (W : World) : zr.In W := mk_in (SlI.nil _ _ _ (by decide)) rfl (exnil_in W) (by decide)
theorem rchk_in (W : World) : rchk.In W := mk_in (SlI.nil _ _ _ (by decide)) rfl (by
  show Ex.In W (.node 2 Val.zero 0 none 0 0 (fun _ => .nil))
  rw [Ex.in_iff]
  exact ⟨⟨by decide, by decide, i64_0, by decide, by decide, i64_0, i64_0, by decide, by decide, by decide⟩, fun h => absurd h (by decide), fun i h => absurd h (Nat.not_lt_zero _)⟩) (by decide)

theorem newIs (w : World) (g : Nat) (hg : w.heap.size = g) (l : List Int) (hw : ∀ x ∈ l, I64 x) (hl : l.length ≤ 1000000) : SlI (w.alloc (.cells (l.map (Value.int .i64)).toArray 3)) (some ⟨g, 0, none⟩) l.length l := by
  subst hg
  refine ⟨Nat.le_refl _, by unfold maxLen; omega, fun _ => ⟨w.heap.size, 0, rfl, by simp, fun i x hx => ?_⟩, hw⟩
  rw [World.cell?_alloc_at _ _ _ _ (by simp)]
  simp [hx]

theorem alli64 {l : List Int} (h : (l.all fun x => decide (-9223372036854775808 ≤ x ∧ x ≤ 9223372036854775807)) = true) : ∀ x ∈ l, I64 x := by
  intro x hx
  have := List.all_eq_true.mp h x hx
  unfold I64
  simpa using this

theorem at_dst {P : Program} {ops : Array Oper} {rest : List Oper} {o : Oper} {a : Act} {w : World} {Q : Exit → Act → World → Prop} (k : Option Tmp) (_ : o.dst = k) (h : wpList P ops Q (o :: rest) a w) : wpList P ops Q (o :: rest) a w := h

/-- A new block, just made, is filled whole (an arm of the walk). -/
theorem store_fresh {P : Program} {ops : Array Oper} {rest : List Oper} {o : Oper} {a : Act} {Q : Exit → Act → World → Prop} {W : World} {zs cs : Array Value} {T ty : TypeId} {x y : Operand} {g : Nat} (hgd : o.guard = none) (ho : o.op = .store ty x y)
    (hx : a.eval x = .pointer (some ⟨g, 0, none⟩)) (hy : a.eval y = .agg cs) (hg : W.heap.size = g) (hi : (P.info? ty).map (·.size) = some cs.size)
    (hold : zs.size = cs.size) (h1 : cs.all (·.oneCell') = true) (h : wpList P ops Q rest (a.put o.dst undef) (W.alloc (.cells cs T))) : wpList P ops Q (o :: rest) a (W.alloc (.cells zs T)) :=
  store_new hgd ty x y ho W _ g hg zs cs T hx hy hi hold h1 rfl h

/-- What table hands out. -/
def TblR (w' : World) (x : Ending) : Prop := ∃ g, x = .returned (.agg #[.string (t1 g).nm, .slice (t1 g).a (t1 g).n (t1 g).cap, .string (t1 g).ow]) ∧ LstC w' g 0 tc

set_option maxRecDepth 100000 in
set_option maxHeartbeats 2000000 in
theorem table_is (w : World) : Calls Try.prog 24 #[] w fun e w' => TblR w' e ∧ Below w.heap.size w w' := by
  go_enter Try.func24, Try.ntmps24
  go_wp2_with fail
  have hb : Below w.heap.size w ((w.alloc (.cells #[.string ⟨#[116]⟩, .slice (some ⟨w.heap.size + 1, 0, none⟩) 3 3, .string ⟨#[114, 111, 111, 116]⟩] 32)).alloc (.cells #[.string ⟨#[97]⟩, .int .u8 1, .int .u8 0, .int .i64 0, .int .i64 0, .string ⟨#[]⟩, .string ⟨#[98]⟩, .int .u8 3, .int .u8 0, .int .i64 0, .int .i64 0, .string ⟨#[]⟩, .string ⟨#[99]⟩, .int .u8 4, .int .u8 0, .int .i64 0, .int .i64 0, .string ⟨#[]⟩] 49)) := ((Below.refl _ _).alloc (Nat.le_refl _) _).alloc (by simp) _
  have q0 : ((w.alloc (.cells #[.string ⟨#[116]⟩, .slice (some ⟨w.heap.size + 1, 0, none⟩) 3 3, .string ⟨#[114, 111, 111, 116]⟩] 32)).alloc (.cells #[.string ⟨#[97]⟩, .int .u8 1, .int .u8 0, .int .i64 0, .int .i64 0, .string ⟨#[]⟩, .string ⟨#[98]⟩, .int .u8 3, .int .u8 0, .int .i64 0, .int .i64 0, .string ⟨#[]⟩, .string ⟨#[99]⟩, .int .u8 4, .int .u8 0, .int .i64 0, .int .i64 0, .string ⟨#[]⟩] 49)).cell? ⟨w.heap.size, 0, none⟩ = some (.string ⟨#[116]⟩) := by go_simp
  have q1 : ((w.alloc (.cells #[.string ⟨#[116]⟩, .slice (some ⟨w.heap.size + 1, 0, none⟩) 3 3, .string ⟨#[114, 111, 111, 116]⟩] 32)).alloc (.cells #[.string ⟨#[97]⟩, .int .u8 1, .int .u8 0, .int .i64 0, .int .i64 0, .string ⟨#[]⟩, .string ⟨#[98]⟩, .int .u8 3, .int .u8 0, .int .i64 0, .int .i64 0, .string ⟨#[]⟩, .string ⟨#[99]⟩, .int .u8 4, .int .u8 0, .int .i64 0, .int .i64 0, .string ⟨#[]⟩] 49)).cell? ⟨w.heap.size, 1, none⟩ = some (.slice (some ⟨w.heap.size + 1, 0, none⟩) 3 3) := by go_simp
  have q2 : ((w.alloc (.cells #[.string ⟨#[116]⟩, .slice (some ⟨w.heap.size + 1, 0, none⟩) 3 3, .string ⟨#[114, 111, 111, 116]⟩] 32)).alloc (.cells #[.string ⟨#[97]⟩, .int .u8 1, .int .u8 0, .int .i64 0, .int .i64 0, .string ⟨#[]⟩, .string ⟨#[98]⟩, .int .u8 3, .int .u8 0, .int .i64 0, .int .i64 0, .string ⟨#[]⟩, .string ⟨#[99]⟩, .int .u8 4, .int .u8 0, .int .i64 0, .int .i64 0, .string ⟨#[]⟩] 49)).cell? ⟨w.heap.size, 2, none⟩ = some (.string ⟨#[114, 111, 111, 116]⟩) := by go_simp
  have hl : LstC ((w.alloc (.cells #[.string ⟨#[116]⟩, .slice (some ⟨w.heap.size + 1, 0, none⟩) 3 3, .string ⟨#[114, 111, 111, 116]⟩] 32)).alloc (.cells #[.string ⟨#[97]⟩, .int .u8 1, .int .u8 0, .int .i64 0, .int .i64 0, .string ⟨#[]⟩, .string ⟨#[98]⟩, .int .u8 3, .int .u8 0, .int .i64 0, .int .i64 0, .string ⟨#[]⟩, .string ⟨#[99]⟩, .int .u8 4, .int .u8 0, .int .i64 0, .int .i64 0, .string ⟨#[]⟩] 49)) (w.heap.size + 1) 0 tc := by
    intro i x hx
    have hi : i < 3 := (List.getElem?_eq_some_iff.1 hx).1
    match i, hi with
    | 0, _ => simp [tc] at hx; subst hx; refine ⟨?_, ?_, ?_, ?_, ?_, ?_, by simp⟩ <;> (go_simp; try rfl)
    | 1, _ => simp [tc] at hx; subst hx; refine ⟨?_, ?_, ?_, ?_, ?_, ?_, by simp⟩ <;> (go_simp; try rfl)
    | 2, _ => simp [tc] at hx; subst hx; refine ⟨?_, ?_, ?_, ?_, ?_, ?_, by simp⟩ <;> (go_simp; try rfl)
  generalize ((w.alloc (.cells #[.string ⟨#[116]⟩, .slice (some ⟨w.heap.size + 1, 0, none⟩) 3 3, .string ⟨#[114, 111, 111, 116]⟩] 32)).alloc (.cells #[.string ⟨#[97]⟩, .int .u8 1, .int .u8 0, .int .i64 0, .int .i64 0, .string ⟨#[]⟩, .string ⟨#[98]⟩, .int .u8 3, .int .u8 0, .int .i64 0, .int .i64 0, .string ⟨#[]⟩, .string ⟨#[99]⟩, .int .u8 4, .int .u8 0, .int .i64 0, .int .i64 0, .string ⟨#[]⟩] 49)) = W at hb q0 q1 q2 hl ⊢
  exact bodyPost_ret (w := W) (v := .agg #[.string (t1 (w.heap.size + 1)).nm, .slice (t1 (w.heap.size + 1)).a (t1 (w.heap.size + 1)).n (t1 (w.heap.size + 1)).cap, .string (t1 (w.heap.size + 1)).ow]) (by simp [results, Try.results24, go_sem, q0, q1, q2, t1]) rfl ⟨⟨_, rfl, hl⟩, hb⟩

/-- awake's own blocks. -/
theorem boxA8 (w : World) (g b : Nat) (hb : w.heap.size = b) : ∃ W, (((((((((((w.alloc (.cells #[.string (t1 g).nm, .slice (t1 g).a (t1 g).n (t1 g).cap, .string (t1 g).ow] 32)).alloc (.cells #[.string (t1 g).nm, .slice none 0 0, .string (t1 g).ow] 32)).alloc (.cells #[.int .i64 0, .int .i64 1] 3)).alloc (.cells #[.int .u8 1, .string ⟨#[110]⟩, .string ⟨#[116]⟩, .slice (some ⟨b + 1 + 1, 0, none⟩) 2 2, .int .u8 0, .int .u8 0, .int .i64 0, .int .i64 0, .string ⟨#[]⟩, .int .i64 0, .slice none 0 0, .string ⟨#[]⟩, .int .u8 0, .int .u8 0, .bool false, .bool false] 29)).alloc (.cells #[.int .u8 2, .string ⟨#[107]⟩, .string ⟨#[116]⟩, .slice none 0 0, .int .u8 2, .int .u8 0, .int .i64 0, .int .i64 0, .string ⟨#[]⟩, .int .i64 0, .slice none 0 0, .string ⟨#[]⟩, .int .u8 0, .int .u8 0, .bool false, .bool false] 29)).alloc (.cells #[.int .i64 0, .int .i64 1] 3)).alloc (.cells #[.int .u8 3, .string ⟨#[117]⟩, .string ⟨#[116]⟩, .slice (some ⟨b + 1 + 1 + 1 + 1 + 1, 0, none⟩) 2 2, .int .u8 0, .int .u8 0, .int .i64 0, .int .i64 0, .string ⟨#[]⟩, .int .i64 0, .slice none 0 0, .string ⟨#[]⟩, .int .u8 0, .int .u8 0, .bool false, .bool true] 29)).alloc (.cells #[.int .i64 0] 3)).alloc (.cells #[.int .u8 4, .string ⟨#[102]⟩, .string ⟨#[116]⟩, .slice (some ⟨b + 1 + 1 + 1 + 1 + 1 + 1 + 1, 0, none⟩) 1 1, .int .u8 0, .int .u8 0, .int .i64 0, .int .i64 0, .string ⟨#[]⟩, .int .i64 0, .slice none 0 0, .string ⟨#[117]⟩, .int .u8 0, .int .u8 0, .bool false, .bool false] 29)).alloc (.cells #[.int .i64 1, .int .i64 2] 3)).alloc (.cells #[.int .u8 5, .string ⟨#[112]⟩, .string ⟨#[116]⟩, .slice (some ⟨b + 1 + 1 + 1 + 1 + 1 + 1 + 1 + 1 + 1, 0, none⟩) 2 2, .int .u8 0, .int .u8 0, .int .i64 0, .int .i64 0, .string ⟨#[]⟩, .int .i64 0, .slice none 0 0, .string ⟨#[]⟩, .int .u8 0, .int .u8 0, .bool false, .bool true] 29)) = W ∧ Blk W (b) (tbc (t1 g)) ∧ Blk W (b + 1) (tbc t0) ∧ SlI W (some ⟨b + 1 + 1, 0, none⟩) 2 [0, 1] ∧ Blk W (b + 1 + 1 + 1) (ruc (rnull (b + 1 + 1))) ∧ Blk W (b + 1 + 1 + 1 + 1) (ruc (rchk)) ∧ SlI W (some ⟨b + 1 + 1 + 1 + 1 + 1, 0, none⟩) 2 [0, 1] ∧ Blk W (b + 1 + 1 + 1 + 1 + 1 + 1) (ruc (runi (b + 1 + 1 + 1 + 1 + 1))) ∧ SlI W (some ⟨b + 1 + 1 + 1 + 1 + 1 + 1 + 1, 0, none⟩) 1 [0] ∧ Blk W (b + 1 + 1 + 1 + 1 + 1 + 1 + 1 + 1) (ruc (rfor (b + 1 + 1 + 1 + 1 + 1 + 1 + 1))) ∧ SlI W (some ⟨b + 1 + 1 + 1 + 1 + 1 + 1 + 1 + 1 + 1, 0, none⟩) 2 [1, 2] ∧ Blk W (b + 1 + 1 + 1 + 1 + 1 + 1 + 1 + 1 + 1 + 1) (ruc (rapt (b + 1 + 1 + 1 + 1 + 1 + 1 + 1 + 1 + 1))) ∧ Below w.heap.size w W := by
  obtain ⟨W1, hW1⟩ : ∃ W1, w.alloc (.cells #[.string (t1 g).nm, .slice (t1 g).a (t1 g).n (t1 g).cap, .string (t1 g).ow] 32) = W1 := ⟨_, rfl⟩
  obtain ⟨W2, hW2⟩ : ∃ W2, W1.alloc (.cells #[.string (t1 g).nm, .slice none 0 0, .string (t1 g).ow] 32) = W2 := ⟨_, rfl⟩
  obtain ⟨W3, hW3⟩ : ∃ W3, W2.alloc (.cells #[.int .i64 0, .int .i64 1] 3) = W3 := ⟨_, rfl⟩
  obtain ⟨W4, hW4⟩ : ∃ W4, W3.alloc (.cells #[.int .u8 1, .string ⟨#[110]⟩, .string ⟨#[116]⟩, .slice (some ⟨b + 1 + 1, 0, none⟩) 2 2, .int .u8 0, .int .u8 0, .int .i64 0, .int .i64 0, .string ⟨#[]⟩, .int .i64 0, .slice none 0 0, .string ⟨#[]⟩, .int .u8 0, .int .u8 0, .bool false, .bool false] 29) = W4 := ⟨_, rfl⟩
  obtain ⟨W5, hW5⟩ : ∃ W5, W4.alloc (.cells #[.int .u8 2, .string ⟨#[107]⟩, .string ⟨#[116]⟩, .slice none 0 0, .int .u8 2, .int .u8 0, .int .i64 0, .int .i64 0, .string ⟨#[]⟩, .int .i64 0, .slice none 0 0, .string ⟨#[]⟩, .int .u8 0, .int .u8 0, .bool false, .bool false] 29) = W5 := ⟨_, rfl⟩
  obtain ⟨W6, hW6⟩ : ∃ W6, W5.alloc (.cells #[.int .i64 0, .int .i64 1] 3) = W6 := ⟨_, rfl⟩
  obtain ⟨W7, hW7⟩ : ∃ W7, W6.alloc (.cells #[.int .u8 3, .string ⟨#[117]⟩, .string ⟨#[116]⟩, .slice (some ⟨b + 1 + 1 + 1 + 1 + 1, 0, none⟩) 2 2, .int .u8 0, .int .u8 0, .int .i64 0, .int .i64 0, .string ⟨#[]⟩, .int .i64 0, .slice none 0 0, .string ⟨#[]⟩, .int .u8 0, .int .u8 0, .bool false, .bool true] 29) = W7 := ⟨_, rfl⟩
  obtain ⟨W8, hW8⟩ : ∃ W8, W7.alloc (.cells #[.int .i64 0] 3) = W8 := ⟨_, rfl⟩
  obtain ⟨W9, hW9⟩ : ∃ W9, W8.alloc (.cells #[.int .u8 4, .string ⟨#[102]⟩, .string ⟨#[116]⟩, .slice (some ⟨b + 1 + 1 + 1 + 1 + 1 + 1 + 1, 0, none⟩) 1 1, .int .u8 0, .int .u8 0, .int .i64 0, .int .i64 0, .string ⟨#[]⟩, .int .i64 0, .slice none 0 0, .string ⟨#[117]⟩, .int .u8 0, .int .u8 0, .bool false, .bool false] 29) = W9 := ⟨_, rfl⟩
  obtain ⟨W10, hW10⟩ : ∃ W10, W9.alloc (.cells #[.int .i64 1, .int .i64 2] 3) = W10 := ⟨_, rfl⟩
  obtain ⟨W11, hW11⟩ : ∃ W11, W10.alloc (.cells #[.int .u8 5, .string ⟨#[112]⟩, .string ⟨#[116]⟩, .slice (some ⟨b + 1 + 1 + 1 + 1 + 1 + 1 + 1 + 1 + 1, 0, none⟩) 2 2, .int .u8 0, .int .u8 0, .int .i64 0, .int .i64 0, .string ⟨#[]⟩, .int .i64 0, .slice none 0 0, .string ⟨#[]⟩, .int .u8 0, .int .u8 0, .bool false, .bool true] 29) = W11 := ⟨_, rfl⟩
  have s1 : W1.heap.size = b + 1 := by rw [← hW1]; simp [hb]
  have b1 : Below w.heap.size w W1 := by rw [← hW1]; exact Below.allocs _ _
  have s2 : W2.heap.size = b + 1 + 1 := by rw [← hW2]; simp [s1]
  have b2 : Below W1.heap.size W1 W2 := by rw [← hW2]; exact Below.allocs _ _
  have s3 : W3.heap.size = b + 1 + 1 + 1 := by rw [← hW3]; simp [s2]
  have b3 : Below W2.heap.size W2 W3 := by rw [← hW3]; exact Below.allocs _ _
  have s4 : W4.heap.size = b + 1 + 1 + 1 + 1 := by rw [← hW4]; simp [s3]
  have b4 : Below W3.heap.size W3 W4 := by rw [← hW4]; exact Below.allocs _ _
  have s5 : W5.heap.size = b + 1 + 1 + 1 + 1 + 1 := by rw [← hW5]; simp [s4]
  have b5 : Below W4.heap.size W4 W5 := by rw [← hW5]; exact Below.allocs _ _
  have s6 : W6.heap.size = b + 1 + 1 + 1 + 1 + 1 + 1 := by rw [← hW6]; simp [s5]
  have b6 : Below W5.heap.size W5 W6 := by rw [← hW6]; exact Below.allocs _ _
  have s7 : W7.heap.size = b + 1 + 1 + 1 + 1 + 1 + 1 + 1 := by rw [← hW7]; simp [s6]
  have b7 : Below W6.heap.size W6 W7 := by rw [← hW7]; exact Below.allocs _ _
  have s8 : W8.heap.size = b + 1 + 1 + 1 + 1 + 1 + 1 + 1 + 1 := by rw [← hW8]; simp [s7]
  have b8 : Below W7.heap.size W7 W8 := by rw [← hW8]; exact Below.allocs _ _
  have s9 : W9.heap.size = b + 1 + 1 + 1 + 1 + 1 + 1 + 1 + 1 + 1 := by rw [← hW9]; simp [s8]
  have b9 : Below W8.heap.size W8 W9 := by rw [← hW9]; exact Below.allocs _ _
  have s10 : W10.heap.size = b + 1 + 1 + 1 + 1 + 1 + 1 + 1 + 1 + 1 + 1 := by rw [← hW10]; simp [s9]
  have b10 : Below W9.heap.size W9 W10 := by rw [← hW10]; exact Below.allocs _ _
  have s11 : W11.heap.size = b + 1 + 1 + 1 + 1 + 1 + 1 + 1 + 1 + 1 + 1 + 1 := by rw [← hW11]; simp [s10]
  have b11 : Below W10.heap.size W10 W11 := by rw [← hW11]; exact Below.allocs _ _
  have F0 : Blk W1 (b) (tbc (t1 g)) := by rw [← hW1, ← hb]; exact Blk.new _ _ _
  have F1 : Blk W2 (b + 1) (tbc t0) := by rw [← hW2, ← s1]; exact Blk.new _ _ _
  have F2 : SlI W3 (some ⟨b + 1 + 1, 0, none⟩) 2 [0, 1] := by rw [← hW3]; exact newIs _ _ s2 [0, 1] (alli64 (by decide)) (by decide)
  have F3 : Blk W4 (b + 1 + 1 + 1) (ruc (rnull (b + 1 + 1))) := by rw [← hW4, show b + 1 + 1 + 1 = W3.heap.size from s3.symm]; exact Blk.new _ _ _
  have F4 : Blk W5 (b + 1 + 1 + 1 + 1) (ruc (rchk)) := by rw [← hW5, ← s4]; exact Blk.new _ _ _
  have F5 : SlI W6 (some ⟨b + 1 + 1 + 1 + 1 + 1, 0, none⟩) 2 [0, 1] := by rw [← hW6]; exact newIs _ _ s5 [0, 1] (alli64 (by decide)) (by decide)
  have F6 : Blk W7 (b + 1 + 1 + 1 + 1 + 1 + 1) (ruc (runi (b + 1 + 1 + 1 + 1 + 1))) := by rw [← hW7, ← s6]; exact Blk.new _ _ _
  have F7 : SlI W8 (some ⟨b + 1 + 1 + 1 + 1 + 1 + 1 + 1, 0, none⟩) 1 [0] := by rw [← hW8]; exact newIs _ _ s7 [0] (alli64 (by decide)) (by decide)
  have F8 : Blk W9 (b + 1 + 1 + 1 + 1 + 1 + 1 + 1 + 1) (ruc (rfor (b + 1 + 1 + 1 + 1 + 1 + 1 + 1))) := by rw [← hW9, ← s8]; exact Blk.new _ _ _
  have F9 : SlI W10 (some ⟨b + 1 + 1 + 1 + 1 + 1 + 1 + 1 + 1 + 1, 0, none⟩) 2 [1, 2] := by rw [← hW10]; exact newIs _ _ s9 [1, 2] (alli64 (by decide)) (by decide)
  have F10 : Blk W11 (b + 1 + 1 + 1 + 1 + 1 + 1 + 1 + 1 + 1 + 1) (ruc (rapt (b + 1 + 1 + 1 + 1 + 1 + 1 + 1 + 1 + 1))) := by rw [← hW11, ← s10]; exact Blk.new _ _ _
  refine ⟨W11, ?_, ((((((((((F0.below b2).below b3).below b4).below b5).below b6).below b7).below b8).below b9).below b10).below b11), (((((((((F1.below b3).below b4).below b5).below b6).below b7).below b8).below b9).below b10).below b11), ((((((((F2.below b4).below b5).below b6).below b7).below b8).below b9).below b10).below b11), (((((((F3.below b5).below b6).below b7).below b8).below b9).below b10).below b11), ((((((F4.below b6).below b7).below b8).below b9).below b10).below b11), (((((F5.below b7).below b8).below b9).below b10).below b11), ((((F6.below b8).below b9).below b10).below b11), (((F7.below b9).below b10).below b11), ((F8.below b10).below b11), (F9.below b11), F10, (below_tr (below_tr (below_tr (below_tr (below_tr (below_tr (below_tr (below_tr (below_tr (below_tr b1 b2) b3) b4) b5) b6) b7) b8) b9) b10) b11)⟩
  rw [hW1, hW2, hW3, hW4, hW5, hW6, hW7, hW8, hW9, hW10, hW11]

set_option maxRecDepth 100000 in
set_option maxHeartbeats 16000000 in
theorem awake_is (w : World) : Calls Try.prog 10 #[] w fun e w' => e = .returned (.bool true) ∧ Below w.heap.size w w' := by
  go_enter Try.func10, Try.ntmps10
  go_wp2_with fail
  refine (table_is w).mono ?_
  rintro e w1 ⟨⟨g, rfl, hl⟩, hb1⟩
  obtain ⟨b, hb⟩ : ∃ b, w1.heap.size = b := ⟨_, rfl⟩
  obtain ⟨W, hW, fT, fN, fc2, fRN, fRC, fc5, fRU, fc7, fRF, fc9, fRA, hbW⟩ := boxA8 w1 g b hb
  have HT := Lib.hid fT
  have HN := Lib.hid fN
  have Hc2 := Lib.hid fc2
  have HRN := Lib.hid fRN
  have HRC := Lib.hid fRC
  have Hc5 := Lib.hid fc5
  have HRU := Lib.hid fRU
  have Hc7 := Lib.hid fc7
  have HRF := Lib.hid fRF
  have Hc9 := Lib.hid fc9
  have HRA := Lib.hid fRA
  have HL := Lib.hid (t1_in (show LstC w1 g 0 tc from hl) |>.below hbW)
  have HB := Lib.hid (below_tr hb1 hbW)
  have B0 := Lib.hid (Below.refl W.heap.size W)
  clear hb1 hl hbW fT fN fc2 fRN fRC fc5 fRU fc7 fRF fc9 fRA
  have hcon := maytable_is (t1 g) true (by kernel_rfl) W (HL.out.below B0.out)
  go_wp2_with (first | (refine at_dst none rfl ?_; refine store_fresh (by rfl) (by rfl) (by rfl) (by rfl) (by first | exact hb | (simp only [World.heap_alloc, Array.size_push, hb]; done) | (simp [hb]; done)) (by kernel_rfl) (by rfl) (by kernel_rfl) ?_; try rw [hW]) | (refine at_dst (some 21) rfl ?_; refine load_step 21 32 1 _ _ _ _ rfl (b) 0 rfl [.string (t1 g).nm, .slice (t1 g).a (t1 g).n (t1 g).cap, .string (t1 g).ow] _ ((HT.out.below B0.out).at0) Try.underlying32 rfl (by kernel_rfl) ?_))
  refine (show Calls Try.prog _ _ _ _ from hcon).mono ?_
  rintro e v1 ⟨rfl, hb1⟩
  have B1 := Lib.hid (below_tr B0.out hb1)
  clear hcon hb1 hW
  have hcon := maytable_is t0 false (by kernel_rfl) v1 (t0_in _)
  go_wp2_with (first | (refine at_dst (some 24) rfl ?_; refine load_step 24 32 2 _ _ _ _ rfl (b + 1) 0 rfl [.string t0.nm, .slice t0.a t0.n t0.cap, .string t0.ow] _ ((HN.out.below B1.out).at0) Try.underlying32 rfl (by kernel_rfl) ?_))
  refine (show Calls Try.prog _ _ _ _ from hcon).mono ?_
  rintro e v2 ⟨rfl, hb2⟩
  have B2 := Lib.hid (below_tr B1.out hb2)
  clear hcon hb2 
  have hcon := rfits_is (rnull (b + 1 + 1)) (t1 g) zr zt v2 (mk_in (r := rnull (b + 1 + 1)) (Hc2.out.below B2.out) rfl (exnil_in _) (by kernel_rfl)) (HL.out.below B2.out) (zr_in _) (zt_in _) (show 2 ≤ 1000000 by decide) (by decide) 4 (by kernel_rfl)
  go_wp2_with (first | (refine at_dst (some 29) rfl ?_; refine load_step 29 29 3 _ _ _ _ rfl (b + 1 + 1 + 1) 0 rfl [.int .u8 (rnull (b + 1 + 1)).kind, .string (rnull (b + 1 + 1)).nm, .string (rnull (b + 1 + 1)).tb, .slice (rnull (b + 1 + 1)).a (rnull (b + 1 + 1)).n (rnull (b + 1 + 1)).cap, .int .u8 (rnull (b + 1 + 1)).is.op, .int .u8 (rnull (b + 1 + 1)).is.v.k, .int .i64 (rnull (b + 1 + 1)).is.v.n, .int .i64 (rnull (b + 1 + 1)).is.v.u, .string (rnull (b + 1 + 1)).is.v.t, .int .i64 (rnull (b + 1 + 1)).is.m, .slice (rnull (b + 1 + 1)).is.a (rnull (b + 1 + 1)).is.len (rnull (b + 1 + 1)).is.cap, .string (rnull (b + 1 + 1)).to, .int .u8 (rnull (b + 1 + 1)).od, .int .u8 (rnull (b + 1 + 1)).ou, .bool (rnull (b + 1 + 1)).late, .bool (rnull (b + 1 + 1)).valid] _ ((HRN.out.below B2.out).at0) Try.underlying29 rfl (by kernel_rfl) ?_) | (refine at_dst (some 30) rfl ?_; refine load_step 30 32 1 _ _ _ _ rfl (b) 0 rfl [.string (t1 g).nm, .slice (t1 g).a (t1 g).n (t1 g).cap, .string (t1 g).ow] _ ((HT.out.below B2.out).at0) Try.underlying32 rfl (by kernel_rfl) ?_))
  refine (show Calls Try.prog _ _ _ _ from hcon).mono ?_
  rintro e v3 ⟨rfl, hb3⟩
  have B3 := Lib.hid (below_tr B2.out hb3)
  clear hcon hb3 
  have hcon := rfits_is rchk (t1 g) zr zt v3 (rchk_in _) (HL.out.below B3.out) (zr_in _) (zt_in _) (by decide) (by decide) 60 (by kernel_rfl)
  go_wp2_with (first | (refine at_dst (some 37) rfl ?_; refine load_step 37 29 4 _ _ _ _ rfl (b + 1 + 1 + 1 + 1) 0 rfl [.int .u8 (rchk).kind, .string (rchk).nm, .string (rchk).tb, .slice (rchk).a (rchk).n (rchk).cap, .int .u8 (rchk).is.op, .int .u8 (rchk).is.v.k, .int .i64 (rchk).is.v.n, .int .i64 (rchk).is.v.u, .string (rchk).is.v.t, .int .i64 (rchk).is.m, .slice (rchk).is.a (rchk).is.len (rchk).is.cap, .string (rchk).to, .int .u8 (rchk).od, .int .u8 (rchk).ou, .bool (rchk).late, .bool (rchk).valid] _ ((HRC.out.below B3.out).at0) Try.underlying29 rfl (by kernel_rfl) ?_) | (refine at_dst (some 38) rfl ?_; refine load_step 38 32 1 _ _ _ _ rfl (b) 0 rfl [.string (t1 g).nm, .slice (t1 g).a (t1 g).n (t1 g).cap, .string (t1 g).ow] _ ((HT.out.below B3.out).at0) Try.underlying32 rfl (by kernel_rfl) ?_))
  refine (show Calls Try.prog _ _ _ _ from hcon).mono ?_
  rintro e v4 ⟨rfl, hb4⟩
  have B4 := Lib.hid (below_tr B3.out hb4)
  clear hcon hb4 
  have hcon := rfits_is (rfor (b + 1 + 1 + 1 + 1 + 1 + 1 + 1)) (t1 g) (runi (b + 1 + 1 + 1 + 1 + 1)) (t1 g) v4 (mk_in (r := rfor (b + 1 + 1 + 1 + 1 + 1 + 1 + 1)) (Hc7.out.below B4.out) rfl (exnil_in _) (by kernel_rfl)) (HL.out.below B4.out) (mk_in (r := runi (b + 1 + 1 + 1 + 1 + 1)) (Hc5.out.below B4.out) rfl (exnil_in _) (by kernel_rfl)) (HL.out.below B4.out) (show 1 ≤ 1000000 by decide) (show 2 ≤ 1000000 by decide) 4 (by kernel_rfl)
  go_wp2_with (first | (refine at_dst (some 45) rfl ?_; refine load_step 45 29 6 _ _ _ _ rfl (b + 1 + 1 + 1 + 1 + 1 + 1 + 1 + 1) 0 rfl [.int .u8 (rfor (b + 1 + 1 + 1 + 1 + 1 + 1 + 1)).kind, .string (rfor (b + 1 + 1 + 1 + 1 + 1 + 1 + 1)).nm, .string (rfor (b + 1 + 1 + 1 + 1 + 1 + 1 + 1)).tb, .slice (rfor (b + 1 + 1 + 1 + 1 + 1 + 1 + 1)).a (rfor (b + 1 + 1 + 1 + 1 + 1 + 1 + 1)).n (rfor (b + 1 + 1 + 1 + 1 + 1 + 1 + 1)).cap, .int .u8 (rfor (b + 1 + 1 + 1 + 1 + 1 + 1 + 1)).is.op, .int .u8 (rfor (b + 1 + 1 + 1 + 1 + 1 + 1 + 1)).is.v.k, .int .i64 (rfor (b + 1 + 1 + 1 + 1 + 1 + 1 + 1)).is.v.n, .int .i64 (rfor (b + 1 + 1 + 1 + 1 + 1 + 1 + 1)).is.v.u, .string (rfor (b + 1 + 1 + 1 + 1 + 1 + 1 + 1)).is.v.t, .int .i64 (rfor (b + 1 + 1 + 1 + 1 + 1 + 1 + 1)).is.m, .slice (rfor (b + 1 + 1 + 1 + 1 + 1 + 1 + 1)).is.a (rfor (b + 1 + 1 + 1 + 1 + 1 + 1 + 1)).is.len (rfor (b + 1 + 1 + 1 + 1 + 1 + 1 + 1)).is.cap, .string (rfor (b + 1 + 1 + 1 + 1 + 1 + 1 + 1)).to, .int .u8 (rfor (b + 1 + 1 + 1 + 1 + 1 + 1 + 1)).od, .int .u8 (rfor (b + 1 + 1 + 1 + 1 + 1 + 1 + 1)).ou, .bool (rfor (b + 1 + 1 + 1 + 1 + 1 + 1 + 1)).late, .bool (rfor (b + 1 + 1 + 1 + 1 + 1 + 1 + 1)).valid] _ ((HRF.out.below B4.out).at0) Try.underlying29 rfl (by kernel_rfl) ?_) | (refine at_dst (some 46) rfl ?_; refine load_step 46 32 1 _ _ _ _ rfl (b) 0 rfl [.string (t1 g).nm, .slice (t1 g).a (t1 g).n (t1 g).cap, .string (t1 g).ow] _ ((HT.out.below B4.out).at0) Try.underlying32 rfl (by kernel_rfl) ?_) | (refine at_dst (some 47) rfl ?_; refine load_step 47 29 5 _ _ _ _ rfl (b + 1 + 1 + 1 + 1 + 1 + 1) 0 rfl [.int .u8 (runi (b + 1 + 1 + 1 + 1 + 1)).kind, .string (runi (b + 1 + 1 + 1 + 1 + 1)).nm, .string (runi (b + 1 + 1 + 1 + 1 + 1)).tb, .slice (runi (b + 1 + 1 + 1 + 1 + 1)).a (runi (b + 1 + 1 + 1 + 1 + 1)).n (runi (b + 1 + 1 + 1 + 1 + 1)).cap, .int .u8 (runi (b + 1 + 1 + 1 + 1 + 1)).is.op, .int .u8 (runi (b + 1 + 1 + 1 + 1 + 1)).is.v.k, .int .i64 (runi (b + 1 + 1 + 1 + 1 + 1)).is.v.n, .int .i64 (runi (b + 1 + 1 + 1 + 1 + 1)).is.v.u, .string (runi (b + 1 + 1 + 1 + 1 + 1)).is.v.t, .int .i64 (runi (b + 1 + 1 + 1 + 1 + 1)).is.m, .slice (runi (b + 1 + 1 + 1 + 1 + 1)).is.a (runi (b + 1 + 1 + 1 + 1 + 1)).is.len (runi (b + 1 + 1 + 1 + 1 + 1)).is.cap, .string (runi (b + 1 + 1 + 1 + 1 + 1)).to, .int .u8 (runi (b + 1 + 1 + 1 + 1 + 1)).od, .int .u8 (runi (b + 1 + 1 + 1 + 1 + 1)).ou, .bool (runi (b + 1 + 1 + 1 + 1 + 1)).late, .bool (runi (b + 1 + 1 + 1 + 1 + 1)).valid] _ ((HRU.out.below B4.out).at0) Try.underlying29 rfl (by kernel_rfl) ?_) | (refine at_dst (some 48) rfl ?_; refine load_step 48 32 1 _ _ _ _ rfl (b) 0 rfl [.string (t1 g).nm, .slice (t1 g).a (t1 g).n (t1 g).cap, .string (t1 g).ow] _ ((HT.out.below B4.out).at0) Try.underlying32 rfl (by kernel_rfl) ?_))
  refine (show Calls Try.prog _ _ _ _ from hcon).mono ?_
  rintro e v5 ⟨rfl, hb5⟩
  have B5 := Lib.hid (below_tr B4.out hb5)
  clear hcon hb5 
  have hcon := rfits_is (rapt (b + 1 + 1 + 1 + 1 + 1 + 1 + 1 + 1 + 1)) (t1 g) zr zt v5 (mk_in (r := rapt (b + 1 + 1 + 1 + 1 + 1 + 1 + 1 + 1 + 1)) (Hc9.out.below B5.out) rfl (exnil_in _) (by kernel_rfl)) (HL.out.below B5.out) (zr_in _) (zt_in _) (show 2 ≤ 1000000 by decide) (by decide) 0 (by kernel_rfl)
  go_wp2_with (first | (refine at_dst (some 53) rfl ?_; refine load_step 53 29 7 _ _ _ _ rfl (b + 1 + 1 + 1 + 1 + 1 + 1 + 1 + 1 + 1 + 1) 0 rfl [.int .u8 (rapt (b + 1 + 1 + 1 + 1 + 1 + 1 + 1 + 1 + 1)).kind, .string (rapt (b + 1 + 1 + 1 + 1 + 1 + 1 + 1 + 1 + 1)).nm, .string (rapt (b + 1 + 1 + 1 + 1 + 1 + 1 + 1 + 1 + 1)).tb, .slice (rapt (b + 1 + 1 + 1 + 1 + 1 + 1 + 1 + 1 + 1)).a (rapt (b + 1 + 1 + 1 + 1 + 1 + 1 + 1 + 1 + 1)).n (rapt (b + 1 + 1 + 1 + 1 + 1 + 1 + 1 + 1 + 1)).cap, .int .u8 (rapt (b + 1 + 1 + 1 + 1 + 1 + 1 + 1 + 1 + 1)).is.op, .int .u8 (rapt (b + 1 + 1 + 1 + 1 + 1 + 1 + 1 + 1 + 1)).is.v.k, .int .i64 (rapt (b + 1 + 1 + 1 + 1 + 1 + 1 + 1 + 1 + 1)).is.v.n, .int .i64 (rapt (b + 1 + 1 + 1 + 1 + 1 + 1 + 1 + 1 + 1)).is.v.u, .string (rapt (b + 1 + 1 + 1 + 1 + 1 + 1 + 1 + 1 + 1)).is.v.t, .int .i64 (rapt (b + 1 + 1 + 1 + 1 + 1 + 1 + 1 + 1 + 1)).is.m, .slice (rapt (b + 1 + 1 + 1 + 1 + 1 + 1 + 1 + 1 + 1)).is.a (rapt (b + 1 + 1 + 1 + 1 + 1 + 1 + 1 + 1 + 1)).is.len (rapt (b + 1 + 1 + 1 + 1 + 1 + 1 + 1 + 1 + 1)).is.cap, .string (rapt (b + 1 + 1 + 1 + 1 + 1 + 1 + 1 + 1 + 1)).to, .int .u8 (rapt (b + 1 + 1 + 1 + 1 + 1 + 1 + 1 + 1 + 1)).od, .int .u8 (rapt (b + 1 + 1 + 1 + 1 + 1 + 1 + 1 + 1 + 1)).ou, .bool (rapt (b + 1 + 1 + 1 + 1 + 1 + 1 + 1 + 1 + 1)).late, .bool (rapt (b + 1 + 1 + 1 + 1 + 1 + 1 + 1 + 1 + 1)).valid] _ ((HRA.out.below B5.out).at0) Try.underlying29 rfl (by kernel_rfl) ?_) | (refine at_dst (some 54) rfl ?_; refine load_step 54 32 1 _ _ _ _ rfl (b) 0 rfl [.string (t1 g).nm, .slice (t1 g).a (t1 g).n (t1 g).cap, .string (t1 g).ow] _ ((HT.out.below B5.out).at0) Try.underlying32 rfl (by kernel_rfl) ?_))
  refine (show Calls Try.prog _ _ _ _ from hcon).mono ?_
  rintro e v6 ⟨rfl, hb6⟩
  have B6 := Lib.hid (below_tr B5.out hb6)
  clear hcon hb6 
  go_wp2_with fail
  refine (name_is _ true (by kernel_rfl) _).mono ?_
  rintro e w1 ⟨rfl, rfl⟩
  go_wp2_with fail
  refine (name_is _ false (by kernel_rfl) _).mono ?_
  rintro e w1 ⟨rfl, rfl⟩
  go_wp2_with fail
  go_ret
  exact ⟨rfl, below_tr HB.out B6.out⟩
end Go.Proofs.Ytkipnkbmpgjcoaa
