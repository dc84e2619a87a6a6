/-
  The tables of a heap: one is found, or made; its next number (stage 11).
-/
import Derived.Test.YtbgnbaogclnpgaaHFind
namespace Go.Proofs.Ytbgnbaogclnpgaa
open Go.RowKit
set_option linter.unusedVariables false

/-- m[x] = v, at the operation. -/
theorem put_f {w : World} {ops : Array Oper} {rest : List Oper} {o : Oper} {a : Act} {Q : Exit → Act → World → Prop} (hg : o.guard = none) (m x v : Operand) (t : TypeId) (hop : o.op = Op.mapUpdate t m x v)
    (e : TypeId) (ht : Try.prog.underlying t = some (.map 3 e)) (b n : Nat) (f : Int → Option Value) (hm : a.eval m = .map (some b)) (h : MapF w b n f) (hn : n < maxLen) (xi : Int) (hI : I64 xi) (hx : a.eval x = .int .i64 xi) (val : Value) (hv : a.eval v = val)
    (hK : ∀ w', MapF w' b (n + 1) (updM f xi (some val)) → w.grownBy w' (some b) → wpList Try.prog ops Q rest (a.put o.dst undef) w') : wpList Try.prog ops Q (o :: rest) a w := by
  refine wpList_plain hg fun K' hK' => ?_
  obtain ⟨w', hrun, r1, r2⟩ := h.put ht hn hI val
  unfold Oper.wp
  simp [execOp, hop, hm, hx, hv, hrun, Result.andThen]
  exact hK' _ _ (hK w' r1 r2)

/-- delete(m, x), at the operation. -/
theorem del_f {w : World} {ops : Array Oper} {rest : List Oper} {o : Oper} {a : Act} {Q : Exit → Act → World → Prop} (hg : o.guard = none) (m x : Operand) (t : TypeId) (hop : o.op = Op.call { callee := Callee.builtin Builtin.delete, args := #[m, x], argTypes := #[t, 3] })
    (e : TypeId) (ht : Try.prog.underlying t = some (.map 3 e)) (b n : Nat) (f : Int → Option Value) (hm : a.eval m = .map (some b)) (h : MapF w b n f) (xi : Int) (hI : I64 xi) (hx : a.eval x = .int .i64 xi)
    (hK : ∀ w', MapF w' b n (updM f xi none) → w.grownBy w' (some b) → wpList Try.prog ops Q rest (a.put o.dst (.tuple #[])) w') : wpList Try.prog ops Q (o :: rest) a w := by
  refine wpList_plain hg fun K' hK' => ?_
  obtain ⟨w', hrun, r1, r2⟩ := h.del ht hI o.type
  unfold Oper.wp
  simp [execOp, hop, resolve, invoke, builtin, hm, hx, hrun, Result.andThen]
  exact hK' _ _ (hK w' r1 r2)

/-- A heap whose map of tables is there: block b; the table of x lies in block tp x. -/
structure HpG (W : World) (h : Nat) (M : Hp) (z : Nat) (L : Nat → Lab) (b : Nat) (tp : Int → Nat) : Prop where
  lt : ∀ k, L k ≠ .no → k < W.heap.size
  hp : L h = .hp
  nz : M.n ≤ z
  fz : M.fn ≤ z
  tm : L b = .tm
  ex : ∃ s f stp n, Lit W h 75 [s, f, .map (some b)] ∧ SlP W L s M.n M.tup stp ∧ FrP W L f M.fn M.fr ∧ n ≤ z ∧ MapF W b n (tbF M.tb tp)
  at' : ∀ x T, M.tb x = some T → I64 x ∧ TbAt W L z (tp x) x T

section
variable {W W' : World} {h z b : Nat} {M : Hp} {L L' : Nat → Lab} {tp : Int → Nat}

theorem HpG.hpm (H : HpG W h M z L b tp) : HpM W h M z L := by
  obtain ⟨s, f, stp, n, h1, h2, h3, h4, h5⟩ := H.ex
  exact ⟨H.lt, H.hp, H.nz, H.fz, s, f, _, stp, h1, h2, h3, .inr ⟨b, n, tp, rfl, H.tm, h4, h5, H.at'⟩⟩

theorem HpG.stay (H : HpG W h M z L b tp) (hs : Stay (Fof L) W W') : HpG W' h M z L b tp := by
  obtain ⟨s, f, stp, n, h1, h2, h3, h4, h5⟩ := H.ex
  exact ⟨fun k hk => Nat.lt_of_lt_of_le (H.lt k hk) hs.size, H.hp, H.nz, H.fz, H.tm, ⟨s, f, stp, n, h1.stay hs (by unfold Fof; rw [H.hp]; simp), h2.stay hs (fun k hk => slot_no hk), h3.stay hs (fun k hk => by unfold Fof; rw [hk]; simp), h4, h5.stay hs (by unfold Fof; rw [H.tm]; simp)⟩,
    fun x T hx => ⟨(H.at' x T hx).1, (H.at' x T hx).2.stay hs (fun k hk => tab_no (ofB_tab hk))⟩⟩
theorem HpG.below (H : HpG W h M z L b tp) (hb : Below W.heap.size W W') : HpG W' h M z L b tp := H.stay (Stay.of_below hb)
theorem HpG.more {z' : Nat} (H : HpG W h M z L b tp) (hz : z ≤ z') : HpG W h M z' L b tp := by
  obtain ⟨s, f, stp, n, h1, h2, h3, h4, h5⟩ := H.ex
  exact ⟨H.lt, H.hp, Nat.le_trans H.nz hz, Nat.le_trans H.fz hz, H.tm, ⟨s, f, stp, n, h1, h2, h3, Nat.le_trans h4 hz, h5⟩, fun x T hx => ⟨(H.at' x T hx).1, (H.at' x T hx).2.more hz⟩⟩

/-- M, but for the table of x. -/
def Hp.setTb (M : Hp) (x : Int) (T : Tbl) : Hp := { M with tb := fun y => if y = x then some T else M.tb y }

theorem ofB_ne {x y : Int} {l : Lab} (h : l.ofB x = true) (hxy : x ≠ y) : l.ofB y = false := by
  cases l <;> simp [Lab.ofB] at h ⊢ <;> omega

/-- The table of x is another one now; of all other blocks that are named none has changed. -/
theorem HpG.upd (H : HpG W h M z L b tp) {x : Int} {T0 T : Tbl} {N z' : Nat} (hx : M.tb x = some T0) (he : Ext N L L') (hz : z ≤ z') (hlt : ∀ k, L' k ≠ .no → k < W'.heap.size) (hs : Stay (fun k => L k ≠ .no ∧ (L k).ofB x = false) W W') (hT : TbAt W' L' z' (tp x) x T) :
    HpG W' h (M.setTb x T) z' L' b tp := by
  obtain ⟨s, f, stp, n, h1, h2, h3, h4, h5⟩ := H.ex
  refine ⟨hlt, he.keep H.hp (by simp), Nat.le_trans H.nz hz, Nat.le_trans H.fz hz, he.keep H.tm (by simp), ⟨s, f, stp, n, h1.stay hs (by rw [H.hp]; simp [Lab.ofB]), (h2.stay hs (fun k hk => ⟨slot_no hk, by cases hl : L k <;> rw [hl] at hk <;> simp [Lab.slotB, Lab.ofB] at hk ⊢⟩)).ext he, (h3.stay hs (fun k hk => by rw [hk]; simp [Lab.ofB])).ext he, Nat.le_trans h4 hz,
    (h5.stay hs (by rw [H.tm]; simp [Lab.ofB])).congr fun y hy => ?_⟩, fun y T' hy => ?_⟩
  · unfold tbF Hp.setTb
    by_cases e : y = x
    · subst e; simp only [if_pos]; rw [hx]; rfl
    · simp only [if_neg e]
  · unfold Hp.setTb at hy
    by_cases e : y = x
    · subst e
      simp only [if_pos] at hy
      rw [← Option.some.inj hy]
      exact ⟨(H.at' y T0 hx).1, hT⟩
    · simp only [if_neg e] at hy
      obtain ⟨q1, q2⟩ := H.at' y T' hy
      exact ⟨q1, ((q2.stay hs (fun k hk => ⟨tab_no (ofB_tab hk), ofB_ne hk e⟩)).ext he).more hz⟩
end

/-! ### Next number -/

end Go.Proofs.Ytbgnbaogclnpgaa
