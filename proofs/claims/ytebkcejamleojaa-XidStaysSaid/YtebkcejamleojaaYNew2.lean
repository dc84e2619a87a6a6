/-
  A region that draws its order, reads, makes two new blocks and fills each: whatever order is drawn, the blocks are two, and are filled (stage 9).
-/
import Derived.Test.YtebkcejamleojaaYPush
namespace Go.Proofs.Ytebkcejamleojaa.RX
open Go.RowKit
section
variable {P : Program} {md : Region.Mode} {ops : Array Oper} {Q : Exit → Act → World → Prop} {S : World → Prop}

theorem op_val {i : Nat} {o : Oper} {K : Act → World → Prop} {a : Act} {w w' : World} {v : Value} (ho : ops[i]? = some o) (hg : o.guard = none) (hrun : (execOp a.eval o).run P w = .ok (.value v) w') (h : K (a.put o.dst v) w') : wpOp P ops Q i K a w := by
  unfold wpOp
  have hw : Region.wanted o (yielded ops a.tmps) = true := by simp [Region.wanted, hg]
  simp only [ho, hw, if_true]
  left
  unfold Oper.wp
  rw [hrun]
  exact h

theorem op_skip {i : Nat} {o : Oper} {K : Act → World → Prop} {a : Act} {w w' : World} (ho : ops[i]? = some o) (hg : o.guard = none) (hd : o.dst = none) (hrun : (execOp a.eval o).run P w = .ok .skip w') (h : K a w') : wpOp P ops Q i K a w := by
  unfold wpOp
  have hw : Region.wanted o (yielded ops a.tmps) = true := by simp [Region.wanted, hg]
  simp only [ho, hw, if_true]
  left
  unfold Oper.wp
  rw [hrun]
  have e : a.put o.dst undef = a := by rw [hd]; rfl
  show K (a.put o.dst undef) w'
  rw [e]
  exact h

theorem region_held (n : Nat) (S : World → Prop) {id : Nat} {a : Act} {w : World} (hm : P.follows .mixedOrders = true) (hn : ops.size = n)
    (h : wpAnyH P .any ops Q S n (Array.replicate n false) a w.drew) : (Code.region id ops true).wp P Q a w := by
  subst hn
  exact wp_region_held hm h

def pt (g : Nat) : Value := .pointer (some ⟨g, 0, none⟩)

/-- What a store into a new block leaves. -/
def Fills (P : Program) (o : Oper) (e : TypeId) (zs cs : List Value) (a : Act) (g : Nat) : Prop := ∀ w', Lit w' g e zs → ∃ w'', (execOp a.eval o).run P w' = .ok .skip w'' ∧ Lit w'' g e cs ∧ Touch (fun k => k = g) w' w''

theorem lit_alloc {w : World} {g : Nat} {e : TypeId} {cs : List Value} {o : Obj} (h : Lit w g e cs) : Lit (w.alloc o) g e cs := h.below (Below.allocs _ _)

theorem anyH_two {i1 i2 j1 j2 t1 t2 : Nat} {o1 o2 p1 p2 : Oper} {e : TypeId} {zs c1 c2 : List Value} {fuel : Nat} {listed : Array Bool} {a : Act} {w : World}
    (ho1 : ops[i1]? = some o1) (ho2 : ops[i2]? = some o2) (hp1 : ops[j1]? = some p1) (hp2 : ops[j2]? = some p2)
    (g1 : o1.guard = none) (g2 : o2.guard = none) (g3 : p1.guard = none) (g4 : p2.guard = none)
    (d1 : o1.dst = some t1) (d2 : o2.dst = some t2) (d3 : p1.dst = none) (d4 : p2.dst = none) (hne : t1 ≠ t2) (i12 : i1 ≠ i2)
    (r0 : Region.ready md ops listed = [i1, i2]) (rA : Region.ready md ops (listed.setIfInBounds i1 true) = [i2]) (rB : Region.ready md ops (listed.setIfInBounds i2 true) = [i1])
    (rAB : Region.ready md ops ((listed.setIfInBounds i1 true).setIfInBounds i2 true) = [j1])
    (rABa : Region.ready md ops (((listed.setIfInBounds i1 true).setIfInBounds i2 true).setIfInBounds j1 true) = [j2])
    (rE : Region.ready md ops ((((listed.setIfInBounds i1 true).setIfInBounds i2 true).setIfInBounds j1 true).setIfInBounds j2 true) = [])
    (al1 : ∀ (a' : Act) (w' : World), (execOp a'.eval o1).run P w' = .ok (.value (pt w'.heap.size)) (w'.alloc (.cells zs.toArray e)))
    (al2 : ∀ (a' : Act) (w' : World), (execOp a'.eval o2).run P w' = .ok (.value (pt w'.heap.size)) (w'.alloc (.cells zs.toArray e)))
    (st1 : ∀ g g', Fills P p1 e zs c1 ((a.put (some t1) (pt g)).put (some t2) (pt g')) g)
    (st2 : ∀ g g', Fills P p2 e zs c2 ((a.put (some t1) (pt g)).put (some t2) (pt g')) g')
    (hS : ∀ w', Below w.heap.size w w' → S w')
    (fin : ∀ b1 b2 w', b1 ≠ b2 → w.heap.size ≤ b1 → w.heap.size ≤ b2 → Lit w' b1 e c1 → Lit w' b2 e c2 → Below w.heap.size w w' → Q .normal ((a.put (some t1) (pt b1)).put (some t2) (pt b2)) w') :
    wpAnyH P md ops Q S (fuel + 4) listed a w := by
  have pc : ∀ u v, (a.put (some t2) v).put (some t1) u = (a.put (some t1) u).put (some t2) v := fun u v => (Act.put_comm a (x := some t1) (y := some t2) u v (fun d h1 h2 => by cases h1; cases h2; exact hne rfl)).symm
  have E12 : (listed.setIfInBounds i2 true).setIfInBounds i1 true = (listed.setIfInBounds i1 true).setIfInBounds i2 true := Array.setIfInBounds_comm _ _ (Ne.symm i12)
  have LAB : ∀ b1 b2 w', b1 ≠ b2 → w.heap.size ≤ b1 → w.heap.size ≤ b2 → Lit w' b1 e zs → Lit w' b2 e zs → Below w.heap.size w w' →
      wpAnyH P md ops Q S (fuel + 2) ((listed.setIfInBounds i1 true).setIfInBounds i2 true) ((a.put (some t1) (pt b1)).put (some t2) (pt b2)) w' := by
    intro b1 b2 w' hb h1 h2 l1 l2 hB
    refine wpAnyH_all rAB (by simp) fun j hj => ?_
    obtain rfl : j = j1 := by simpa using hj
    obtain ⟨w'', hr, hl, ht⟩ := st1 b1 b2 w' l1
    have hB2 := hB.trans (ht.below (fun k hk => by rw [hk]; exact h1) hB.size)
    have l2' : Lit w'' b2 e zs := l2.stay (ht.stay (G := fun k => k = b2) fun k hk hx => hb (hx.symm.trans hk)) rfl
    refine op_skip hp1 g3 d3 hr ⟨hS _ hB2, ?_⟩
    refine wpAnyH_all rABa (by simp) fun j hj => ?_
    obtain rfl : j = j2 := by simpa using hj
    obtain ⟨w3, hr3, hl3, ht3⟩ := st2 b1 b2 w'' l2'
    have hB3 := hB2.trans (ht3.below (fun k hk => by rw [hk]; exact h2) hB2.size)
    exact op_skip hp2 g4 d4 hr3 ⟨hS _ hB3, wpAnyH_done rE (fin b1 b2 w3 hb h1 h2 (hl.stay (ht3.stay (G := fun k => k = b1) fun k hk hx => hb (hk.symm.trans hx)) rfl) hl3 hB3) _⟩
  have hn : ∀ W : World, w.heap.size ≤ W.heap.size → Below w.heap.size W (W.alloc (.cells zs.toArray e)) := fun W h => (Below.allocs W _).mono h
  have hlt : ∀ (W : World) (g : Nat), g < W.heap.size → g ≠ W.heap.size := fun W g h e => by omega
  have hBA := hn w (Nat.le_refl _)
  have lA := Lit.new w e zs
  have hBB := hBA.trans (hn _ hBA.size)
  refine wpAnyH_all r0 (by simp) fun j hj => ?_
  rcases (show j = i1 ∨ j = i2 by simpa using hj) with rfl | rfl
  · refine op_val ho1 g1 (al1 a w) ⟨hS _ hBA, ?_⟩
    rw [d1]
    refine wpAnyH_all rA (by simp) fun j hj => ?_
    obtain rfl : j = i2 := by simpa using hj
    refine op_val ho2 g2 (al2 _ _) ⟨hS _ hBB, ?_⟩
    rw [d2]
    exact LAB _ _ _ (hlt _ _ lA.lt) (Nat.le_refl _) hBA.size (lit_alloc lA) (Lit.new _ e zs) hBB
  · refine op_val ho2 g2 (al2 a w) ⟨hS _ hBA, ?_⟩
    rw [d2]
    refine wpAnyH_all rB (by simp) fun j hj => ?_
    obtain rfl : j = i1 := by simpa using hj
    refine op_val ho1 g1 (al1 _ _) ⟨hS _ hBB, ?_⟩
    rw [d1, pc, E12]
    exact LAB _ _ _ (Ne.symm (hlt _ _ lA.lt)) hBA.size (Nat.le_refl _) (Lit.new _ e zs) (lit_alloc lA) hBB
end
end Go.Proofs.Ytebkcejamleojaa.RX
