/-
  Two children, and the entry between them, are put together.
-/
import Derived.Test.YtfikaccgpjiedaaJBSplit
import Derived.Test.YtfikaccgpjiedaaJJ10
import Derived.Deep.Cut
namespace Go.Proofs.Ytfikaccgpjiedaa.RX
section
variable {P : Program} {ops : Array Oper} {Q : Exit → Act → World → Prop} {R : World → World → Prop} {w0 : World}
theorem seqP_callOn {o : Oper} {l : List Oper} {ps : List Plan} {k : Nat} {a : Act} {ctx : List (Nat × (World → Prop))} {env : Nat → Value} {news : List Nat} (j : Nat) (f : FuncId) (args : Array Value) (V : Value → World → Value → Prop) (hj : waits o j = true ∧ j < k) (hst : ∀ w w' v, R w w' → V (env j) w v → V (env j) w' v)
    (hw : Region.wanted o (yielded ops a.tmps) = true) (hv : ∀ w, R w0 w → CtxP o ctx w → (execOp a.eval o).run P w = .ok (.enter f args) w)
    (hc : ∀ w, R w0 w → CtxP o ctx w → Calls P f args w fun e w' => ∃ v, e = .returned v ∧ R w w' ∧ V (env j) w' v)
    (hr : ∀ v, seqP P ops Q R w0 l ps (k + 1) (a.put o.dst v) ((k, fun w => V (env j) w v) :: ctx) (upd env k v) news) : seqP P ops Q R w0 (o :: l) (.on j V :: ps) k a ctx env news :=
  ⟨⟨hj, hst, fun w h1 h2 => Or.inl ⟨hw, by rw [hv w h1 h2]; exact (hc w h1 h2).mono fun e w' ⟨v, h3, h4, h5⟩ => ⟨v, h3, h4, h5, trivial⟩⟩⟩, hr⟩
end
end Go.Proofs.Ytfikaccgpjiedaa.RX
namespace Go.Proofs.Ytfikaccgpjiedaa
open Go.RowKit Go.Lib

/-- The rows are laid side by side in a block. -/
def IsP (s : Nat) (ps : List Prt) (W : World) (v : Value) : Prop := ∃ q, v = .slice (some ⟨q, 0, none⟩) ps.length ps.length ∧ q < W.heap.size ∧ Prts s W q ps
theorem IsP.below {s : Nat} {ps : List Prt} {W W' : World} {v : Value} (h : IsP s ps W v) (hb : Below W.heap.size W W') : IsP s ps W' v := by
  obtain ⟨q, rfl, h1, h2⟩ := h
  exact ⟨q, rfl, Nat.lt_of_lt_of_le h1 hb.size, h2.below hb h1⟩
theorem isP_new {s : Nat} (ps : List Prt) (W : World) (t : TypeId) (h : ∀ p ∈ ps, RowS s W p.a p.n p.c p.vs) : IsP s ps (W.alloc (.cells (ps.map fun p => Value.slice p.a p.n p.c).toArray t)) (.slice (some ⟨W.heap.size, 0, none⟩) ps.length ps.length) := by
  refine ⟨_, rfl, by simp, fun j p hp => ⟨?_, (h p (List.mem_of_getElem? hp)).below (Below.allocs _ _)⟩⟩
  rw [World.cell?_alloc_at (w := W) _ _ W.heap.size j rfl]
  simp [hp]

/-- A new row of the cells X. -/
def IsR (s n B : Nat) (X : List Value) (W : World) (v : Value) : Prop := ∃ a c, v = .slice a n c ∧ RowS s W a n c X ∧ ∀ k p, SlF s a c k p → B ≤ k
theorem IsR.below {s n B : Nat} {X : List Value} {W W' : World} {v : Value} (h : IsR s n B X W v) (hb : Below W.heap.size W W') : IsR s n B X W' v := by
  obtain ⟨a, c, rfl, h1, h2⟩ := h
  exact ⟨a, c, rfl, h1.below hb, h2⟩

/-- Two new rows, apart. -/
structure Two (n m B : Nat) (X Y : List Value) (W : World) (a : Option Addr) (c : Nat) (a2 : Option Addr) (c2 : Nat) : Prop where
  r1 : RowS 2 W a n c X
  r2 : RowS 1 W a2 m c2 Y
  b1 : ∀ k p, SlF 2 a c k p → B ≤ k
  b2 : ∀ k p, SlF 1 a2 c2 k p → B ≤ k
  ap : Dis (SlF 2 a c) (SlF 1 a2 c2)
theorem Two.below {n m B : Nat} {X Y : List Value} {W W' : World} {a a2 : Option Addr} {c c2 : Nat} (h : Two n m B X Y W a c a2 c2) (hb : Below W.heap.size W W') : Two n m B X Y W' a c a2 c2 := ⟨h.r1.below hb, h.r2.below hb, h.b1, h.b2, h.ap⟩
def IsR2 (m B : Nat) (Y : List Value) (u : Value) (W : World) (v : Value) : Prop := ∃ a2 c2, v = .slice a2 m c2 ∧ RowS 1 W a2 m c2 Y ∧ (∀ k p, SlF 1 a2 c2 k p → B ≤ k) ∧ ∀ a n c, u = .slice a n c → Dis (SlF 2 a c) (SlF 1 a2 c2)
theorem IsR2.below {m B : Nat} {Y : List Value} {u : Value} {W W' : World} {v : Value} (h : IsR2 m B Y u W v) (hb : Below W.heap.size W W') : IsR2 m B Y u W' v := by
  obtain ⟨a, c, rfl, h1, h2⟩ := h
  exact ⟨a, c, rfl, h1.below hb, h2⟩
def IsB (n m B : Nat) (X Y : List Value) (W : World) (v : Value) : Prop := ∃ a c a2 c2, v = .agg #[.slice a n c, .slice a2 m c2] ∧ Two n m B X Y W a c a2 c2
theorem IsB.below {n m B : Nat} {X Y : List Value} {W W' : World} {v : Value} (h : IsB n m B X Y W v) (hb : Below W.heap.size W W') : IsB n m B X Y W' v := by
  obtain ⟨a, c, a2, c2, rfl, h1⟩ := h
  exact ⟨a, c, a2, c2, rfl, h1.below hb⟩
/-- A new node's block, and its two rows. -/
def IsN (n m B : Nat) (X Y : List Value) (W : World) (v : Value) : Prop := ∃ g a c a2 c2, v = nv g ∧ Lit W g [.slice a n c, .slice a2 m c2] ∧ B ≤ g ∧ (∀ p, ¬ SlF 2 a c g p) ∧ (∀ p, ¬ SlF 1 a2 c2 g p) ∧ Two n m B X Y W a c a2 c2
theorem IsN.below {n m B : Nat} {X Y : List Value} {W W' : World} {v : Value} (h : IsN n m B X Y W v) (hb : Below W.heap.size W W') : IsN n m B X Y W' v := by
  obtain ⟨g, a, c, a2, c2, rfl, h0, h1, h2, h3, h4⟩ := h
  exact ⟨g, a, c, a2, c2, rfl, h0.below hb, h1, h2, h3, h4.below hb⟩

/-- What join leaves. -/
def JoinS (h : Nat) (w w' : World) (n : Nd (Nd (Kid h))) (A B : List (Nd (Kid h))) (l r : Nd (Kid h)) (E F : List CE) (x : CE) : Prop :=
  ∃ (n' : Nd (Nd (Kid h))) (j : Nd (Kid h)), Res (h + 2) w w' n n' ∧ n'.es = E ++ F ∧ n'.ks = A ++ j :: B ∧ j.es = l.es ++ x :: r.es ∧ j.ks = l.ks ++ r.ks

theorem one_entry {W : World} {b o n c : Nat} {E F : List CE} {x : CE} {i : Nat} (h : RowS 2 W (some ⟨b, o, none⟩) n c (flatC (E ++ x :: F))) (hE : E.length = i) : RowS 2 W (some ⟨b, o + i * 2, none⟩) 1 (c - i) x.cs := by
  have hl := h.len
  rw [flatC_len] at hl
  simp at hl
  have hnc := h.nc
  have h1 := h.tail (i := i) (by omega)
  have h2 := h1.cut (i := 1) (k := c - i) (by omega) (by omega) (Nat.le_refl _)
  rw [flatC_drop, ← hE, List.drop_left, flatC_cons] at h2
  rw [← hE]
  have : (x.cs ++ flatC F).take (1 * 2) = x.cs := by rw [show 1 * 2 = x.cs.length by simp [CE.cs], List.take_left]
  rw [this] at h2
  exact h2

theorem map_mid {α : Type} (f : α → Nat) (A : List α) (c : α) (B : List α) : ((A ++ c :: B).map f).map nv = (A.map f).map nv ++ nv (f c) :: (B.map f).map nv := by simp
theorem del_ents (E F : List CE) (x : CE) : delC 2 (flatC (E ++ x :: F)) E.length = flatC (E ++ F) := by
  unfold delC
  rw [flatC_take, flatC_drop]
  simp [flatC_app]
theorem set_kid {α : Type} (f : α → Nat) (A B : List α) (l r : α) (g : Nat) : Ytfikaccgpjiedaa.splice (((A ++ l :: r :: B).map f).map nv) A.length [nv g] = (A.map f).map nv ++ nv g :: nv (f r) :: (B.map f).map nv := by
  unfold Ytfikaccgpjiedaa.splice
  have e : ((A ++ l :: r :: B).map f).map nv = (A.map f).map nv ++ (nv (f l) :: nv (f r) :: (B.map f).map nv) := by simp
  have el : ((A.map f).map nv).length = A.length := by simp
  rw [e, ← el, List.take_left, show ((A.map f).map nv).length + [nv g].length = ((A.map f).map nv ++ [nv (f l)]).length by simp, show (A.map f).map nv ++ (nv (f l) :: nv (f r) :: (B.map f).map nv) = ((A.map f).map nv ++ [nv (f l)]) ++ (nv (f r) :: (B.map f).map nv) by simp, List.drop_left]
  simp
theorem del_kid (X Z : List Value) (u v : Value) : delC 1 (X ++ u :: v :: Z) (X.length + 1) = X ++ u :: Z := by
  unfold delC
  rw [Nat.mul_one, Nat.mul_one, show X ++ u :: v :: Z = (X ++ [u]) ++ (v :: Z) by simp, show X.length + 1 = (X ++ [u]).length by simp, List.take_left, show (X ++ [u]).length + 1 = (X ++ [u] ++ [v]).length by simp, show X ++ [u] ++ (v :: Z) = (X ++ [u] ++ [v]) ++ Z by simp, List.drop_left]
  simp

set_option maxRecDepth 100000 in
set_option maxHeartbeats 8000000 in
theorem join_is (h : Nat) (n : Nd (Nd (Kid h))) (A B : List (Nd (Kid h))) (l r : Nd (Kid h)) (E F : List CE) (i : Nat) (x : CE) (w : World) (hn : InN w (h + 2) n) (hk : n.ks = A ++ l :: r :: B) (hA : A.length = i) (he : n.es = E ++ x :: F) (hE : E.length = i)
    (h1 : n.es.length ≤ 100) (h2 : l.es.length ≤ 100) (h3 : r.es.length ≤ 100) (h4 : n.ks.length ≤ 100) (h5 : l.ks.length ≤ 100) (h6 : r.ks.length ≤ 100) :
    Calls Try.prog 55 #[.pointer (some ⟨n.g, 0, none⟩), .int .i64 (i : Int)] w fun e w' => e = .returned (.tuple #[]) ∧ JoinS h w w' n A B l r E F x := by
  have mixed : Try.prog.follows Departure.mixedOrders = true := by kernel_rfl
  have hlm : l ∈ n.ks := by rw [hk]; exact List.mem_append_right _ (List.mem_cons_self ..)
  have hrm : r ∈ n.ks := by rw [hk]; exact List.mem_append_right _ (List.mem_cons_of_mem _ (List.mem_cons_self ..))
  have hs := hn.self
  have hnl : InN w (h + 1) l := hn.kids.2 l hlm
  have hnr : InN w (h + 1) r := hn.kids.2 r hrm
  have hgl : (n.ks.map (kg (h + 1)))[i]? = some l.g := by rw [hk, ← hA]; exact map_at (kg (h + 1)) A l (r :: B)
  have hgr : (n.ks.map (kg (h + 1)))[i + 1]? = some r.g := by
    have e : A ++ l :: r :: B = (A ++ [l]) ++ r :: B := by simp
    rw [hk, e, ← hA, show A.length + 1 = (A ++ [l]).length by simp]
    exact map_at (kg (h + 1)) (A ++ [l]) r B
  obtain ⟨N, hN⟩ : ∃ N, n.ks.length = N := ⟨_, rfl⟩
  have hN' : (n.ks.map (kg (h + 1))).length = N := by rw [← hN]; exact List.length_map _
  have hNi : i + 1 < N := by
    have := (List.getElem?_eq_some_iff.1 hgr).1
    rw [hN'] at this
    exact this
  obtain ⟨M, hM⟩ : ∃ M, n.es.length = M := ⟨_, rfl⟩
  have hiM : i < M := by rw [← hM, he, ← hE]; simp
  obtain ⟨Ll, hLl⟩ : ∃ L, l.es.length = L := ⟨_, rfl⟩
  obtain ⟨Lr, hLr⟩ : ∃ L, r.es.length = L := ⟨_, rfl⟩
  obtain ⟨Kl, hKl⟩ : ∃ L, l.ks.length = L := ⟨_, rfl⟩
  obtain ⟨Kr, hKr⟩ : ∃ L, r.ks.length = L := ⟨_, rfl⟩
  rw [hM] at h1; rw [hLl] at h2; rw [hLr] at h3; rw [hN] at h4; rw [hKl] at h5; rw [hKr] at h6
  obtain ⟨cb, co, hca, k0, _, klt⟩ := kid_at hs.cr hgl
  obtain ⟨eb, eo, hea⟩ : ∃ eb eo, n.ea = some ⟨eb, eo, none⟩ := by
    rcases hs.er.at' with ⟨_, h0⟩ | ⟨b, o, e, _⟩
    · have := hs.er.nc; omega
    · exact ⟨b, o, e⟩
  have k1 : w.cell? ⟨cb, co + (i + 1), none⟩ = some (.pointer (some ⟨r.g, 0, none⟩)) := by
    obtain ⟨cb', co', e, k, _⟩ := kid_at hs.cr hgr
    rw [hca] at e
    cases e
    exact k
  -- what lies there, for each world that follows
  have hread : ∀ W, Below w.heap.size w W → (W.cell? ⟨n.g, 0, none⟩ = some (.slice (some ⟨eb, eo, none⟩) M n.ec) ∧ W.cell? ⟨n.g, 1, none⟩ = some (.slice (some ⟨cb, co, none⟩) N n.cc)) ∧ (W.cell? ⟨l.g, 0, none⟩ = some (.slice l.ea Ll l.ec) ∧ W.cell? ⟨l.g, 1, none⟩ = some (.slice l.ca Kl l.cc)) ∧ (W.cell? ⟨r.g, 0, none⟩ = some (.slice r.ea Lr r.ec) ∧ W.cell? ⟨r.g, 1, none⟩ = some (.slice r.ca Kr r.cc)) ∧ W.cell? ⟨cb, co + i, none⟩ = some (.pointer (some ⟨l.g, 0, none⟩)) ∧ W.cell? ⟨cb, co + (i + 1), none⟩ = some (.pointer (some ⟨r.g, 0, none⟩)) := fun W hb => by
    have sn := (hn.below hb).self
    have sl := (hnl.below hb).self
    have sr := (hnr.below hb).self
    have a0 := sn.g0
    have a1 := sn.g1
    have b0 := sl.g0
    have b1 := sl.g1
    have c0 := sr.g0
    have c1 := sr.g1
    rw [hM, hea] at a0
    rw [hN', hca] at a1
    rw [hLl] at b0
    rw [List.length_map, hKl] at b1
    rw [hLr] at c0
    rw [List.length_map, hKr] at c1
    exact ⟨⟨a0, a1⟩, ⟨b0, b1⟩, ⟨c0, c1⟩, by rw [hb.cell (p := ⟨cb, co + i, none⟩) klt]; exact k0, by rw [hb.cell (p := ⟨cb, co + (i + 1), none⟩) klt]; exact k1⟩
  have hrow : ∀ W, Below w.heap.size w W → RowS 2 W l.ea Ll l.ec (flatC l.es) ∧ RowS 2 W (some ⟨eb, eo + i * 2, none⟩) 1 (n.ec - i) x.cs ∧ RowS 2 W r.ea Lr r.ec (flatC r.es) ∧ RowS 1 W l.ca Kl l.cc ((l.ks.map (kg h)).map nv) ∧ RowS 1 W r.ca Kr r.cc ((r.ks.map (kg h)).map nv) := fun W hb => by
    have sn := (hn.below hb).self
    have sl := (hnl.below hb).self
    have sr := (hnr.below hb).self
    have r1 := sn.er
    have r2 := sl.er
    have r3 := sr.er
    have r4 := sl.cr
    have r5 := sr.cr
    rw [hLl] at r2
    rw [hLr] at r3
    rw [List.length_map, hKl] at r4
    rw [List.length_map, hKr] at r5
    rw [hM, hea, he] at r1
    exact ⟨r2, one_entry r1 hE, r3, r4, r5⟩
  have nce : M ≤ n.ec := by have := hs.er.nc; rwa [hM] at this
  have ncc : N ≤ n.cc := by have := hs.cr.nc; rwa [hN'] at this
  have hcmE : n.ec ≤ 9223372036854775807 := by have := hs.er.cm; unfold maxLen at this; omega
  have hcmC : n.cc ≤ 9223372036854775807 := by have := hs.cr.cm; unfold maxLen at this; omega
  obtain ⟨PS1, hPS1⟩ : ∃ PS1 : List Prt, PS1 = [⟨l.ea, Ll, l.ec, flatC l.es⟩, ⟨some ⟨eb, eo + i * 2, none⟩, 1, n.ec - i, x.cs⟩, ⟨r.ea, Lr, r.ec, flatC r.es⟩] := ⟨_, rfl⟩
  obtain ⟨PS2, hPS2⟩ : ∃ PS2 : List Prt, PS2 = [⟨l.ca, Kl, l.cc, (l.ks.map (kg h)).map nv⟩, ⟨r.ca, Kr, r.cc, (r.ks.map (kg h)).map nv⟩] := ⟨_, rfl⟩
  have hX : allP PS1 = flatC (l.es ++ x :: r.es) := by rw [hPS1, flatC_app, flatC_cons]; simp [allP]
  have hY : allP PS2 = ((l.ks ++ r.ks).map (kg h)).map nv := by rw [hPS2]; simp [allP]
  have hS1 : sumP PS1 = Ll + 1 + Lr := by rw [hPS1]; simp [sumP]; omega
  have hS2 : sumP PS2 = Kl + Kr := by rw [hPS2]; simp [sumP]
  have hlen1 : PS1.length = 3 := by rw [hPS1]; rfl
  have hlen2 : PS2.length = 2 := by rw [hPS2]; rfl
  -- slices.Concat
  have hcat1 : ∀ W u, W.heap.size ≥ w.heap.size → IsP 2 PS1 W u → ∃ q, u = .slice (some ⟨q, 0, none⟩) 3 3 ∧ Calls Try.prog 66 #[u] W fun e w' => ∃ v, e = .returned v ∧ Below W.heap.size W w' ∧ IsR 2 (Ll + 1 + Lr) w.heap.size (flatC (l.es ++ x :: r.es)) w' v := fun W u hsz ⟨q, e, hq, hp⟩ => by
    rw [hlen1] at e
    subst e
    refine ⟨q, rfl, (cat_en W q 3 3 PS1 hlen1 (by rw [hS1]; omega) (by omega) hq hp).mono ?_⟩
    rintro e w' ⟨a', c', rfl, hr, hsub, hb⟩
    rw [hS1, hX] at hr
    exact ⟨_, rfl, hb, a', c', by rw [hS1], hr, fun k p hx => Nat.le_trans hsz (hsub k p hx)⟩
  have hcat2 : ∀ W u u0, W.heap.size ≥ w.heap.size → IsP 1 PS2 W u → IsR 2 (Ll + 1 + Lr) w.heap.size (flatC (l.es ++ x :: r.es)) W u0 → ∃ q, u = .slice (some ⟨q, 0, none⟩) 2 2 ∧ Calls Try.prog 67 #[u] W fun e w' => ∃ v, e = .returned v ∧ Below W.heap.size W w' ∧ IsR2 (Kl + Kr) w.heap.size (((l.ks ++ r.ks).map (kg h)).map nv) u0 w' v := fun W u u0 hsz ⟨q, e, hq, hp⟩ ⟨a0, c0, e0, hr0, hb0⟩ => by
    rw [hlen2] at e
    subst e e0
    refine ⟨q, rfl, (cat_no W q 2 2 PS2 hlen2 (by rw [hS2]; omega) (by omega) hq hp).mono ?_⟩
    rintro e w' ⟨a', c', rfl, hr, hsub, hb⟩
    rw [hS2, hY] at hr
    refine ⟨_, rfl, hb, a', c', by rw [hS2], hr, fun k p hx => Nat.le_trans hsz (hsub k p hx), fun a n' c e k p hx hy => ?_⟩
    cases e
    have h1 := hr0.lt k p hx
    have h2 : W.heap.size ≤ k := hsub k p hy
    omega
  have HREAD := Lib.hid hread
  have HROW := Lib.hid hrow
  have HC1 := Lib.hid hcat1
  have HC2 := Lib.hid hcat2
  have HN := Lib.hid hn
  have HNL := Lib.hid hnl
  have HNR := Lib.hid hnr
  have HP := Lib.hid (And.intro hk (And.intro hA (And.intro he hE)))
  have HEA := Lib.hid (And.intro hea hca)
  have HM := Lib.hid (And.intro hM (And.intro hN hN'))
  have HLK := Lib.hid (And.intro hLl (And.intro hLr (And.intro hKl hKr)))
  have HPS1 := Lib.hid hPS1
  have HPS2 := Lib.hid hPS2
  have HLM := Lib.hid (And.intro hlm hrm)
  have hiN : (i : Int) < (N : Int) := by omega
  have hiN1 : (i : Int) + 1 < (N : Int) := by omega
  have z2 : (0 : Int) ≤ (i : Int) + 1 := by omega
  have z3 : ((i : Int) + 1).toNat = i + 1 := by omega
  have z4 : (i : Int) + 1 ≤ (n.ec : Int) := by omega
  have z5 : i ≤ i + 1 := by omega
  have z6 : ¬ n.ec = i := by omega
  have z7 : i ≤ n.ec := by omega
  have z8 : i + 1 - i = 1 := by omega
  have z9 : IntKind.i64.wrap ((i : Int) + 1) = (i : Int) + 1 := by rw [IntKind.wrap_i64]; omega
  have z10 : IntKind.i64.wrap ((i : Int) + 2) = (i : Int) + 2 := by rw [IntKind.wrap_i64]; omega
  obtain ⟨⟨a0, a1⟩, ⟨b0, b1⟩, ⟨c0, c1⟩, k0', k1'⟩ := hread w (Below.refl _ _)
  clear hread hrow hcat1 hcat2 hn hnl hnr hk hA he hE hea hca hM hN hN' hLl hLr hKl hKr hPS1 hPS2 hX hY hS1 hS2 hlen1 hlen2 hgl hgr hs k0 k1 hlm hrm
  go_enter Try.func55, Try.ntmps55
  go_wp2_with fail
  go_region
  have HB1 := Lib.hid (below_drw w)
  clear a0 a1 b0 b1 c0 c1 k0' k1'
  obtain ⟨W1, hW1⟩ : ∃ W1, w.drew = W1 := ⟨_, rfl⟩
  have hsz1 : W1.heap.size = w.heap.size := by rw [← hW1]; rfl
  rw [hW1] at HB1 ⊢
  clear hW1
  go_wp2_with fail
  have hdr := below_drw W1
  try simp only [List.append_eq, List.cons_append, List.nil_append]
  refine RX.wp_region_last 35 (fun w w' => Below w.heap.size w w') [.it (.pointer (some ⟨n.g, 0, none⟩)), .it (.pointer (some ⟨n.g, 0, none⟩)), .it (.pointer (some ⟨n.g, 1, none⟩)), .it (.slice (some ⟨cb, co, none⟩) N n.cc), .it (.int .i64 (i : Int)), .it (.pointer (some ⟨l.g, 0, none⟩)), .it (.pointer (some ⟨l.g, 0, none⟩)), .it (.pointer (some ⟨l.g, 0, none⟩)), .it (.slice l.ea Ll l.ec), .it (.pointer (some ⟨n.g, 0, none⟩)), .it (.pointer (some ⟨n.g, 0, none⟩)), .it (.pointer (some ⟨n.g, 0, none⟩)), .it (.slice (some ⟨eb, eo, none⟩) M n.ec), .it (.int .i64 (i : Int)), .it (.int .i64 (i : Int)), .it (.int .i64 ((i : Int) + 1)), .it (.slice (some ⟨eb, eo + i * 2, none⟩) 1 (n.ec - i)), .it (.pointer (some ⟨r.g, 0, none⟩)), .it (.pointer (some ⟨r.g, 0, none⟩)), .it (.pointer (some ⟨r.g, 0, none⟩)), .it (.slice r.ea Lr r.ec), .of (IsP 2 PS1), .of (IsR 2 (Ll + 1 + Lr) w.heap.size (flatC (l.es ++ x :: r.es))), .it (.pointer (some ⟨l.g, 0, none⟩)), .it (.pointer (some ⟨l.g, 0, none⟩)), .it (.pointer (some ⟨l.g, 1, none⟩)), .it (.slice l.ca Kl l.cc), .it (.pointer (some ⟨r.g, 0, none⟩)), .it (.pointer (some ⟨r.g, 0, none⟩)), .it (.pointer (some ⟨r.g, 1, none⟩)), .it (.slice r.ca Kr r.cc), .of (IsP 1 PS2), .on 22 (IsR2 (Kl + Kr) w.heap.size (((l.ks ++ r.ks).map (kg h)).map nv)), .of (IsB (Ll + 1 + Lr) (Kl + Kr) w.heap.size (flatC (l.es ++ x :: r.es)) (((l.ks ++ r.ks).map (kg h)).map nv)), .of (IsN (Ll + 1 + Lr) (Kl + Kr) w.heap.size (flatC (l.es ++ x :: r.es)) (((l.ks ++ r.ks).map (kg h)).map nv))] mixed (by kernel_rfl) (fun _ => Below.refl _ _) (fun _ _ _ => below_tr) ?_
  simp only [List.take_succ_cons, List.take_zero, List.drop_succ_cons, List.drop_zero]
  refine RX.seqP_value (fun _ => Below.refl _ _) _ (by first | rfl | simp) (fun w' hw' hctx => by (go_simp); (try first | with_reducible rfl | simp)) ?_
  simp only [Act.put, List.setIfInBounds_toArray, List.set_cons_zero, List.set_cons_succ]
  refine RX.seqP_value (fun _ => Below.refl _ _) _ (by first | rfl | simp) (fun w' hw' hctx => by (go_simp); (try first | with_reducible rfl | simp)) ?_
  simp only [Act.put, List.setIfInBounds_toArray, List.set_cons_zero, List.set_cons_succ]
  refine RX.seqP_value (fun _ => Below.refl _ _) _ (by first | rfl | simp) (fun w' hw' hctx => by (go_simp); (try first | with_reducible rfl | simp)) ?_
  simp only [Act.put, List.setIfInBounds_toArray, List.set_cons_zero, List.set_cons_succ]
  refine RX.seqP_value (fun _ => Below.refl _ _) _ (by first | rfl | simp) (fun w' hw' hctx => ?_) ?_
  · obtain ⟨⟨a0, a1⟩, ⟨b0, b1⟩, ⟨c0, c1⟩, k0', k1'⟩ := HREAD.out w' (below_tr HB1.out (below_tr hdr hw'))
    go_simp
    try first | with_reducible rfl | simp
  simp only [Act.put, List.setIfInBounds_toArray, List.set_cons_zero, List.set_cons_succ]
  refine RX.seqP_value (fun _ => Below.refl _ _) _ (by first | rfl | simp) (fun w' hw' hctx => by (go_simp); (try first | with_reducible rfl | simp)) ?_
  simp only [Act.put, List.setIfInBounds_toArray, List.set_cons_zero, List.set_cons_succ]
  refine RX.seqP_value (fun _ => Below.refl _ _) _ (by first | rfl | simp) (fun w' hw' hctx => by (go_simp); (try first | with_reducible rfl | simp)) ?_
  simp only [Act.put, List.setIfInBounds_toArray, List.set_cons_zero, List.set_cons_succ]
  refine RX.seqP_value (fun _ => Below.refl _ _) _ (by first | rfl | simp) (fun w' hw' hctx => by (go_simp); (try first | with_reducible rfl | simp)) ?_
  simp only [Act.put, List.setIfInBounds_toArray, List.set_cons_zero, List.set_cons_succ]
  refine RX.seqP_value (fun _ => Below.refl _ _) _ (by first | rfl | simp) (fun w' hw' hctx => by (go_simp); (try first | with_reducible rfl | simp)) ?_
  simp only [Act.put, List.setIfInBounds_toArray, List.set_cons_zero, List.set_cons_succ]
  refine RX.seqP_value (fun _ => Below.refl _ _) _ (by first | rfl | simp) (fun w' hw' hctx => ?_) ?_
  · obtain ⟨⟨a0, a1⟩, ⟨b0, b1⟩, ⟨c0, c1⟩, k0', k1'⟩ := HREAD.out w' (below_tr HB1.out (below_tr hdr hw'))
    go_simp
    try first | with_reducible rfl | simp
  simp only [Act.put, List.setIfInBounds_toArray, List.set_cons_zero, List.set_cons_succ]
  refine RX.seqP_value (fun _ => Below.refl _ _) _ (by first | rfl | simp) (fun w' hw' hctx => by (go_simp); (try first | with_reducible rfl | simp)) ?_
  simp only [Act.put, List.setIfInBounds_toArray, List.set_cons_zero, List.set_cons_succ]
  refine RX.seqP_value (fun _ => Below.refl _ _) _ (by first | rfl | simp) (fun w' hw' hctx => by (go_simp); (try first | with_reducible rfl | simp)) ?_
  simp only [Act.put, List.setIfInBounds_toArray, List.set_cons_zero, List.set_cons_succ]
  refine RX.seqP_value (fun _ => Below.refl _ _) _ (by first | rfl | simp) (fun w' hw' hctx => by (go_simp); (try first | with_reducible rfl | simp)) ?_
  simp only [Act.put, List.setIfInBounds_toArray, List.set_cons_zero, List.set_cons_succ]
  refine RX.seqP_value (fun _ => Below.refl _ _) _ (by first | rfl | simp) (fun w' hw' hctx => ?_) ?_
  · obtain ⟨⟨a0, a1⟩, ⟨b0, b1⟩, ⟨c0, c1⟩, k0', k1'⟩ := HREAD.out w' (below_tr HB1.out (below_tr hdr hw'))
    go_simp
    try first | with_reducible rfl | simp
  simp only [Act.put, List.setIfInBounds_toArray, List.set_cons_zero, List.set_cons_succ]
  refine RX.seqP_value (fun _ => Below.refl _ _) _ (by first | rfl | simp) (fun w' hw' hctx => by (go_simp); (try first | with_reducible rfl | simp)) ?_
  simp only [Act.put, List.setIfInBounds_toArray, List.set_cons_zero, List.set_cons_succ]
  refine RX.seqP_value (fun _ => Below.refl _ _) _ (by first | rfl | simp) (fun w' hw' hctx => by (go_simp); (try first | with_reducible rfl | simp)) ?_
  simp only [Act.put, List.setIfInBounds_toArray, List.set_cons_zero, List.set_cons_succ]
  refine RX.seqP_value (fun _ => Below.refl _ _) _ (by first | rfl | simp) (fun w' hw' hctx => by (go_simp); (try first | with_reducible rfl | simp)) ?_
  simp only [Act.put, List.setIfInBounds_toArray, List.set_cons_zero, List.set_cons_succ]
  refine RX.seqP_value (fun _ => Below.refl _ _) _ (by first | rfl | simp) (fun w' hw' hctx => by (go_simp); (try first | with_reducible rfl | simp)) ?_
  simp only [Act.put, List.setIfInBounds_toArray, List.set_cons_zero, List.set_cons_succ]
  refine RX.seqP_value (fun _ => Below.refl _ _) _ (by first | rfl | simp) (fun w' hw' hctx => by (go_simp); (try first | with_reducible rfl | simp)) ?_
  simp only [Act.put, List.setIfInBounds_toArray, List.set_cons_zero, List.set_cons_succ]
  refine RX.seqP_value (fun _ => Below.refl _ _) _ (by first | rfl | simp) (fun w' hw' hctx => by (go_simp); (try first | with_reducible rfl | simp)) ?_
  simp only [Act.put, List.setIfInBounds_toArray, List.set_cons_zero, List.set_cons_succ]
  refine RX.seqP_value (fun _ => Below.refl _ _) _ (by first | rfl | simp) (fun w' hw' hctx => by (go_simp); (try first | with_reducible rfl | simp)) ?_
  simp only [Act.put, List.setIfInBounds_toArray, List.set_cons_zero, List.set_cons_succ]
  refine RX.seqP_value (fun _ => Below.refl _ _) _ (by first | rfl | simp) (fun w' hw' hctx => ?_) ?_
  · obtain ⟨⟨a0, a1⟩, ⟨b0, b1⟩, ⟨c0, c1⟩, k0', k1'⟩ := HREAD.out w' (below_tr HB1.out (below_tr hdr hw'))
    go_simp
    try first | with_reducible rfl | simp
  simp only [Act.put, List.setIfInBounds_toArray, List.set_cons_zero, List.set_cons_succ]
  refine RX.seqP_make (IsP 2 PS1) (fun w w' v hb h => h.below hb) (by first | rfl | simp) (fun w' hw' hctx => ?_) (fun u21 => ?_)
  · obtain ⟨r1, r2, r3, r4, r5⟩ := HROW.out w' (below_tr HB1.out (below_tr hdr hw'))
    have hnew := isP_new (s := 2) PS1 w' 33 (fun p hp => by
      rw [HPS1.out] at hp
      simp only [List.mem_cons, List.not_mem_nil, or_false] at hp
      rcases hp with rfl | rfl | rfl
      · exact r1
      · exact r2
      · exact r3)
    have hal := Below.allocs w' (.cells (PS1.map fun p => Value.slice p.a p.n p.c).toArray 33)
    rw [HPS1.out] at hnew hal ⊢
    exact ⟨_, _, by go_simp, hal, hnew⟩
  simp only [Act.put, List.setIfInBounds_toArray, List.set_cons_zero, List.set_cons_succ]
  refine RX.seqP_callOf (66) #[u21] (IsR 2 (Ll + 1 + Lr) w.heap.size (flatC (l.es ++ x :: r.es))) (fun w w' v hb h => h.below hb) (by first | rfl | simp) (fun w' hw' hctx => ?_) (fun w' hw' hctx => ?_) (fun u22 => ?_)
  · go_simp
  · have hp : IsP 2 PS1 w' u21 := hctx.1
    obtain ⟨q, e, hc⟩ := HC1.out w' u21 (Nat.le_trans HB1.out.size (below_tr hdr hw').size) hp
    exact hc
  simp only [Act.put, List.setIfInBounds_toArray, List.set_cons_zero, List.set_cons_succ]
  refine RX.seqP_value (fun _ => Below.refl _ _) _ (by first | rfl | simp) (fun w' hw' hctx => by (go_simp); (try first | with_reducible rfl | simp)) ?_
  simp only [Act.put, List.setIfInBounds_toArray, List.set_cons_zero, List.set_cons_succ]
  refine RX.seqP_value (fun _ => Below.refl _ _) _ (by first | rfl | simp) (fun w' hw' hctx => by (go_simp); (try first | with_reducible rfl | simp)) ?_
  simp only [Act.put, List.setIfInBounds_toArray, List.set_cons_zero, List.set_cons_succ]
  refine RX.seqP_value (fun _ => Below.refl _ _) _ (by first | rfl | simp) (fun w' hw' hctx => by (go_simp); (try first | with_reducible rfl | simp)) ?_
  simp only [Act.put, List.setIfInBounds_toArray, List.set_cons_zero, List.set_cons_succ]
  refine RX.seqP_value (fun _ => Below.refl _ _) _ (by first | rfl | simp) (fun w' hw' hctx => ?_) ?_
  · obtain ⟨⟨a0, a1⟩, ⟨b0, b1⟩, ⟨c0, c1⟩, k0', k1'⟩ := HREAD.out w' (below_tr HB1.out (below_tr hdr hw'))
    go_simp
    try first | with_reducible rfl | simp
  simp only [Act.put, List.setIfInBounds_toArray, List.set_cons_zero, List.set_cons_succ]
  refine RX.seqP_value (fun _ => Below.refl _ _) _ (by first | rfl | simp) (fun w' hw' hctx => by (go_simp); (try first | with_reducible rfl | simp)) ?_
  simp only [Act.put, List.setIfInBounds_toArray, List.set_cons_zero, List.set_cons_succ]
  refine RX.seqP_value (fun _ => Below.refl _ _) _ (by first | rfl | simp) (fun w' hw' hctx => by (go_simp); (try first | with_reducible rfl | simp)) ?_
  simp only [Act.put, List.setIfInBounds_toArray, List.set_cons_zero, List.set_cons_succ]
  refine RX.seqP_value (fun _ => Below.refl _ _) _ (by first | rfl | simp) (fun w' hw' hctx => by (go_simp); (try first | with_reducible rfl | simp)) ?_
  simp only [Act.put, List.setIfInBounds_toArray, List.set_cons_zero, List.set_cons_succ]
  refine RX.seqP_value (fun _ => Below.refl _ _) _ (by first | rfl | simp) (fun w' hw' hctx => ?_) ?_
  · obtain ⟨⟨a0, a1⟩, ⟨b0, b1⟩, ⟨c0, c1⟩, k0', k1'⟩ := HREAD.out w' (below_tr HB1.out (below_tr hdr hw'))
    go_simp
    try first | with_reducible rfl | simp
  simp only [Act.put, List.setIfInBounds_toArray, List.set_cons_zero, List.set_cons_succ]
  refine RX.seqP_make (IsP 1 PS2) (fun w w' v hb h => h.below hb) (by first | rfl | simp) (fun w' hw' hctx => ?_) (fun u31 => ?_)
  · obtain ⟨r1, r2, r3, r4, r5⟩ := HROW.out w' (below_tr HB1.out (below_tr hdr hw'))
    have hnew := isP_new (s := 1) PS2 w' 54 (fun p hp => by
      rw [HPS2.out] at hp
      simp only [List.mem_cons, List.not_mem_nil, or_false] at hp
      rcases hp with rfl | rfl
      · exact r4
      · exact r5)
    have hal := Below.allocs w' (.cells (PS2.map fun p => Value.slice p.a p.n p.c).toArray 54)
    rw [HPS2.out] at hnew hal ⊢
    exact ⟨_, _, by go_simp, hal, hnew⟩
  simp only [Act.put, List.setIfInBounds_toArray, List.set_cons_zero, List.set_cons_succ]
  refine RX.seqP_callOn 22 (67) #[u31] (IsR2 (Kl + Kr) w.heap.size (((l.ks ++ r.ks).map (kg h)).map nv)) (by decide) (fun w w' v hb h => h.below hb) (by first | rfl | simp) (fun w' hw' hctx => ?_) (fun w' hw' hctx => ?_) (fun u32 => ?_)
  · go_simp
  · have hp : IsP 1 PS2 w' u31 := hctx.1
    have hq : IsR 2 (Ll + 1 + Lr) w.heap.size (flatC (l.es ++ x :: r.es)) w' u22 := hctx.2.1
    obtain ⟨q, e, hc⟩ := HC2.out w' u31 u22 (Nat.le_trans HB1.out.size (below_tr hdr hw').size) hp hq
    exact hc
  simp only [Act.put, List.setIfInBounds_toArray, List.set_cons_zero, List.set_cons_succ]
  refine RX.seqP_make (IsB (Ll + 1 + Lr) (Kl + Kr) w.heap.size (flatC (l.es ++ x :: r.es)) (((l.ks ++ r.ks).map (kg h)).map nv)) (fun w w' v hb h => h.below hb) (by first | rfl | simp) (fun w' hw' hctx => ?_) (fun u33 => ?_)
  · have hp : IsR2 (Kl + Kr) w.heap.size (((l.ks ++ r.ks).map (kg h)).map nv) u22 w' u32 := hctx.1
    have hq : IsR 2 (Ll + 1 + Lr) w.heap.size (flatC (l.es ++ x :: r.es)) w' u22 := hctx.2.2.1
    obtain ⟨a2, c2, rfl, p1, p2, p3⟩ := hp
    obtain ⟨a, c, rfl, q1, q2⟩ := hq
    exact ⟨_, _, by go_simp, Below.refl _ _, a, c, a2, c2, rfl, q1, p1, q2, p2, p3 a _ c rfl⟩
  simp only [Act.put, List.setIfInBounds_toArray, List.set_cons_zero, List.set_cons_succ]
  refine RX.seqP_make (IsN (Ll + 1 + Lr) (Kl + Kr) w.heap.size (flatC (l.es ++ x :: r.es)) (((l.ks ++ r.ks).map (kg h)).map nv)) (fun w w' v hb h => h.below hb) (by first | rfl | simp) (fun w' hw' hctx => ?_) (fun u34 => ?_)
  · have hp : IsB (Ll + 1 + Lr) (Kl + Kr) w.heap.size (flatC (l.es ++ x :: r.es)) (((l.ks ++ r.ks).map (kg h)).map nv) w' u33 := hctx.1
    obtain ⟨a, c, a2, c2, rfl, hT⟩ := hp
    have hal := Below.allocs w' (.cells #[.slice a (Ll + 1 + Lr) c, .slice a2 (Kl + Kr) c2] 56)
    have hlt1 := hT.r1.lt
    have hlt2 := hT.r2.lt
    exact ⟨_, _, by go_simp; rfl, hal, w'.heap.size, a, c, a2, c2, rfl, Lit.new w' [.slice a (Ll + 1 + Lr) c, .slice a2 (Kl + Kr) c2] 56 (by intro v hv; simp at hv; rcases hv with rfl | rfl <;> rfl), Nat.le_trans HB1.out.size (below_tr hdr hw').size, fun p hx => by have := hlt1 _ _ hx; omega, fun p hx => by have := hlt2 _ _ hx; omega, hT.below hal⟩
  simp only [Act.put, List.setIfInBounds_toArray, List.set_cons_zero, List.set_cons_succ]
  refine RX.seqP_nil (fun v1 hR hctx _ => ?_)
  have hv1 := below_tr hdr hR
  have hN34 : IsN (Ll + 1 + Lr) (Kl + Kr) w.heap.size (flatC (l.es ++ x :: r.es)) (((l.ks ++ r.ks).map (kg h)).map nv) v1 u34 := hctx.1
  obtain ⟨g, a, c, a2, c2, rfl, hlit, hBg, hng1, hng2, hT⟩ := hN34
  have BV : Hid (Below w.heap.size w v1) := Lib.hid (below_tr HB1.out hv1)
  have HJ := Lib.hid (And.intro hlit (And.intro hBg (And.intro hng1 (And.intro hng2 hT))))
  clear hctx hR hv1 hdr hlit hBg hng1 hng2 hT
  unfold RX.lastQ nv
  obtain ⟨⟨a0, a1⟩, -, -, k0', k1'⟩ := HREAD.out v1 BV.out
  have sv := (HN.out.below BV.out).self
  have hkf : v1.frozen? ⟨cb, co + i, none⟩ = false := by
    obtain ⟨cb', co', e, _, kf, _⟩ := kid_at sv.cr (i := i) (g := l.g) (by rw [HP.out.1, ← HP.out.2.1]; exact map_at (kg (h + 1)) A l (r :: B))
    rw [HEA.out.2] at e
    cases e
    exact kf
  -- the store
  obtain ⟨W5, hW5⟩ : ∃ W5, v1.setCell ⟨cb, co + i, none⟩ (.pointer (some ⟨g, 0, none⟩)) = W5 := ⟨_, rfl⟩
  have crv : RowS 1 v1 (some ⟨cb, co, none⟩) N n.cc ((n.ks.map (kg (h + 1))).map nv) := by
    have := sv.cr
    rw [HM.out.2.2, HEA.out.2] at this
    exact this
  obtain ⟨cr5, t15⟩ := crv.splice (j := i) (news := [nv g]) (by simp; omega) (by intro v hv; simp at hv; subst hv; rfl)
  rw [show v1.setCells cb (co + i) [nv g] = W5 from hW5] at cr5 t15
  have hsp : Ytfikaccgpjiedaa.splice ((n.ks.map (kg (h + 1))).map nv) i [nv g] = (A.map (kg (h + 1))).map nv ++ nv g :: nv (kg (h + 1) r) :: (B.map (kg (h + 1))).map nv := by
    rw [HP.out.1, ← HP.out.2.1]
    exact set_kid (kg (h + 1)) A B l r g
  rw [hsp] at cr5
  have t15' : TouchC (SlF 1 n.ca n.cc) v1 W5 := by rw [HEA.out.2]; exact t15
  have gl1 : n.g < v1.heap.size := sv.lt
  have gl5 : n.g < W5.heap.size := Nat.lt_of_lt_of_le gl1 t15'.size
  -- slices.Delete of an entry
  have er5 : RowS 2 W5 n.ea M n.ec (flatC n.es) := by
    have := sv.er.touch t15' sv.d3
    rw [HM.out.1] at this
    exact this
  have hde := del_en W5 n.ea M n.ec i (flatC n.es) er5 (by omega) hiM
  rw [HEA.out.1] at hde
  have a05 : W5.cell? ⟨n.g, 0, none⟩ = some (.slice (some ⟨eb, eo, none⟩) M n.ec) := by rw [t15'.cell n.g 0 gl1 (sv.d2 n.g 0 ⟨rfl, by omega⟩)]; exact a0
  have HDE := Lib.hid hde
  have HW5 := Lib.hid hW5
  have H5 := Lib.hid (And.intro cr5 (And.intro t15' (And.intro gl1 (And.intro gl5 er5))))
  clear hde hW5 cr5 t15' gl1 gl5 er5 t15 crv hsp sv k1'
  go_upto_region 2 with (fail)
  rw [HW5.out]
  go_wp2_with fail
  refine (show Calls Try.prog _ _ _ _ from HDE.out).mono ?_
  rintro e w7 ⟨rfl, hr7, ht7⟩
  obtain ⟨cr5, t15, gl1, gl5, er5⟩ := H5.out
  have sv := (HN.out.below BV.out).self
  have ht7' : TouchC (SlF 2 n.ea n.ec) W5 w7 := by rw [HEA.out.1]; exact ht7
  have hes : delC 2 (flatC n.es) i = flatC (E ++ F) := by rw [HP.out.2.2.1, ← HP.out.2.2.2]; exact del_ents E F x
  rw [hes] at hr7
  have a17 : w7.cell? ⟨n.g, 1, none⟩ = some (.slice (some ⟨cb, co, none⟩) N n.cc) := by rw [ht7'.cell n.g 1 gl5 (sv.d1 n.g 1 ⟨rfl, by omega⟩), t15.cell n.g 1 gl1 (sv.d2 n.g 1 ⟨rfl, by omega⟩)]; exact a1
  have a07 : w7.cell? ⟨n.g, 0, none⟩ = some (.slice (some ⟨eb, eo, none⟩) M n.ec) := by rw [ht7'.cell n.g 0 gl5 (sv.d1 n.g 0 ⟨rfl, by omega⟩)]; exact a05
  have f07 : w7.frozen? ⟨n.g, 0, none⟩ = false := by rw [ht7'.fz n.g 0 gl5, t15.fz n.g 0 gl1]; exact sv.fz 0
  have f17 : w7.frozen? ⟨n.g, 1, none⟩ = false := by rw [ht7'.fz n.g 1 gl5, t15.fz n.g 1 gl1]; exact sv.fz 1
  obtain ⟨W8, hW8⟩ : ∃ W8, w7.setCell ⟨n.g, 0, none⟩ (.slice (some ⟨eb, eo, none⟩) (M - 1) n.ec) = W8 := ⟨_, rfl⟩
  have t78 : TouchC (Hd n.g 2) w7 W8 := by rw [← hW8]; exact (TouchC.refl _ _).setCell ⟨rfl, by omega⟩ _
  have t58 : TouchC (fun k p => SlF 2 n.ea n.ec k p ∨ Hd n.g 2 k p) W5 W8 := ht7'.two t78 (fun _ _ _ h => .inl h) (fun _ _ _ h => .inr h)
  have er8 : RowS 2 W8 (some ⟨eb, eo, none⟩) (M - 1) n.ec (flatC (E ++ F)) := hr7.touch t78 (fun k p hx hy => sv.d1 k p hy (by rw [HEA.out.1]; exact hx))
  have p08 : W8.cell? ⟨n.g, 0, none⟩ = some (.slice (some ⟨eb, eo, none⟩) (M - 1) n.ec) := by rw [← hW8]; exact World.cell?_setCell_same _ _ _ a07
  have cr8 : RowS 1 W8 (some ⟨cb, co, none⟩) N n.cc ((A.map (kg (h + 1))).map nv ++ nv g :: nv (kg (h + 1) r) :: (B.map (kg (h + 1))).map nv) := cr5.touch t58 (fun k p hx hy => by
    rw [← HEA.out.2] at hx
    rcases hy with hy | hy
    · exact sv.d3 k p hy hx
    · exact sv.d2 k p hy hx)
  have gl8 : n.g < W8.heap.size := Nat.lt_of_lt_of_le gl5 t58.size
  have hdc := del_no W8 (some ⟨cb, co, none⟩) N n.cc (i + 1) _ cr8 (by omega) hNi
  rw [show (((i + 1 : Nat)) : Int) = (i : Int) + 1 by omega, show (i : Int) + 1 + 1 = (i : Int) + 2 by omega] at hdc
  have HDC := Lib.hid hdc
  have HW8 := Lib.hid hW8
  have H8 := Lib.hid (And.intro t58 (And.intro er8 (And.intro p08 (And.intro cr8 gl8))))
  clear hdc hW8 t58 er8 p08 cr8 gl8 t78 hes hr7 ht7 ht7' cr5 t15 gl1 gl5 er5 sv
  go_wp2_with fail
  rw [HW8.out]
  refine (show Calls Try.prog _ _ _ _ from HDC.out).mono ?_
  rintro e w10 ⟨rfl, hr10, ht10⟩
  obtain ⟨t58, er8, p08, cr8, gl8⟩ := H8.out
  obtain ⟨cr5, t15, gl1, gl5, er5⟩ := H5.out
  have sv := (HN.out.below BV.out).self
  have ht10' : TouchC (SlF 1 n.ca n.cc) W8 w10 := by rw [HEA.out.2]; exact ht10
  have hks : delC 1 ((A.map (kg (h + 1))).map nv ++ nv g :: nv (kg (h + 1) r) :: (B.map (kg (h + 1))).map nv) (i + 1) = (A.map (kg (h + 1))).map nv ++ nv g :: (B.map (kg (h + 1))).map nv := by
    have el : ((A.map (kg (h + 1))).map nv).length = i := by rw [List.length_map, ← HP.out.2.1]; exact List.length_map _
    rw [← el]
    exact del_kid _ _ _ _
  rw [hks] at hr10
  have r0 : w10.cell? ⟨n.g, 0, none⟩ = some (.slice (some ⟨eb, eo, none⟩) (M - 1) n.ec) := by rw [ht10'.cell n.g 0 gl8 (sv.d2 n.g 0 ⟨rfl, by omega⟩)]; exact p08
  have r1 : w10.cell? ⟨n.g, 1, none⟩ = some (.slice (some ⟨cb, co, none⟩) N n.cc) := by rw [ht10'.cell n.g 1 gl8 (sv.d2 n.g 1 ⟨rfl, by omega⟩), ← HW8.out, World.cell?_setCell_other _ _ _ _ (by simp)]; exact a17
  have f1 : w10.frozen? ⟨n.g, 1, none⟩ = false := by rw [ht10'.fz n.g 1 gl8, ← HW8.out, World.frozen?_setCell]; exact f17
  obtain ⟨W11, hW11⟩ : ∃ W11, w10.setCell ⟨n.g, 1, none⟩ (.slice (some ⟨cb, co, none⟩) (N - 1) n.cc) = W11 := ⟨_, rfl⟩
  have t1011 : TouchC (Hd n.g 2) w10 W11 := by rw [← hW11]; exact (TouchC.refl _ _).setCell ⟨rfl, by omega⟩ _
  have t811 : TouchC (fun k p => SlF 1 n.ca n.cc k p ∨ Hd n.g 2 k p) W8 W11 := ht10'.two t1011 (fun _ _ _ h => .inl h) (fun _ _ _ h => .inr h)
  have g0 : W11.cell? ⟨n.g, 0, none⟩ = some (.slice n.ea (M - 1) n.ec) := by rw [HEA.out.1, ← hW11, World.cell?_setCell_other _ _ _ _ (by simp)]; exact r0
  have g1 : W11.cell? ⟨n.g, 1, none⟩ = some (.slice n.ca (N - 1) n.cc) := by rw [HEA.out.2, ← hW11]; exact World.cell?_setCell_same _ _ _ r1
  have er11 : RowS 2 W11 n.ea (M - 1) n.ec (flatC (E ++ F)) := by
    rw [HEA.out.1]
    refine er8.touch t811 (fun k p hx hy => ?_)
    rw [← HEA.out.1] at hx
    rcases hy with hy | hy
    · exact sv.d3 k p hx hy
    · exact sv.d1 k p hy hx
  have t511 : TouchC (own n) W5 W11 := t58.two t811 (fun k p _ hx => hx.elim (fun h => .inr (.inl h)) .inl) (fun k p _ hx => hx.elim (fun h => .inr (.inr h)) .inl)
  have tv11 : TouchC (own n) v1 W11 := t15.two t511 (fun k p _ hx => .inr (.inr hx)) (fun k p _ hx => hx)
  have t11 : TouchC (own n) w W11 := (TouchC.of_below BV.out).trans tv11 (fun _ _ _ h => h)
  -- the new child
  obtain ⟨hlit, hBg, hng1, hng2, hT⟩ := HJ.out
  have hol : ∀ k p, own n k p → k < w.heap.size := fun k p hx => own_lt HN.out.self hx
  have l11 : Lit W11 g [.slice a (Ll + 1 + Lr) c, .slice a2 (Kl + Kr) c2] := hlit.touch tv11 (fun p hx => by have := hol g p hx; omega)
  have T1 : RowS 2 W11 a (Ll + 1 + Lr) c (flatC (l.es ++ x :: r.es)) := hT.r1.touch tv11 (fun k p hx hy => by have := hT.b1 k p hx; have := hol k p hy; omega)
  have T2 : RowS 1 W11 a2 (Kl + Kr) c2 (((l.ks ++ r.ks).map (kg h)).map nv) := hT.r2.touch tv11 (fun k p hx hy => by have := hT.b2 k p hx; have := hol k p hy; omega)
  have hjl : (l.es ++ x :: r.es).length = Ll + 1 + Lr := by rw [← HLK.out.1, ← HLK.out.2.1]; simp; omega
  have hjk : ((l.ks ++ r.ks).map (kg h)).length = Kl + Kr := by rw [List.length_map, List.length_append, HLK.out.2.2.1, HLK.out.2.2.2]
  have hls : ∀ k p, footL h (l.ks ++ r.ks) k p → footL (h + 1) [l, r] k p := fun k p hx => by
    rcases footL_app.1 hx with hx | hx
    · exact footL_cons.2 (.inl (.inr hx))
    · exact footL_cons.2 (.inr (footL_one.2 (.inr hx)))
  have hkk : KidsIn w (h + 1) (A ++ l :: r :: B) := by have := HN.out.kids; rw [HP.out.1] at this; exact this
  have hlr : Dis (foot (h + 1) l) (foot (h + 1) r) := by
    obtain ⟨_, hx, _⟩ := kids_app.1 hkk
    obtain ⟨_, _, hy⟩ := kids_cons.1 hx
    exact fun k p h1 h2 => hy k p h1 (footL_cons.2 (.inl h2))
  have hfn : ∀ k p, footL (h + 1) [l, r] k p → footL (h + 1) n.ks k p := fun k p hx => by
    rcases footL_cons.1 hx with hx | hx
    · exact ⟨l, HLM.out.1, hx⟩
    · exact ⟨r, HLM.out.2, footL_one.1 hx⟩
  have hK : KidsIn W11 h (l.ks ++ r.ks) := by
    have hk0 : KidsIn w h (l.ks ++ r.ks) := kids_app.2 ⟨HNL.out.kids, HNR.out.kids, fun k p h1 h2 => hlr k p (.inr h1) (.inr h2)⟩
    exact hk0.touch t11 (fun k p hx hy => HN.out.dis k p hy (hfn k p (hls k p hx)))
  have hj : InN W11 (h + 1) (⟨g, a, c, a2, c2, l.es ++ x :: r.es, l.ks ++ r.ks⟩ : Nd (Kid h)) := by
    obtain ⟨l0, l1, _, _⟩ := l11.two
    refine InN.mk ⟨?_, ?_, l11.fz, ?_, ?_, fun k p hx hy => ?_, fun k p hx hy => ?_, hT.ap⟩ (fun k p hx hy => ?_) hK
    · show W11.cell? ⟨g, 0, none⟩ = some (.slice a (l.es ++ x :: r.es).length c)
      rw [hjl]; exact l0
    · show W11.cell? ⟨g, 1, none⟩ = some (.slice a2 ((l.ks ++ r.ks).map (kg h)).length c2)
      rw [hjk]; exact l1
    · show RowS 2 W11 a (l.es ++ x :: r.es).length c (flatC (l.es ++ x :: r.es))
      rw [hjl]; exact T1
    · show RowS 1 W11 a2 ((l.ks ++ r.ks).map (kg h)).length c2 (((l.ks ++ r.ks).map (kg h)).map nv)
      rw [hjk]; exact T2
    · obtain ⟨rfl, _⟩ := hx; exact hng1 p hy
    · obtain ⟨rfl, _⟩ := hx; exact hng2 p hy
    · have h9 := HN.out.kids.lt k p (hfn k p (hls k p hy))
      rcases hx with hx | hx | hx
      · have := hx.1; change k = g at this; omega
      · have := hT.b1 k p hx; omega
      · have := hT.b2 k p hx; omega
  have hjf : ∀ k p, foot (h + 1) (⟨g, a, c, a2, c2, l.es ++ x :: r.es, l.ks ++ r.ks⟩ : Nd (Kid h)) k p → footL (h + 1) [l, r] k p ∨ w.heap.size ≤ k := fun k p hx => by
    rcases hx with hx | hx
    · refine .inr ?_
      rcases hx with hx | hx | hx
      · have := hx.1; change k = g at this; omega
      · exact hT.b1 k p hx
      · exact hT.b2 k p hx
    · exact .inl (hls k p hx)
  have hdA : Dis (footL (h + 1) (A ++ l :: r :: B)) (own n) := by have := HN.out.dis.symm; rw [HP.out.1] at this; exact this
  obtain ⟨hs1, hs2⟩ := KidsIn.swap21 (h := h + 1) (A := A) (B := B) (l := l) (r := r) (j := (⟨g, a, c, a2, c2, l.es ++ x :: r.es, l.ks ++ r.ks⟩ : Nd (Kid h))) hkk t11 hdA hj hjf
  have hlen1 : (E ++ F).length = M - 1 := by rw [← HM.out.1, HP.out.2.2.1]; simp
  have hlen2 : (A ++ (⟨g, a, c, a2, c2, l.es ++ x :: r.es, l.ks ++ r.ks⟩ : Nd (Kid h)) :: B).length = N - 1 := by rw [← HM.out.2.1, HP.out.1]; simp
  have hKf : ∀ k p, footL (h + 1) (A ++ (⟨g, a, c, a2, c2, l.es ++ x :: r.es, l.ks ++ r.ks⟩ : Nd (Kid h)) :: B) k p → footL (h + 1) n.ks k p ∨ (w.heap.size ≤ k ∧ k < v1.heap.size) := fun k p hx => by
    rcases hs2 k p hx with h1 | ⟨h1, h2⟩
    · exact .inl (by rw [HP.out.1]; exact h1)
    · refine .inr ⟨h1, ?_⟩
      rcases h2 with h2 | h2
      · rcases h2 with h2 | h2 | h2
        · have h3 := h2.1; change k = g at h3; rw [h3]; exact hlit.lt
        · exact hT.r1.lt k p h2
        · exact hT.r2.lt k p h2
      · have := HN.out.kids.lt k p (hfn k p (hls k p h2)); omega
  have cr11 : RowS 1 W11 n.ca (N - 1) n.cc (((A ++ (⟨g, a, c, a2, c2, l.es ++ x :: r.es, l.ks ++ r.ks⟩ : Nd (Kid h)) :: B).map (kg (h + 1))).map nv) := by
    have e : ((A ++ (⟨g, a, c, a2, c2, l.es ++ x :: r.es, l.ks ++ r.ks⟩ : Nd (Kid h)) :: B).map (kg (h + 1))).map nv = (A.map (kg (h + 1))).map nv ++ nv g :: (B.map (kg (h + 1))).map nv := by
      exact map_mid (kg (h + 1)) A (⟨g, a, c, a2, c2, l.es ++ x :: r.es, l.ks ++ r.ks⟩ : Nd (Kid h)) B
    have := hr10.touch t1011 (fun k p hx hy => by rw [← HEA.out.2] at hx; exact sv.d2 k p hy hx)
    rw [e, HEA.out.2]
    exact this
  have hres := up_res (h := h + 1) HN.out n.ea n.ec n.ca n.cc (E ++ F) (A ++ (⟨g, a, c, a2, c2, l.es ++ x :: r.es, l.ks ++ r.ks⟩ : Nd (Kid h)) :: B) v1.heap.size v1.heap.size BV.out.size (Nat.le_refl _) hs1 hKf (fun k p hx => .inl hx) (fun k p hx => .inl hx) t11 (M - 1) (N - 1) hlen1 hlen2 g0 g1 er11 cr11
  have HEND : Hid (JoinS h w W11 n A B l r E F x) := Lib.hid ⟨_, (⟨g, a, c, a2, c2, l.es ++ x :: r.es, l.ks ++ r.ks⟩ : Nd (Kid h)), hres, rfl, rfl, rfl, rfl⟩
  have HW11 := Lib.hid hW11
  clear hres cr11 hKf hlen1 hlen2 hs1 hs2 hdA hjf hj hK hfn hlr hkk hls hjl hjk T1 T2 l11 hol hlit hBg hng1 hng2 hT t11 tv11 t511 er11 g0 g1 t811 t1011 hW11 hks hr10 ht10 ht10' sv cr5 t15 gl1 gl5 er5 t58 er8 p08 cr8 gl8 r0
  go_wp2_with fail
  rw [HW11.out]
  go_end0
  exact ⟨rfl, HEND.out⟩

end Go.Proofs.Ytfikaccgpjiedaa

/-
  A child that has one entry too few, or too many, is given as many as it should have.
-/
namespace Go.Proofs.Ytfikaccgpjiedaa
open Go.RowKit Go.Lib

/-! ### What is held stays -/

theorem take_mid {α : Type} {l : List α} {m : Nat} {x : α} (h : l[m]? = some x) : l = l.take m ++ x :: l.drop (m + 1) := cut_at h

/-- A node parted holds what its parts hold. -/
theorem flat_parted {h m : Nat} {c l r : Nd (Kid h)} {x : CE} (hx : c.es[m]? = some x) (hc : h ≠ 0 → c.ks.length = c.es.length + 1) (e1 : l.es = c.es.take m) (e2 : l.ks = c.ks.take (m + 1)) (e3 : r.es = c.es.drop (m + 1)) (e4 : r.ks = c.ks.drop (m + 1)) :
    flatN (h + 1) c = flatN (h + 1) l ++ x :: flatN (h + 1) r := by
  have hm := (List.getElem?_eq_some_iff.1 hx).1
  cases h with
  | zero =>
    rw [flatN_leaf, flatN_leaf, flatN_leaf, e1, e3]
    exact take_mid hx
  | succ h =>
    have hk := hc (by omega)
    rw [flatN_node, flatN_node, flatN_node, e1, e2, e3, e4]
    have hw := weave_app ((c.ks.take (m + 1)).map (flatN (h + 1))) (c.es.take m) x ((c.ks.drop (m + 1)).map (flatN (h + 1))) (c.es.drop (m + 1)) (by rw [List.length_map, List.length_take, List.length_take]; omega)
    rw [← hw, ← List.map_append, List.take_append_drop, ← take_mid hx]

/-- Two put together hold what they held. -/
theorem flat_joined {h : Nat} {l r j : Nd (Kid h)} {x : CE} (hl : h ≠ 0 → l.ks.length = l.es.length + 1) (e1 : j.es = l.es ++ x :: r.es) (e2 : j.ks = l.ks ++ r.ks) : flatN (h + 1) j = flatN (h + 1) l ++ x :: flatN (h + 1) r := by
  cases h with
  | zero => rw [flatN_leaf, flatN_leaf, flatN_leaf, e1]
  | succ h =>
    rw [flatN_node, flatN_node, flatN_node, e1, e2, List.map_append]
    exact weave_app _ _ _ _ _ (by rw [List.length_map]; exact hl (by omega))

theorem app_len2 {α : Type} (A : List α) (l r : α) (B : List α) : (A ++ l :: r :: B).length = A.length + 2 + B.length := by simp; omega
theorem mapm1 {α β : Type} (f : α → β) (A : List α) (c : α) (B : List α) : (A ++ c :: B).map f = A.map f ++ f c :: B.map f := by simp
theorem mapm2 {α β : Type} (f : α → β) (A : List α) (l r : α) (B : List α) : (A ++ l :: r :: B).map f = A.map f ++ f l :: f r :: B.map f := by simp

theorem flat_split2 {h : Nat} {n n' : Nd (Nd (Kid h))} {A B : List (Nd (Kid h))} {c l r : Nd (Kid h)} {E F : List CE} {x : CE} (hk : n.ks = A ++ c :: B) (he : n.es = E ++ F) (hAE : A.length = E.length) (hk' : n'.ks = A ++ l :: r :: B) (he' : n'.es = E ++ x :: F) (hc : flatN (h + 1) c = flatN (h + 1) l ++ x :: flatN (h + 1) r) :
    flatN (h + 2) n' = flatN (h + 2) n := by
  show weave (n'.ks.map (flatN (h + 1))) n'.es = weave (n.ks.map (flatN (h + 1))) n.es
  rw [hk, hk', he, he']
  have e1 : (A ++ l :: r :: B).map (flatN (h + 1)) = A.map (flatN (h + 1)) ++ flatN (h + 1) l :: flatN (h + 1) r :: B.map (flatN (h + 1)) := mapm2 _ _ _ _ _
  have e2 : (A ++ c :: B).map (flatN (h + 1)) = A.map (flatN (h + 1)) ++ flatN (h + 1) c :: B.map (flatN (h + 1)) := mapm1 _ _ _ _
  refine Eq.trans (congrArg (fun z => weave z (E ++ x :: F)) e1) (Eq.trans ?_ (congrArg (fun z => weave z (E ++ F)) e2.symm))
  rw [hc]
  exact glue_at _ _ _ _ _ _ _ ((List.length_map _).trans hAE)

theorem kid_len {h lo hi : Nat} {c : Nd (Kid h)} (hw : wfN (h + 1) lo hi c) : h ≠ 0 → c.ks.length = c.es.length + 1 := hw.2.2.1
theorem kid_klen {h lo hi : Nat} {c : Nd (Kid h)} (hw : wfN (h + 1) lo hi c) : c.ks.length ≤ c.es.length + 1 := by
  by_cases hh : h = 0
  · subst hh; rw [ks_leaf]; simp
  · rw [kid_len hw hh]; exact Nat.le_refl _

/-- The parts of one that has from 8 to 15 entries are well formed. -/
theorem wf_parted {h m lo hi : Nat} {c l r : Nd (Kid h)} (hw : wfN (h + 1) lo hi c) (h1 : 8 ≤ c.es.length) (h2 : c.es.length ≤ 15) (hm : c.es.length / 2 = m) (e1 : l.es = c.es.take m) (e2 : l.ks = c.ks.take (m + 1)) (e3 : r.es = c.es.drop (m + 1)) (e4 : r.ks = c.ks.drop (m + 1)) : wfN (h + 1) 3 7 l ∧ wfN (h + 1) 3 7 r := by
  obtain ⟨w1, w2, w3, w4⟩ := hw
  have w3' : h ≠ 0 → c.ks.length = c.es.length + 1 := w3
  have w4' : ∀ d ∈ c.ks, wfN h 3 7 d := w4
  have l1 : l.es.length = m := by rw [e1, List.length_take]; omega
  have l2 : r.es.length = c.es.length - (m + 1) := by rw [e3, List.length_drop]
  refine ⟨⟨?_, ?_, fun hh => ?_, fun d hd => ?_⟩, ⟨?_, ?_, fun hh => ?_, fun d hd => ?_⟩⟩
  · show 3 ≤ l.es.length; omega
  · show l.es.length ≤ 7; omega
  · show l.ks.length = l.es.length + 1
    have := w3' hh
    rw [e2, List.length_take]; omega
  · have hd' : d ∈ l.ks := hd
    rw [e2] at hd'
    exact w4' d (List.mem_of_mem_take hd')
  · show 3 ≤ r.es.length; omega
  · show r.es.length ≤ 7; omega
  · show r.ks.length = r.es.length + 1
    have := w3' hh
    rw [e4, List.length_drop]; omega
  · have hd' : d ∈ r.ks := hd
    rw [e4] at hd'
    exact w4' d (List.mem_of_mem_drop hd')

theorem wf_joined {h lo hi : Nat} {l r j : Nd (Kid h)} {x : CE} {a b c d : Nat} (hl : wfN (h + 1) a b l) (hr : wfN (h + 1) c d r) (e1 : j.es = l.es ++ x :: r.es) (e2 : j.ks = l.ks ++ r.ks) (h1 : lo ≤ l.es.length + 1 + r.es.length) (h2 : l.es.length + 1 + r.es.length ≤ hi) : wfN (h + 1) lo hi j := by
  have hlen : j.es.length = l.es.length + 1 + r.es.length := by rw [e1]; simp; omega
  refine ⟨?_, ?_, fun hh => ?_, fun d hd => ?_⟩
  · show lo ≤ j.es.length; omega
  · show j.es.length ≤ hi; omega
  · show j.ks.length = j.es.length + 1
    have h3 := kid_len hl hh
    have h4 := kid_len hr hh
    rw [e2, List.length_append]; omega
  · have hd' : d ∈ j.ks := hd
    rw [e2] at hd'
    rcases List.mem_append.1 hd' with h5 | h5
    · exact hl.2.2.2 d h5
    · exact hr.2.2.2 d h5

/-- What mend leaves: the same entries, children that are as they should be. -/
structure Mended (h : Nat) (w w' : World) (n n' : Nd (Nd (Kid h))) (lc : Nat) : Prop where
  res : Res (h + 2) w w' n n'
  flat : flatN (h + 2) n' = flatN (h + 2) n
  len : n'.ks.length = n'.es.length + 1
  wf : ∀ d ∈ n'.ks, wfN (h + 1) 3 7 d
  lo : n.es.length ≤ n'.es.length + 1
  hi : n'.es.length ≤ n.es.length + 1
  hi7 : lc ≤ 7 → n'.es.length ≤ n.es.length
  lo3 : 3 ≤ lc → n.es.length ≤ n'.es.length

/-- What mend is given. -/
structure Torn (h : Nat) (w : World) (n : Nd (Nd (Kid h))) (A B : List (Nd (Kid h))) (c : Nd (Kid h)) (i hi : Nat) : Prop where
  inn : InN w (h + 2) n
  ks : n.ks = A ++ c :: B
  at' : A.length = i
  len : n.ks.length = n.es.length + 1
  top : n.es.length ≤ 20
  wf : ∀ d ∈ A ++ B, wfN (h + 1) 3 7 d
  wfc : wfN (h + 1) 2 hi c

/-- A split mends one that has too many. -/
theorem Torn.split {h hi : Nat} {w w' : World} {n : Nd (Nd (Kid h))} {A B : List (Nd (Kid h))} {c : Nd (Kid h)} {i m : Nat} {x : CE} (ht : Torn h w n A B c i hi) (h8 : 8 ≤ c.es.length) (h15 : hi ≤ 15) (hm : c.es.length / 2 = m) (hx : c.es[m]? = some x) (hs : SplitS h w w' n A B c (n.es.take i) (n.es.drop i) m x) :
    ∃ n' : Nd (Nd (Kid h)), Res (h + 2) w w' n n' ∧ flatN (h + 2) n' = flatN (h + 2) n ∧ n'.ks.length = n'.es.length + 1 ∧ (∀ d ∈ n'.ks, wfN (h + 1) 3 7 d) ∧ n'.es.length = n.es.length + 1 := by
  obtain ⟨n', l, r, hres, he', hk', e1, e2, e3, e4⟩ := hs
  have hin : i ≤ n.es.length := by
    have h1 := ht.len
    rw [ht.ks] at h1
    simp at h1
    have := ht.at'
    omega
  have hc := kid_len ht.wfc
  have h2 : c.es.length ≤ hi := ht.wfc.2.1
  obtain ⟨wl, wr⟩ := wf_parted ht.wfc h8 (by omega) hm e1 e2 e3 e4
  have hlen : n'.es.length = n.es.length + 1 := by rw [he']; simp; omega
  refine ⟨n', hres, flat_split2 ht.ks (List.take_append_drop i n.es).symm (by rw [ht.at', List.length_take]; omega) hk' he' (flat_parted hx hc e1 e2 e3 e4), ?_, fun d hd => ?_, hlen⟩
  · have h3 := ht.len
    rw [ht.ks] at h3
    rw [hlen, hk', ← h3]
    simp
    omega
  · rw [hk'] at hd
    rcases List.mem_append.1 hd with hd | hd
    · exact ht.wf d (List.mem_append_left _ hd)
    · rcases List.mem_cons.1 hd with rfl | hd
      · exact wl
      · rcases List.mem_cons.1 hd with rfl | hd
        · exact wr
        · exact ht.wf d (List.mem_append_right _ hd)

/-- A join of one that has too few and one beside it. -/
theorem join_torn {h : Nat} {w w' : World} {n : Nd (Nd (Kid h))} {A B : List (Nd (Kid h))} {l r : Nd (Kid h)} {E F : List CE} {x : CE} {i : Nat} (hk : n.ks = A ++ l :: r :: B) (hA : A.length = i) (he : n.es = E ++ x :: F) (hE : E.length = i) (hlen : n.ks.length = n.es.length + 1) (htop : n.es.length ≤ 20)
    (hwA : ∀ d ∈ A ++ B, wfN (h + 1) 3 7 d) (hl : wfN (h + 1) 2 7 l) (hr : wfN (h + 1) 2 7 r) (h5 : 5 ≤ l.es.length + r.es.length) (hs : JoinS h w w' n A B l r E F x) :
    ∃ (n' : Nd (Nd (Kid h))) (j : Nd (Kid h)), Res (h + 2) w w' n n' ∧ Torn h w' n' A B j i 15 ∧ flatN (h + 2) n' = flatN (h + 2) n ∧ n'.es.length + 1 = n.es.length ∧ j.es.length = l.es.length + 1 + r.es.length := by
  obtain ⟨n', j, hres, he', hk', e1, e2⟩ := hs
  have hjl : j.es.length = l.es.length + 1 + r.es.length := by rw [e1]; simp; omega
  have l7 : l.es.length ≤ 7 := hl.2.1
  have r7 : r.es.length ≤ 7 := hr.2.1
  have hlen' : n'.es.length + 1 = n.es.length := by rw [he', he]; simp; omega
  refine ⟨n', j, hres, ⟨hres.inn, hk', hA, ?_, by omega, hwA, wf_joined hl hr e1 e2 (by omega) (by omega)⟩, ?_, hlen', hjl⟩
  · rw [hk] at hlen
    rw [hk', hlen', ← Nat.succ_inj (a := (A ++ j :: B).length)]
    simp at hlen ⊢
    omega
  · exact (flat_split2 hk' he' (by rw [hA, hE]) hk he (flat_joined (kid_len hl) e1 e2)).symm

set_option maxRecDepth 100000 in
set_option maxHeartbeats 4000000 in
theorem mend_is (h : Nat) (n : Nd (Nd (Kid h))) (A B : List (Nd (Kid h))) (c : Nd (Kid h)) (i : Nat) (w : World) (ht : Torn h w n A B c i 8) (h1 : 1 ≤ n.es.length) :
    Calls Try.prog 42 #[.pointer (some ⟨n.g, 0, none⟩), .int .i64 (i : Int)] w fun e w' => e = .returned (.tuple #[]) ∧ ∃ n', Mended h w w' n n' c.es.length := by
  have HT := Lib.hid ht
  have hcm : c ∈ n.ks := by rw [ht.ks]; exact List.mem_append_right _ (List.mem_cons_self ..)
  have sn := ht.inn.self
  have sc : SelfN w (kg h) c := (ht.inn.kids.2 c hcm).1
  have hgi : (n.ks.map (kg (h + 1)))[i]? = some c.g := by rw [ht.ks, ← ht.at']; exact map_at (kg (h + 1)) A c B
  obtain ⟨cb, co, hca, k0, _, klt⟩ := kid_at sn.cr hgi
  obtain ⟨N, hN⟩ : ∃ N, n.ks.length = N := ⟨_, rfl⟩
  have hN' : (n.ks.map (kg (h + 1))).length = N := by rw [← hN]; exact List.length_map _
  have hNi : i < N := by rw [← hN', ht.ks, ← ht.at']; exact map_len (kg (h + 1)) A c B
  have hNiz : (i : Int) < (N : Int) := by omega
  have a1 := sn.g1
  have b0 := sc.g0
  rw [hca, hN'] at a1
  obtain ⟨L, hL⟩ : ∃ L, c.es.length = L := ⟨_, rfl⟩
  rw [hL] at b0
  have hN21 : N ≤ 21 := by have := ht.len; have := ht.top; omega
  have HL := Lib.hid hL
  have HN := Lib.hid hN
  by_cases h3 : L < 3
  · have h3z : (L : Int) < 3 := by omega
    -- where the two stand
    obtain ⟨A2, l, r, B2, i2, q1, q2, q3, q4, q5, q6, q7⟩ : ∃ (A2 : List (Nd (Kid h))) (l r : Nd (Kid h)) (B2 : List (Nd (Kid h))) (i2 : Nat), n.ks = A2 ++ l :: r :: B2 ∧ A2.length = i2 ∧ (∀ d ∈ A2 ++ B2, wfN (h + 1) 3 7 d) ∧ wfN (h + 1) 2 7 l ∧ wfN (h + 1) 2 7 r ∧ 5 ≤ l.es.length + r.es.length ∧ (i2 : Int) = max ((i : Int) - 1) 0 := by
      have hcw : wfN (h + 1) 2 7 c := ⟨ht.wfc.1, by show c.es.length ≤ 7; omega, ht.wfc.2.2⟩
      have hc2 : 2 ≤ c.es.length := ht.wfc.1
      rcases List.eq_nil_or_concat A with rfl | ⟨A', l, rfl⟩
      · cases hB : B with
        | nil =>
          have h9 : 1 = n.es.length + 1 := by have h8 := ht.len; rw [ht.ks, hB] at h8; exact h8
          omega
        | cons r B' =>
          have hr := ht.wf r (by rw [hB]; simp)
          have hr3 : 3 ≤ r.es.length := hr.1
          have hi0 : i = 0 := by have := ht.at'; simpa using this.symm
          exact ⟨[], c, r, B', 0, by rw [ht.ks, hB], rfl, fun d hd => ht.wf d (by rw [hB]; simp at hd ⊢; exact .inr hd), hcw, wfN_mono hr (by omega) (Nat.le_refl _), by omega, by omega⟩
      · rw [List.concat_eq_append] at *
        have hl := ht.wf l (by simp)
        have hl3 : 3 ≤ l.es.length := hl.1
        have hi0 : A'.length + 1 = i := by have := ht.at'; simpa using this
        exact ⟨A', l, c, B, A'.length, by rw [ht.ks]; simp, rfl, fun d hd => ht.wf d (by simp at hd ⊢; rcases hd with h9 | h9 <;> simp [h9]), wfN_mono hl (by omega) (Nat.le_refl _), hcw, by omega, by omega⟩
    have hi2 : i2 < n.es.length := by
      have h9 : A2.length + 2 + B2.length = n.es.length + 1 := by rw [← app_len2 A2 l r B2, ← q1]; exact ht.len
      rw [q2] at h9
      omega
    obtain ⟨x, hx⟩ : ∃ x, n.es[i2]? = some x := ⟨n.es[i2], by simp [hi2]⟩
    have hes := take_mid hx
    have htl : (n.es.take i2).length = i2 := by rw [List.length_take]; omega
    have l7 : l.es.length ≤ 7 := q4.2.1
    have r7 : r.es.length ≤ 7 := q5.2.1
    have lk := kid_klen q4
    have rk := kid_klen q5
    have htop := ht.top
    have hj := join_is h n A2 B2 l r (n.es.take i2) (n.es.drop (i2 + 1)) i2 x w ht.inn q1 q2 hes htl (by omega) (by omega) (by omega) (by have := ht.len; omega) (by omega) (by omega)
    have HJ := Lib.hid hj
    have HQ := Lib.hid (And.intro q1 (And.intro q2 (And.intro q3 (And.intro q4 (And.intro q5 (And.intro q6 (And.intro hes htl)))))))
    have hq7 := q7.symm
    have hmx : IntKind.i64.wrap ((i : Int) - 1) = (i : Int) - 1 := by rw [IntKind.wrap_i64]; omega
    clear q1 q2 q3 q4 q5 q6 q7 hes htl hx hj ht hcm sn sc hgi hN hN' hL hca l7 r7 lk rk
    go_enter Try.func42, Try.ntmps42
    go_wp2_with fail
    refine (show Calls Try.prog _ _ _ _ from HJ.out).mono ?_
    rintro e w5 ⟨rfl, hS⟩
    obtain ⟨q1, q2, q3, q4, q5, q6, hes, htl⟩ := HQ.out
    obtain ⟨n5, j, hres, ht5, hfl, hln, hjl⟩ := join_torn q1 q2 hes htl HT.out.len HT.out.top q3 q4 q5 q6 hS
    have HT5 := Lib.hid ht5
    have HR5 := Lib.hid (And.intro hres (And.intro hfl (And.intro hln hjl)))
    have hg5 : n.g = n5.g := by have : kg (h + 2) n5 = kg (h + 2) n := hres.g; exact this.symm
    rw [hg5]
    clear hres ht5 hfl hln hjl hS q1 q2 q3 q4 q5 q6 hes htl hg5 a1 b0 k0 klt hNi hNiz hN21 HN hmx
    obtain ⟨Lc, hLc⟩ : ∃ Lc, j.es.length = Lc := ⟨_, rfl⟩
    have hcm : j ∈ n5.ks := by rw [HT5.out.ks]; exact List.mem_append_right _ (List.mem_cons_self ..)
    have sn := HT5.out.inn.self
    have sc : SelfN w5 (kg h) j := (HT5.out.inn.kids.2 j hcm).1
    have hgi : (n5.ks.map (kg (h + 1)))[i2]? = some j.g := by rw [HT5.out.ks, ← HT5.out.at']; exact map_at (kg (h + 1)) A2 j B2
    obtain ⟨cb, co, hca, k0, _, klt⟩ := kid_at sn.cr hgi
    obtain ⟨N, hN⟩ : ∃ N, n5.ks.length = N := ⟨_, rfl⟩
    have hN' : (n5.ks.map (kg (h + 1))).length = N := by rw [← hN]; exact List.length_map _
    have hNi : i2 < N := by rw [← hN', HT5.out.ks, ← HT5.out.at']; exact map_len (kg (h + 1)) A2 j B2
    have hNiz : (i2 : Int) < (N : Int) := by omega
    have a1 := sn.g1
    have b0 := sc.g0
    rw [hca, hN'] at a1
    rw [hLc] at b0
    have HLc := Lib.hid hLc
    by_cases h7 : 7 < Lc
    · have h7z : (7 : Int) < (Lc : Int) := by omega
      obtain ⟨x, hx⟩ : ∃ x, j.es[Lc / 2]? = some x := ⟨j.es[Lc / 2]'(by omega), by simp⟩
      have hcw := HT5.out.wfc
      have hc15 : j.es.length ≤ 15 := hcw.2.1
      have hin : i2 ≤ n5.es.length := by have := HT5.out.len; omega
      have htop := HT5.out.top
      have hsp := split_is h n5 A2 B2 j (n5.es.take i2) (n5.es.drop i2) i2 (Lc / 2) x w5 HT5.out.inn HT5.out.ks HT5.out.at' (List.take_append_drop _ _).symm (by rw [List.length_take]; omega) (by omega) (by omega) (by omega) (by have := HT5.out.len; omega) (kid_len hcw) (by rw [hLc]) hx
      have HSP := Lib.hid hsp
      have HX := Lib.hid hx
      clear hsp hx hcw hc15 hin htop hcm sn sc hgi hN hN' hLc hca
      go_wp2_with fail
      refine (show Calls Try.prog _ _ _ _ from HSP.out).mono ?_
      rintro e w9 ⟨rfl, hS⟩
      obtain ⟨n9, r1, r2, r3, r4, r5⟩ := HT5.out.split (by have := HLc.out; omega) (by omega) (by rw [HLc.out]) HX.out hS
      have HR := Lib.hid (And.intro r1 (And.intro r2 (And.intro r3 (And.intro r4 r5))))
      clear r1 r2 r3 r4 r5 hS a1 b0 k0
      go_wp2_with fail
      go_end0
      obtain ⟨r1, r2, r3, r4, r5⟩ := HR.out
      refine ⟨rfl, n9, ⟨HR5.out.1.trans r1, r2.trans HR5.out.2.1, r3, r4, ?_, ?_, fun _ => ?_, fun hl => ?_⟩⟩
      · have := HR5.out.2.2.1; omega
      · have := HR5.out.2.2.1; omega
      · have := HR5.out.2.2.1; omega
      · have := HL.out; omega
    · have h7z : ¬ (7 : Int) < (Lc : Int) := by omega
      clear hcm sn sc hgi hN hN' hLc hca
      go_wp2_with fail
      go_end0
      have h3' : 3 ≤ Lc := by have := HR5.out.2.2.2; have := HQ.out.2.2.2.2.2.1; have := HLc.out; omega
      refine ⟨rfl, n5, ⟨HR5.out.1, HR5.out.2.1, HT5.out.len, fun d hd => ?_, ?_, ?_, fun _ => ?_, fun hl => ?_⟩⟩
      · rw [HT5.out.ks] at hd
        rcases List.mem_append.1 hd with hd | hd
        · exact HT5.out.wf d (List.mem_append_left _ hd)
        · rcases List.mem_cons.1 hd with rfl | hd
          · exact ⟨by show 3 ≤ d.es.length; have := HLc.out; omega, by show d.es.length ≤ 7; have := HLc.out; omega, HT5.out.wfc.2.2⟩
          · exact HT5.out.wf d (List.mem_append_right _ hd)
      · have := HR5.out.2.2.1; omega
      · have := HR5.out.2.2.1; omega
      · have := HR5.out.2.2.1; omega
      · have := HL.out; omega
  · have h3z : ¬ (L : Int) < 3 := by omega
    clear ht hcm sn sc hgi hN hN' hL hca
    go_enter Try.func42, Try.ntmps42
    go_upto_region 3 with (fail)
    clear a1 b0 k0 klt hNi hNiz hN21 HN
    obtain ⟨Lc, hLc⟩ : ∃ Lc, c.es.length = Lc := ⟨_, rfl⟩
    have hcm : c ∈ n.ks := by rw [HT.out.ks]; exact List.mem_append_right _ (List.mem_cons_self ..)
    have sn := HT.out.inn.self
    have sc : SelfN w (kg h) c := (HT.out.inn.kids.2 c hcm).1
    have hgi : (n.ks.map (kg (h + 1)))[i]? = some c.g := by rw [HT.out.ks, ← HT.out.at']; exact map_at (kg (h + 1)) A c B
    obtain ⟨cb, co, hca, k0, _, klt⟩ := kid_at sn.cr hgi
    obtain ⟨N, hN⟩ : ∃ N, n.ks.length = N := ⟨_, rfl⟩
    have hN' : (n.ks.map (kg (h + 1))).length = N := by rw [← hN]; exact List.length_map _
    have hNi : i < N := by rw [← hN', HT.out.ks, ← HT.out.at']; exact map_len (kg (h + 1)) A c B
    have hNiz : (i : Int) < (N : Int) := by omega
    have a1 := sn.g1
    have b0 := sc.g0
    rw [hca, hN'] at a1
    rw [hLc] at b0
    have HLc := Lib.hid hLc
    by_cases h7 : 7 < Lc
    · have h7z : (7 : Int) < (Lc : Int) := by omega
      obtain ⟨x, hx⟩ : ∃ x, c.es[Lc / 2]? = some x := ⟨c.es[Lc / 2]'(by omega), by simp⟩
      have hcw := HT.out.wfc
      have hc15 : c.es.length ≤ 8 := hcw.2.1
      have hin : i ≤ n.es.length := by have := HT.out.len; omega
      have htop := HT.out.top
      have hsp := split_is h n A B c (n.es.take i) (n.es.drop i) i (Lc / 2) x w HT.out.inn HT.out.ks HT.out.at' (List.take_append_drop _ _).symm (by rw [List.length_take]; omega) (by omega) (by omega) (by omega) (by have := HT.out.len; omega) (kid_len hcw) (by rw [hLc]) hx
      have HSP := Lib.hid hsp
      have HX := Lib.hid hx
      clear hsp hx hcw hc15 hin htop hcm sn sc hgi hN hN' hLc hca
      go_wp2_with fail
      refine (show Calls Try.prog _ _ _ _ from HSP.out).mono ?_
      rintro e w9 ⟨rfl, hS⟩
      obtain ⟨n9, r1, r2, r3, r4, r5⟩ := HT.out.split (by have := HLc.out; omega) (by omega) (by rw [HLc.out]) HX.out hS
      have HR := Lib.hid (And.intro r1 (And.intro r2 (And.intro r3 (And.intro r4 r5))))
      clear r1 r2 r3 r4 r5 hS a1 b0 k0
      go_wp2_with fail
      go_end0
      obtain ⟨r1, r2, r3, r4, r5⟩ := HR.out
      refine ⟨rfl, n9, ⟨r1, r2, r3, r4, by omega, by omega, fun hl => ?_, fun _ => by omega⟩⟩
      have := HLc.out; omega
    · have h7z : ¬ (7 : Int) < (Lc : Int) := by omega
      clear hcm sn sc hgi hN hN' hLc hca
      go_wp2_with fail
      go_end0
      refine ⟨rfl, n, ⟨Res.of_below HT.out.inn (Below.refl _ _), rfl, HT.out.len, fun d hd => ?_, by omega, by omega, fun _ => Nat.le_refl _, fun _ => Nat.le_refl _⟩⟩
      rw [HT.out.ks] at hd
      rcases List.mem_append.1 hd with hd | hd
      · exact HT.out.wf d (List.mem_append_left _ hd)
      · rcases List.mem_cons.1 hd with rfl | hd
        · exact ⟨by show 3 ≤ d.es.length; have := HL.out; omega, by show d.es.length ≤ 7; have := HLc.out; omega, HT.out.wfc.2.2⟩
        · exact HT.out.wf d (List.mem_append_right _ hd)

end Go.Proofs.Ytfikaccgpjiedaa

/-
  A tree of nodes, its keys, its order; what becomes of it when a child becomes another one.
-/
namespace Go.Proofs.Ytfikaccgpjiedaa
open Go.RowKit Go.Lib

/-- An entry's key lies in a block of K; its number is one; it is not too long. -/
def KOk (K : Nat → Prop) (W : World) (x : CE) : Prop := SlG K W x.a x.c x.e.key ∧ I64 x.e.id ∧ x.e.key.length ≤ 1000000
theorem KOk.stay {K : Nat → Prop} {W W' : World} {x : CE} (h : KOk K W x) (hs : Stay K W W') : KOk K W' x := ⟨h.1.stay hs, h.2⟩
theorem KOk.mono {K K' : Nat → Prop} {W : World} {x : CE} (h : KOk K W x) (hK : ∀ k, K k → K' k) : KOk K' W x := ⟨h.1.mono (fun k _ hk => hK k hk), h.2⟩

def entN (h : Nat) (n : Kid h) : List Ent := entsC (flatN h n)

/-- A node's tree: it lies in memory, is well formed, rises; its keys lie in K, and none of its cells does. -/
structure Tree (h lo hi : Nat) (W : World) (K : Nat → Prop) (n : Kid h) : Prop where
  inn : InN W h n
  wf : wfN h lo hi n
  srt : Srt ltE (entN h n)
  key : ∀ x ∈ flatN h n, KOk K W x
  dis : ∀ k p, foot h n k p → ¬ K k
  klt : ∀ k, K k → k < W.heap.size

theorem Tree.below {h lo hi : Nat} {W W' : World} {K : Nat → Prop} {n : Kid h} (t : Tree h lo hi W K n) (hb : Below W.heap.size W W') : Tree h lo hi W' K n :=
  ⟨t.inn.below hb, t.wf, t.srt, fun x hx => (t.key x hx).stay (Stay.of_below hb), t.dis, fun k hk => Nat.lt_of_lt_of_le (t.klt k hk) hb.size⟩

theorem entN_leaf (n : Nd (Kid 0)) : entN 1 n = entsC n.es := rfl
theorem weave_map {α β : Type} (f : α → β) : ∀ (cs : List (List α)) (es : List α), (weave cs es).map f = weave (cs.map (List.map f)) (es.map f)
  | [], _ => rfl
  | c :: cs, [] => rfl
  | c :: cs, e :: es => by simp [weave, weave_map f cs es]
theorem entN_node (h : Nat) (n : Nd (Kid (h + 1))) : entN (h + 2) n = weave (n.ks.map (entN (h + 1))) (entsC n.es) := by
  show (weave (n.ks.map (flatN (h + 1))) n.es).map CE.e = _
  rw [weave_map, List.map_map]
  rfl

/-- What a child holds, of what the node holds. -/
theorem mem_kid {h : Nat} {n : Nd (Kid (h + 1))} (hl : n.ks.length = n.es.length + 1) {x : CE} : x ∈ flatN (h + 2) n ↔ x ∈ n.es ∨ ∃ c ∈ n.ks, x ∈ flatN (h + 1) c := by
  rw [flatN_node, mem_weave (by rw [List.length_map]; exact hl)]
  simp only [List.mem_map]
  constructor
  · rintro (h1 | ⟨_, ⟨c, hc, rfl⟩, h1⟩)
    · exact .inl h1
    · exact .inr ⟨c, hc, h1⟩
  · rintro (h1 | ⟨c, hc, h1⟩)
    · exact .inl h1
    · exact .inr ⟨_, ⟨c, hc, rfl⟩, h1⟩

theorem Tree.len {h lo hi : Nat} {W : World} {K : Nat → Prop} {n : Nd (Kid (h + 1))} (t : Tree (h + 2) lo hi W K n) : n.ks.length = n.es.length + 1 := t.wf.2.2.1 (by omega)

theorem Tree.kid {h lo hi : Nat} {W : World} {K : Nat → Prop} {n : Nd (Kid (h + 1))} (t : Tree (h + 2) lo hi W K n) {c : Kid (h + 1)} {i : Nat} (hc : n.ks[i]? = some c) : Tree (h + 1) 3 7 W K c := by
  have hm := List.mem_of_getElem? hc
  refine ⟨t.inn.kids.2 c hm, t.wf.2.2.2 c hm, ?_, fun x hx => t.key x ((mem_kid t.len).2 (.inr ⟨c, hm, hx⟩)), fun k p hf => t.dis k p (.inr ⟨c, hm, hf⟩), t.klt⟩
  have hs := t.srt
  rw [entN_node] at hs
  exact (srt_parts (i := i) (by rw [List.length_map]; simp [entsC]; exact t.len) hs (by simp [hc])).1

/-- The node's own entries rise. -/
theorem Tree.srtE {h lo hi : Nat} {W : World} {K : Nat → Prop} {n : Nd (Kid h)} (t : Tree (h + 1) lo hi W K n) : Srt ltE (entsC n.es) := by
  cases h with
  | zero => exact t.srt
  | succ h =>
    have hs := t.srt
    rw [entN_node] at hs
    exact srt_entries (by rw [List.length_map]; simp [entsC]; exact t.len) hs
theorem Tree.keyE {h lo hi : Nat} {W : World} {K : Nat → Prop} {n : Nd (Kid h)} (t : Tree (h + 1) lo hi W K n) : ∀ x ∈ n.es, KOk K W x := by
  cases h with
  | zero => exact t.key
  | succ h => exact fun x hx => t.key x ((mem_kid t.len).2 (.inl hx))

/-- What a child's keys are behind a step, the others being as they were. -/
theorem keys_kid {h : Nat} {W W' : World} {K K' : Nat → Prop} {n : Nd (Kid (h + 1))} {A B : List (Kid (h + 1))} {c c' : Kid (h + 1)} (hl : n.ks.length = n.es.length + 1) (hk : n.ks = A ++ c :: B) (hkey : ∀ x ∈ flatN (h + 2) n, KOk K W x) (hs : Stay K W W') (hKK : ∀ k, K k → K' k) (hc' : ∀ x ∈ flatN (h + 1) c', KOk K' W' x) :
    ∀ x ∈ flatN (h + 2) ({ n with ks := A ++ c' :: B } : Nd (Kid (h + 1))), KOk K' W' x := by
  have hl' : ({ n with ks := A ++ c' :: B } : Nd (Kid (h + 1))).ks.length = ({ n with ks := A ++ c' :: B } : Nd (Kid (h + 1))).es.length + 1 := by
    rw [← hl, hk]; simp
  intro x hx
  rcases (mem_kid hl').1 hx with h1 | ⟨d, hd, h1⟩
  · exact ((hkey x ((mem_kid hl).2 (.inl h1))).stay hs).mono hKK
  · have hd' : d ∈ A ++ c' :: B := hd
    rcases List.mem_append.1 hd' with hd' | hd'
    · exact ((hkey x ((mem_kid hl).2 (.inr ⟨d, by rw [hk]; exact List.mem_append_left _ hd', h1⟩))).stay hs).mono hKK
    · rcases List.mem_cons.1 hd' with rfl | hd'
      · exact hc' x h1
      · exact ((hkey x ((mem_kid hl).2 (.inr ⟨d, by rw [hk]; exact List.mem_append_right _ (List.mem_cons_of_mem _ hd'), h1⟩))).stay hs).mono hKK

theorem dis_kid {h : Nat} {W : World} {K K' : Nat → Prop} {n : Nd (Kid h)} {A B : List (Kid h)} {c c' : Kid h} (hin : InN W (h + 1) n) (hk : n.ks = A ++ c :: B) (hd : ∀ k p, foot (h + 1) n k p → ¬ K k) (hK' : ∀ k, K' k → K k ∨ W.heap.size ≤ k) (hc' : ∀ k p, foot h c' k p → ¬ K' k) :
    ∀ k p, foot (h + 1) ({ n with ks := A ++ c' :: B } : Nd (Kid h)) k p → ¬ K' k := by
  have old : ∀ k p, foot (h + 1) n k p → ¬ K' k := fun k p hf hk' => by
    rcases hK' k hk' with h1 | h1
    · exact hd k p hf h1
    · have := hin.lt k p hf; omega
  rintro k p (hf | ⟨d, hd', hf⟩) hk'
  · exact old k p (.inl hf) hk'
  · have hd2 : d ∈ A ++ c' :: B := hd'
    rcases List.mem_append.1 hd2 with hd2 | hd2
    · exact old k p (.inr ⟨d, by rw [hk]; exact List.mem_append_left _ hd2, hf⟩) hk'
    · rcases List.mem_cons.1 hd2 with rfl | hd2
      · exact hc' k p hf hk'
      · exact old k p (.inr ⟨d, by rw [hk]; exact List.mem_append_right _ (List.mem_cons_of_mem _ hd2), hf⟩) hk'

/-- Keys stay whatever the node's cells become. -/
theorem Tree.stayK {h lo hi : Nat} {W W' : World} {K : Nat → Prop} {n : Kid h} (t : Tree h lo hi W K n) (ht : TouchC (foot h n) W W') : Stay K W W' := ht.stay fun k p hk hf => t.dis k p hf hk

/-- A step that makes no keys. -/
theorem Res.disK {h : Nat} {W W' : World} {K : Nat → Prop} {n n' : Kid h} (r : Res h W W' n n') (hd : ∀ k p, foot h n k p → ¬ K k) (hlt : ∀ k, K k → k < W.heap.size) : ∀ k p, foot h n' k p → ¬ K k := fun k p hf hk => by
  rcases r.ft k p hf with h1 | h1
  · exact hd k p h1 hk
  · have := hlt k hk; unfold Fr at h1; omega

/-- Where child i stands. -/
theorem kid_cut {κ : Type} {ks : List κ} {i : Nat} {c : κ} (h : ks[i]? = some c) : ks = ks.take i ++ c :: ks.drop (i + 1) ∧ (ks.take i).length = i :=
  ⟨cut_at h, by have := (List.getElem?_eq_some_iff.1 h).1; rw [List.length_take]; omega⟩

theorem map_set_cut {α β : Type} (f : α → β) {ks : List α} {i : Nat} {c c' : α} (h : ks[i]? = some c) : (ks.take i ++ c' :: ks.drop (i + 1)).map f = (ks.map f).set i (f c') := by
  have hi := (List.getElem?_eq_some_iff.1 h).1
  rw [List.set_eq_take_append_cons_drop, if_pos (by rw [List.length_map]; exact hi)]
  simp

/-- Where an entry belongs among a leaf's. -/
theorem ins_at {l : List Ent} {x : Ent} {i : Nat} (hs : Srt ltE l) (hh : Here ltE l x i) (hne : l[i]? ≠ some x) : insS ltE x l = l.take i ++ x :: l.drop i := by
  have hm := here_more sloE hs hh hne
  conv => lhs; rw [← List.take_append_drop i l]
  rw [insS_left x _ _ (fun y hy => ?_), insS_front sloE x _ (fun y hy => ?_)]
  · obtain ⟨j, hj⟩ := List.getElem?_of_mem hy
    rw [List.getElem?_drop] at hj
    exact hm (i + j) y (by omega) hj
  · obtain ⟨j, hj⟩ := List.getElem?_of_mem hy
    rw [List.getElem?_take] at hj
    split at hj
    · next h => exact hh.2.1 j y h hj
    · cases hj
theorem not_at {l : List Ent} {x : Ent} {i : Nat} (hs : Srt ltE l) (hh : Here ltE l x i) (hne : l[i]? ≠ some x) : x ∉ l := fun hx => by
  obtain ⟨j, hj⟩ := List.getElem?_of_mem hx
  by_cases hji : j < i
  · have := hh.2.1 j x hji hj
    rw [sloE.irrefl] at this
    cases this
  · have := here_more sloE hs hh hne j x (by omega) hj
    rw [sloE.irrefl] at this
    cases this

end Go.Proofs.Ytfikaccgpjiedaa

