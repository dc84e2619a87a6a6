/-
  sight's Own: walked (stage 12).
-/
import Derived.Test.YtbgnbaogclnpgaaMVer
namespace Go.Proofs.Ytbgnbaogclnpgaa
open Go.RowKit
set_option linter.unusedVariables false

theorem TV.ptr {w : World} {v : Value} {T : Tb} (h : TV w v T) : ∃ q, v = .pointer q := by
  rcases h with ⟨t, F, e, h1, h2⟩ | ⟨e, h1⟩
  · exact ⟨_, e⟩
  · exact ⟨_, e⟩

/-- A version in a block just made. -/
def layT (x : VerE) (W : World) : World := W.alloc (.cells #[.int .i64 x.2.1.no, .int .i64 x.2.1.id, .int .i64 x.2.1.mn, .int .i64 x.2.1.cm, .int .i64 x.2.1.mx, .int .i64 x.2.1.cx, .slice x.2.2.1 x.2.2.2.1 x.2.2.2.2] 61)
theorem layT_below (x : VerE) (W : World) : Below W.heap.size W (layT x W) := Below.allocs _ _

/-- What is handed over is a version of the row. -/
theorem tw_wf {A : Ab} (hA : A.Ok) {x y : Int} {p : List VerE} {e : VerE} (h : tw (p ++ [e]) <+: (A.vs x y).reverse) : e.2.1.wf ∧ (e.1, e.2.1) ∈ A.vs x y := by
  have h1 : (e.1, e.2.1) ∈ A.vs x y := by
    rw [tw_app] at h
    exact List.mem_reverse.1 (h.subset (List.mem_append_right _ (List.mem_singleton.2 rfl)))
  exact ⟨(hA.wf _ (List.mem_filter.1 h1).1).1, h1⟩

/-- What Own keeps between turns. -/
structure OwnI (w : World) (T : Tb) (e h : Nat) (x y : Int) (b0 : Nat) (q : Option Addr) (a m : Int) (r : Bool) (f : Bool) (p : List VerE) (W : World) : Prop where
  bel : Below w.heap.size w W
  cau : CauV W e h x y
  bx : Lit W b0 27 [.pointer q]
  bv : Lit W (b0 + 1) 34 [.int .i64 a, .int .i64 m]
  br : Lit W (b0 + 1 + 1) 4 [.bool r]
  is : ((tw p).any fun u => ownP T m u.2) = f

theorem OwnI.old {w : World} {T : Tb} {e h b0 n0 : Nat} {x y a m : Int} {q : Option Addr} {r f : Bool} (hw : w.heap.size ≤ n0) (he : e + 2 < n0) (hb : b0 + 1 + 1 < n0) : OldP n0 (OwnI w T e h x y b0 q a m r f) := by
  intro p W W' H hb'
  have hst : Stay (fun k => k < n0) W W' := ⟨hb'.size, fun k _ hk => hb'.block k hk⟩
  exact ⟨H.bel.trans (hb'.mono hw), ⟨H.cau.ph.stay hst (by omega), H.cau.px.stay hst (by omega), H.cau.py.stay hst (by omega)⟩, H.bx.stay hst (by omega), H.bv.stay hst (by omega), H.br.stay hst hb, H.is⟩
theorem OwnI.below {w : World} {T : Tb} {e h b0 : Nat} {x y a m : Int} {q : Option Addr} {r f f' : Bool} {p p' : List VerE} {W W' : World} (H : OwnI w T e h x y b0 q a m r f p W) (hb : Below W.heap.size W W') (hf : ((tw p').any fun u => ownP T m u.2) = f') : OwnI w T e h x y b0 q a m r f' p' W' :=
  ⟨H.bel.trans (hb.mono H.bel.size), H.cau.below hb, H.bx.below hb, H.bv.below hb, H.br.below hb, hf⟩

section
attribute [local go_sem] Oper.semAt_some

set_option maxRecDepth 100000 in
set_option maxHeartbeats 4000000 in
theorem vown_is (w : World) (h z : Nat) (A : Ab) (F : Nat → Prop) (v : Value) (T : Tb) (a m x y : Int) (hx : I64 x) (hy : I64 y) (hz : z ≤ 90000) (H : Std w h A z F) (hT : TV w v T) (b : Bool) (hb : ownR T m (A.vs x y) = b) :
    Calls Try.prog 21 #[.pointer (some ⟨h, 0, none⟩), v, vw a m, .int .i64 x, .int .i64 y] w fun r w' => r = .returned (.bool b) ∧ Below w.heap.size w w' := by
  have mixed : Try.prog.follows Departure.mixedOrders = true := by kernel_rfl
  obtain ⟨q, rfl⟩ := hT.ptr
  obtain ⟨b0, hb0⟩ : ∃ b, w.heap.size = b := ⟨_, rfl⟩
  obtain ⟨V, hV⟩ : ∃ V, ((w.alloc (.cells #[.pointer q] 27)).alloc (.cells #[.int .i64 a, .int .i64 m] 34)).alloc (.cells #[.bool false] 4) = V := ⟨_, rfl⟩
  have l0 := Lit.new w 27 [.pointer q]
  have c0 := Below.allocs w (.cells #[.pointer q] 27)
  have l1 := Lit.new (w.alloc (.cells #[.pointer q] 27)) 34 [.int .i64 a, .int .i64 m]
  have c1 := Below.allocs (w.alloc (.cells #[.pointer q] 27)) (.cells #[.int .i64 a, .int .i64 m] 34)
  have l2 := Lit.new ((w.alloc (.cells #[.pointer q] 27)).alloc (.cells #[.int .i64 a, .int .i64 m] 34)) 4 [.bool false]
  have c2 := Below.allocs ((w.alloc (.cells #[.pointer q] 27)).alloc (.cells #[.int .i64 a, .int .i64 m] 34)) (.cells #[.bool false] 4)
  have e1 : (w.alloc (.cells #[.pointer q] 27)).heap.size = b0 + 1 := by simp [hb0]
  have e2 : ((w.alloc (.cells #[.pointer q] 27)).alloc (.cells #[.int .i64 a, .int .i64 m] 34)).heap.size = b0 + 1 + 1 := by simp [hb0]
  have l0' := (l0.below c1).below c2
  have l1' := l1.below c2
  have hbV := below_tr (below_tr c0 c1) c2
  rw [e1] at l1'
  rw [e2] at l2
  rw [hb0] at l0'
  have l0'' : Lit V b0 27 [.pointer q] := by rw [← hV]; exact l0'
  have l1'' : Lit V (b0 + 1) 34 [.int .i64 a, .int .i64 m] := by rw [← hV]; exact l1'
  have l2'' : Lit V (b0 + 1 + 1) 4 [.bool false] := by rw [← hV]; exact l2
  have hbV' : Below w.heap.size w V := by rw [← hV]; exact hbV
  have hver := versions_is V h x y
  have HVER := Lib.hid hver
  have HL := Lib.hid (And.intro l0'' (And.intro l1'' l2''))
  have HBV := Lib.hid hbV'
  have HS := Lib.hid H
  have HT := Lib.hid hT
  have HB := Lib.hid hb
  have HXY := Lib.hid (And.intro hx (And.intro hy hz))
  have HSZ : Hid (V.heap.size = b0 + 1 + 1 + 1 ∧ w.heap.size = b0) := Lib.hid ⟨by rw [← hV]; simp [hb0], hb0⟩
  clear l0 c0 l1 c1 l2 c2 e1 e2 l0' l1' hbV l0'' l1'' l2'' hbV' hver H hT hb hx hy hz
  unfold vw
  refine (callsIn_wide (n := 1)).1 ?_
  refine callsIn_of_wp_marks Try.func21 rfl trivial ?_ rfl
  simp only [Try.ntmps21, List.size_toArray, List.length_cons, List.length_nil, Nat.reduceAdd, Nat.reduceSub, Array.replicate_succ, Array.replicate_zero, List.push_toArray, List.append_toArray, List.nil_append, List.cons_append]
  refine wpIn_wide.2 ?_
  go_upto_region 1 with (fail)
  clear hV hb0
  go_wp2_with fail
  refine HVER.out.mono ?_
  rintro r w1 ⟨rfl, hc1, hb1⟩
  obtain ⟨e, he⟩ : ∃ e, V.heap.size = e := ⟨_, rfl⟩
  rw [he] at hc1
  have hsz1 : e + 2 < w1.heap.size := hc1.py.lt
  have HI : Hid (∀ f, f = false → OwnI w T e h x y b0 q a m false f [] w1) := Lib.hid (fun f hf => ⟨below_tr HBV.out hb1, hc1, HL.out.1.below hb1, HL.out.2.1.below hb1, HL.out.2.2.below hb1, hf.symm⟩)
  have HE : Hid (w.heap.size ≤ w1.heap.size ∧ e + 2 < w1.heap.size ∧ b0 + 1 + 1 < w1.heap.size ∧ V.heap.size ≤ w1.heap.size) := Lib.hid ⟨by have := HSZ.out; omega, hsz1, by have := HSZ.out; omega, by omega⟩
  have HECAU : Hid (b0 + 1 + 1 < e) := Lib.hid (by have := HSZ.out; omega)
  simp only [he]
  clear hc1 hb1 hsz1 HVER he
  unfold verV
  go_wp2_with fail
  refine (wpIn_wide (n := 1)).1 ?_
  refine wpIn_rangeS (enc := encT) (fun p => tw p <+: (A.vs x y).reverse) (fun S => tw S = (A.vs x y).reverse) (fun S => tw S <+: (A.vs x y).reverse) (OwnI w T e h x y b0 q a m false false) (OwnI w T e h x y b0 q a m true true) (fun _ W => Std W h A z F ∧ CauV W e h x y) (OwnI.old HE.out.1 HE.out.2.1 HE.out.2.2.1) (OwnI.old HE.out.1 HE.out.2.1 HE.out.2.2.1) (fun _ _ hI => ⟨HS.out.below hI.bel, hI.cau⟩) (HI.out false rfl) rfl ver_enters (fun _ => rfl) layT layT_below .ret .ret (.inl ⟨rfl, rfl⟩) ?round ?call ?done ?stop
  case round =>
    intro l2 xx p W3 hl2 hs3 hI hOk
    obtain ⟨h1, h2⟩ := tw_wf HS.out.ok hOk
    obtain ⟨slot, t, sa, rn, sc⟩ := xx
    simp only [encT, tupV]
    gi_wp2
    refine ⟨rfl, fun W4 hI4 hk4 hs4 => ?_⟩
    have hk4' := hk4 W3.heap.size (by omega)
    have lt0 := Lit.new W3 61 [.int .i64 t.no, .int .i64 t.id, .int .i64 t.mn, .int .i64 t.cm, .int .i64 t.mx, .int .i64 t.cx, .slice sa rn sc]
    have lt4 : Lit W4 W3.heap.size 61 [.int .i64 t.no, .int .i64 t.id, .int .i64 t.mn, .int .i64 t.cm, .int .i64 t.mx, .int .i64 t.cx, .slice sa rn sc] := hk4'.trans lt0
    obtain ⟨g, hg⟩ : ∃ g, W3.heap.size = g := ⟨_, rfl⟩
    rw [hg] at lt4
    simp only [hg]
    obtain ⟨c1, hc1⟩ : ∃ c, T.ownB m t.mn = c := ⟨_, rfl⟩
    obtain ⟨c2, hc2⟩ : ∃ c, T.ownB m t.mx = c := ⟨_, rfl⟩
    have hany : ∀ f, (c1 || c2) = f → ((tw (p ++ [(slot, t, sa, rn, sc)])).any fun u => ownP T m u.2) = f := fun f hf => by
      rw [tw_app, List.any_append, hI4.is]
      simp only [List.any_cons, List.any_nil, Bool.or_false, Bool.false_or]
      unfold ownP
      rw [hc1, hc2]
      exact hf
    have HANY := Lib.hid hany
    have HI4 := Lib.hid hI4
    have HC1 := Lib.hid hc1
    have HC2 := Lib.hid hc2
    have HLT := Lib.hid lt4
    have HW := Lib.hid (And.intro h1.mn h1.mx)
    have d2 := lt4.cell (o := 2) rfl
    have dl := lt4.lt
    have x0 := hI4.bx.cell (o := 0) rfl
    have v0 := hI4.bv.cell (o := 0) rfl
    have v1 := hI4.bv.cell (o := 1) rfl
    have xl := hI4.bx.lt
    have vl := hI4.bv.lt
    have hcon := own_is W4 (.pointer q) T a m t.mn HW.out.1 (HT.out.below hI4.bel) c1 hc1
    unfold vw at hcon
    have HCON := Lib.hid hcon
    clear hk4 hs4 hk4' lt0 lt4 hg hI4 hc1 hc2 h1 h2 hOk hI hs3 hl2 hany hcon
    have hfin : ∀ (w5 : World), Below W4.heap.size W4 w5 → (c1 || c2) = true → Touch (fun k => k < w1.heap.size) W4 (w5.setCell ⟨b0 + 1 + 1, 0, none⟩ (.bool true)) ∧ OwnI w T e h x y b0 q a m true true (p ++ [(slot, t, sa, rn, sc)]) (w5.setCell ⟨b0 + 1 + 1, 0, none⟩ (.bool true)) := fun w5 hb hf => by
      have ht := Touch.setCell w5 (F := fun k => k = b0 + 1 + 1) rfl 0 (.bool true)
      have hb2 := HI4.out.bel.trans (hb.mono HI4.out.bel.size)
      have hst := ht.stay (G := fun k => k ≠ b0 + 1 + 1) (fun k hk => hk)
      have hsz := HSZ.out
      refine ⟨(Touch.of_below hb).trans ht (fun k _ hk => by have h1 : k = b0 + 1 + 1 := hk; have := HE.out.2.2.1; show k < w1.heap.size; omega), ?_⟩
      have hI5 := HI4.out.below (p' := p) hb HI4.out.is
      have hlt := HECAU.out
      exact ⟨hb2.trans (ht.below (fun k hk => by have h1 : k = b0 + 1 + 1 := hk; omega) hb2.size), ⟨hI5.cau.ph.stay hst (by omega), hI5.cau.px.stay hst (by omega), hI5.cau.py.stay hst (by omega)⟩, hI5.bx.stay hst (by omega), hI5.bv.stay hst (by omega), hI5.br.set 0 _, HANY.out true hf⟩
    have HFIN := Lib.hid hfin
    clear hfin
    gi_wp2_with fail
    refine ⟨trivial, rfl, CallsIn.mono (RX.callsIn_at (r := some l2) HCON.out) ?_⟩
    rintro r w5 ⟨rfl, hb5⟩
    have HI5 := Lib.hid (HI4.out.below (p' := p) hb5 HI4.out.is)
    have HB5 := Lib.hid hb5
    clear d2 dl x0 v0 v1 xl vl HCON hb5
    cases c1 with
    | true =>
      have r0 := HI5.out.br.cell (o := 0) rfl
      have rl := HI5.out.br.lt
      have rf := HI5.out.br.fz 0
      have HF := Lib.hid (HFIN.out w5 HB5.out rfl)
      gi_wp2_with fail
      refine ⟨trivial, ?_⟩
      gi_wp2_with fail
      exact HF.out
    | false =>
      have d4 := (HLT.out.below HB5.out).cell (o := 4) rfl
      have dl := (HLT.out.below HB5.out).lt
      have x0 := HI5.out.bx.cell (o := 0) rfl
      have v0 := HI5.out.bv.cell (o := 0) rfl
      have v1 := HI5.out.bv.cell (o := 1) rfl
      have xl := HI5.out.bx.lt
      have vl := HI5.out.bv.lt
      have hcon := own_is w5 (.pointer q) T a m t.mx HW.out.2 (HT.out.below HI5.out.bel) c2 HC2.out
      unfold vw at hcon
      have HCON := Lib.hid hcon
      clear hcon
      gi_wp2_with fail
      refine ⟨trivial, rfl, CallsIn.mono (RX.callsIn_at (r := some l2) HCON.out) ?_⟩
      rintro r w6 ⟨rfl, hb6⟩
      have HI6 := Lib.hid (HI5.out.below (p' := p) hb6 HI5.out.is)
      have HB6 := Lib.hid (below_tr HB5.out hb6)
      clear d4 dl x0 v0 v1 xl vl HCON hb6
      cases c2 with
      | true =>
        have r0 := HI6.out.br.cell (o := 0) rfl
        have rl := HI6.out.br.lt
        have rf := HI6.out.br.fz 0
        have HF := Lib.hid (HFIN.out w6 HB6.out rfl)
        gi_wp2_with fail
        exact HF.out
      | false =>
        have HF := Lib.hid (And.intro (Touch.of_below (F := fun k => k < w1.heap.size) HB6.out) (HI6.out.below (p' := p ++ [(slot, t, sa, rn, sc)]) (Below.refl _ _) (HANY.out false rfl)))
        gi_wp2_with fail
        exact HF.out
  case call =>
    intro l2 J2 Jx2 W3 hP2 hJ2 hsz2 hb2
    exact verit_is l2 _ e h z A F x y HXY.out.1 HXY.out.2.1 HXY.out.2.2 J2 Jx2 _ hP2 (fun _ _ h => h) W3 hJ2 (by omega)
  case done =>
    intro D S W3 hI hS hD hDb
    have hbf : b = false := by
      rw [← HB.out]
      have h1 := hI.is
      rw [hS, List.any_reverse] at h1
      exact h1
    subst hbf
    have r0 := hI.br.cell (o := 0) rfl
    have rl := hI.br.lt
    have rf := hI.br.fz 0
    have hDlt := (Array.getElem?_eq_some_iff.1 hDb).1
    have hDb' : (W3.setCell ⟨b0 + 1 + 1, 0, none⟩ (.bool false)).heap[D]? = some (.deferred (some [])) := by rw [(Touch.setCell W3 (F := fun k => k = b0 + 1 + 1) rfl 0 (.bool false)).block D hDlt (by have := HE.out; omega)]; exact hDb
    have hbs := hI.br.set 0 (.bool false)
    have hbel : Below w.heap.size w (W3.setCell ⟨b0 + 1 + 1, 0, none⟩ (.bool false)) := hI.bel.trans ((Touch.setCell W3 (F := fun k => k = b0 + 1 + 1) rfl 0 (.bool false)).below (fun k hk => by have h1 : k = b0 + 1 + 1 := hk; have := HSZ.out; omega) hI.bel.size)
    have HDB := Lib.hid hDb'
    have HLE := Lib.hid (And.intro hbs (And.intro hbel (And.intro hD hDlt)))
    clear hI hS hD hDb hDb' hbs hbel hDlt
    try gi_wp2_with fail
    go_wp2_with fail
    refine leaves_one HDB.out fun W' ht => ?_
    have hr0 := (HLE.out.1.stay (ht.stay (G := fun k => k ≠ D) (fun k hk => hk)) (by have := HLE.out.2.2.1; have := HE.out; omega)).cell (o := 0) rfl
    exact ⟨.bool false, by simp [results, Try.results21, go_sem, hr0], rfl, HLE.out.2.1.trans (ht.below (fun k hk => by have h1 : k = D := hk; have := HLE.out.2.2.1; have := HE.out; omega) HLE.out.2.1.size)⟩
  case stop =>
    intro D S W3 hI hS hD hDb
    have hbf : b = true := by
      rw [← HB.out]
      have h1 := hI.is
      obtain ⟨r, hr⟩ := hS
      unfold ownR
      rw [← List.any_reverse, ← hr, List.any_append, h1, Bool.true_or]
    subst hbf
    have hbs := hI.br
    have hbel := hI.bel
    have HDB := Lib.hid hDb
    have HLE := Lib.hid (And.intro hbs (And.intro hbel hD))
    clear hI hS hD hDb hbs hbel
    try gi_wp2_with fail
    go_wp2_with fail
    refine leaves_one HDB.out fun W' ht => ?_
    have hr0 := (HLE.out.1.stay (ht.stay (G := fun k => k ≠ D) (fun k hk => hk)) (by have := HLE.out.2.2; have := HE.out; omega)).cell (o := 0) rfl
    exact ⟨.bool true, by simp [results, Try.results21, go_sem, hr0], rfl, HLE.out.2.1.trans (ht.below (fun k hk => by have h1 : k = D := hk; have := HLE.out.2.2; have := HE.out; omega) HLE.out.2.1.size)⟩
end

end Go.Proofs.Ytbgnbaogclnpgaa
