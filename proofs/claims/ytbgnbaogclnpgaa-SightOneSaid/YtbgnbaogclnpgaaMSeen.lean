/-
  sight's endedBy, and Seen: walked (stage 12).
-/
import Derived.Test.YtbgnbaogclnpgaaMSee
import Derived.Laws.EntriesVeiled
namespace Go.Proofs.Ytbgnbaogclnpgaa
open Go.RowKit
set_option linter.unusedVariables false

/-- Who affects a viewer: its own, or what it sees. -/
def afV (own : Bool) (a m : Int) : Value := match own with
  | true => .func (.func 37) #[.agg #[.int .i64 a, .int .i64 m]] #[]
  | false => .func (.func 36) #[.agg #[.int .i64 a, .int .i64 m]] #[]
def endV (e : Nat) : Value := .func (.func 51) #[] #[.pointer (some ⟨e + 1, 0, none⟩), .pointer (some ⟨e, 0, none⟩)]

/-- What a closure of endedBy has caught. -/
structure CauE (W : World) (e : Nat) (q : Option Addr) (af : Value) : Prop where
  px : Lit W e 27 [.pointer q]
  pa : Lit W (e + 1) 97 [af]
theorem CauE.below {W W' : World} {e : Nat} {q : Option Addr} {af : Value} (H : CauE W e q af) (hb : Below W.heap.size W W') : CauE W' e q af := ⟨H.px.below hb, H.pa.below hb⟩

theorem ended_mk_true (w : World) (q : Option Addr) (a m : Int) : Calls Try.prog 35 #[.pointer q, .func (.func 37) #[.agg #[.int .i64 a, .int .i64 m]] #[]] w fun r w' => r = .returned (endV w.heap.size) ∧ CauE w' w.heap.size q (afV true a m) ∧ Below w.heap.size w w' := by
  have l0 := Lit.new w 27 [.pointer q]
  have b0 := Below.allocs w (.cells #[.pointer q] 27)
  have l1 := Lit.new (w.alloc (.cells #[.pointer q] 27)) 97 [afV true a m]
  have b1 := Below.allocs (w.alloc (.cells #[.pointer q] 27)) (.cells #[afV true a m] 97)
  have e1 : (w.alloc (.cells #[.pointer q] 27)).heap.size = w.heap.size + 1 := by simp
  rw [e1] at l1
  have HC : Hid (CauE _ w.heap.size q (afV true a m)) := Lib.hid ⟨l0.below b1, l1⟩
  have HB := Lib.hid (below_tr b0 b1)
  unfold endV
  simp only [afV] at HC HB
  clear l0 b0 l1 b1 e1
  go_enter Try.func35, Try.ntmps35
  go_wp2_with fail
  go_ret
  exact ⟨rfl, HC.out, HB.out⟩

set_option maxRecDepth 100000 in
set_option maxHeartbeats 4000000 in
theorem ended_is_true (w : World) (e : Nat) (q : Option Addr) (T : Tb) (a m : Int) (t : Tup) (hmx : I64 t.mx) (sa : Option Addr) (rn sc : Nat) (hT : TV w (.pointer q) T) (hc : CauE w e q (afV true a m)) (b : Bool) (hb : endB T true a m t = b) :
    Calls Try.prog 51 #[.agg #[.int .i64 t.no, .int .i64 t.id, .int .i64 t.mn, .int .i64 t.cm, .int .i64 t.mx, .int .i64 t.cx, .slice sa rn sc], .pointer (some ⟨e + 1, 0, none⟩), .pointer (some ⟨e, 0, none⟩)] w fun r w' => r = .returned (.bool b) ∧ Below w.heap.size w w' := by
  obtain ⟨g, hg⟩ : ∃ g, w.heap.size = g := ⟨_, rfl⟩
  obtain ⟨W, hW⟩ : ∃ W, w.alloc (.cells #[.int .i64 t.no, .int .i64 t.id, .int .i64 t.mn, .int .i64 t.cm, .int .i64 t.mx, .int .i64 t.cx, .slice sa rn sc] 61) = W := ⟨_, rfl⟩
  have hl : Lit W g 61 [.int .i64 t.no, .int .i64 t.id, .int .i64 t.mn, .int .i64 t.cm, .int .i64 t.mx, .int .i64 t.cx, .slice sa rn sc] := by rw [← hW, ← hg]; exact Lit.new w _ _
  have hb0 : Below w.heap.size w W := by rw [← hW]; exact Below.allocs _ _
  have hcW := hc.below hb0
  simp only [afV] at hcW
  have d4 := hl.cell (o := 4) rfl
  have dl := hl.lt
  have HB0 := Lib.hid hb0
  have HW := Lib.hid hW
  have HG := Lib.hid hg
  unfold endB at hb
  by_cases h0 : t.mx = 0
  · have hbf : b = false := by rw [← hb, h0]; rfl
    subst hbf
    rw [h0] at d4
    clear hl hb0 hW hg hc hcW hT hb h0
    go_enter Try.func51, Try.ntmps51
    go_upto_region 1 with (fail)
    rw [HW.out, HG.out]
    clear HW HG
    go_wp2_with fail
    go_ret
    exact ⟨rfl, HB0.out⟩
  · have hbt : affB T true a m t.mx = b := by rw [← hb, decide_eq_true h0, Bool.true_and]
    unfold affB at hbt
    simp only [if_true] at hbt
    have hne : (t.mx != 0) = true := by simpa using h0
    have hcon := own_is W (.pointer q) T a m t.mx hmx (hT.below hb0) b hbt
    unfold vw at hcon
    have HCON := Lib.hid hcon
    have a0 := hcW.pa.cell (o := 0) rfl
    have x0 := hcW.px.cell (o := 0) rfl
    have al := hcW.pa.lt
    have xl := hcW.px.lt
    clear hl hb0 hW hg hc hcW hT hb hcon h0 hbt
    go_enter Try.func51, Try.ntmps51
    go_upto_region 1 with (fail)
    rw [HW.out, HG.out]
    clear HW HG
    go_wp2_with fail
    refine HCON.out.mono ?_
    rintro r w2 ⟨rfl, hb2⟩
    have HB2 := Lib.hid (below_tr HB0.out hb2)
    clear hb2 d4 dl a0 x0 al xl HCON
    go_wp2_with fail
    go_ret
    exact ⟨rfl, HB2.out⟩

theorem ended_mk_false (w : World) (q : Option Addr) (a m : Int) : Calls Try.prog 35 #[.pointer q, .func (.func 36) #[.agg #[.int .i64 a, .int .i64 m]] #[]] w fun r w' => r = .returned (endV w.heap.size) ∧ CauE w' w.heap.size q (afV false a m) ∧ Below w.heap.size w w' := by
  have l0 := Lit.new w 27 [.pointer q]
  have b0 := Below.allocs w (.cells #[.pointer q] 27)
  have l1 := Lit.new (w.alloc (.cells #[.pointer q] 27)) 97 [afV false a m]
  have b1 := Below.allocs (w.alloc (.cells #[.pointer q] 27)) (.cells #[afV false a m] 97)
  have e1 : (w.alloc (.cells #[.pointer q] 27)).heap.size = w.heap.size + 1 := by simp
  rw [e1] at l1
  have HC : Hid (CauE _ w.heap.size q (afV false a m)) := Lib.hid ⟨l0.below b1, l1⟩
  have HB := Lib.hid (below_tr b0 b1)
  unfold endV
  simp only [afV] at HC HB
  clear l0 b0 l1 b1 e1
  go_enter Try.func35, Try.ntmps35
  go_wp2_with fail
  go_ret
  exact ⟨rfl, HC.out, HB.out⟩

set_option maxRecDepth 100000 in
set_option maxHeartbeats 4000000 in
theorem ended_is_false (w : World) (e : Nat) (q : Option Addr) (T : Tb) (a m : Int) (t : Tup) (hmx : I64 t.mx) (sa : Option Addr) (rn sc : Nat) (hT : TV w (.pointer q) T) (hc : CauE w e q (afV false a m)) (b : Bool) (hb : endB T false a m t = b) :
    Calls Try.prog 51 #[.agg #[.int .i64 t.no, .int .i64 t.id, .int .i64 t.mn, .int .i64 t.cm, .int .i64 t.mx, .int .i64 t.cx, .slice sa rn sc], .pointer (some ⟨e + 1, 0, none⟩), .pointer (some ⟨e, 0, none⟩)] w fun r w' => r = .returned (.bool b) ∧ Below w.heap.size w w' := by
  obtain ⟨g, hg⟩ : ∃ g, w.heap.size = g := ⟨_, rfl⟩
  obtain ⟨W, hW⟩ : ∃ W, w.alloc (.cells #[.int .i64 t.no, .int .i64 t.id, .int .i64 t.mn, .int .i64 t.cm, .int .i64 t.mx, .int .i64 t.cx, .slice sa rn sc] 61) = W := ⟨_, rfl⟩
  have hl : Lit W g 61 [.int .i64 t.no, .int .i64 t.id, .int .i64 t.mn, .int .i64 t.cm, .int .i64 t.mx, .int .i64 t.cx, .slice sa rn sc] := by rw [← hW, ← hg]; exact Lit.new w _ _
  have hb0 : Below w.heap.size w W := by rw [← hW]; exact Below.allocs _ _
  have hcW := hc.below hb0
  simp only [afV] at hcW
  have d4 := hl.cell (o := 4) rfl
  have dl := hl.lt
  have HB0 := Lib.hid hb0
  have HW := Lib.hid hW
  have HG := Lib.hid hg
  unfold endB at hb
  by_cases h0 : t.mx = 0
  · have hbf : b = false := by rw [← hb, h0]; rfl
    subst hbf
    rw [h0] at d4
    clear hl hb0 hW hg hc hcW hT hb h0
    go_enter Try.func51, Try.ntmps51
    go_upto_region 1 with (fail)
    rw [HW.out, HG.out]
    clear HW HG
    go_wp2_with fail
    go_ret
    exact ⟨rfl, HB0.out⟩
  · have hbt : affB T false a m t.mx = b := by rw [← hb, decide_eq_true h0, Bool.true_and]
    unfold affB at hbt
    simp only [Bool.false_eq_true, if_false] at hbt
    have hne : (t.mx != 0) = true := by simpa using h0
    have hcon := sees_is W (.pointer q) T a m t.mx hmx (hT.below hb0) b hbt
    unfold vw at hcon
    have HCON := Lib.hid hcon
    have a0 := hcW.pa.cell (o := 0) rfl
    have x0 := hcW.px.cell (o := 0) rfl
    have al := hcW.pa.lt
    have xl := hcW.px.lt
    clear hl hb0 hW hg hc hcW hT hb hcon h0 hbt
    go_enter Try.func51, Try.ntmps51
    go_upto_region 1 with (fail)
    rw [HW.out, HG.out]
    clear HW HG
    go_wp2_with fail
    refine HCON.out.mono ?_
    rintro r w2 ⟨rfl, hb2⟩
    have HB2 := Lib.hid (below_tr HB0.out hb2)
    clear hb2 d4 dl a0 x0 al xl HCON
    go_wp2_with fail
    go_ret
    exact ⟨rfl, HB2.out⟩

/-- What Seen keeps between turns. -/
structure SeenI (w : World) (T : Tb) (e h : Nat) (x y : Int) (b0 eb ge : Nat) (q : Option Addr) (own : Bool) (a m : Int) (r0 : Int) (r1 : Bool) (Is : List (Nat × Tup) → Prop) (p : List VerE) (W : World) : Prop where
  bel : Below w.heap.size w W
  cau : CauV W e h x y
  cae : CauE W eb q (afV own a m)
  bx : Lit W b0 27 [.pointer q]
  br : Lit W (b0 + 2) 3 [.int .i64 r0]
  bs : Lit W (b0 + 3) 4 [.bool r1]
  ba : Lit W (b0 + 4) 97 [afV own a m]
  be : Lit W ge 95 [endV eb]
  is : Is (tw p)

theorem SeenI.old {w : World} {T : Tb} {e h b0 eb ge n0 : Nat} {x y a m r0 : Int} {q : Option Addr} {own r1 : Bool} {Is : List (Nat × Tup) → Prop} (hw : w.heap.size ≤ n0) (he : e + 2 < n0) (hb : b0 + 4 < n0) (heb : eb + 1 < n0) (hge : ge < n0) : OldP n0 (SeenI w T e h x y b0 eb ge q own a m r0 r1 Is) := by
  intro p W W' H hb'
  have hst : Stay (fun k => k < n0) W W' := ⟨hb'.size, fun k _ hk => hb'.block k hk⟩
  exact ⟨H.bel.trans (hb'.mono hw), ⟨H.cau.ph.stay hst (by omega), H.cau.px.stay hst (by omega), H.cau.py.stay hst (by omega)⟩, ⟨H.cae.px.stay hst (by omega), H.cae.pa.stay hst (by omega)⟩, H.bx.stay hst (by omega), H.br.stay hst (by omega), H.bs.stay hst (by omega), H.ba.stay hst (by omega), H.be.stay hst (by omega), H.is⟩
theorem SeenI.below {w : World} {T : Tb} {e h b0 eb ge : Nat} {x y a m r0 : Int} {q : Option Addr} {own r1 : Bool} {Is Is' : List (Nat × Tup) → Prop} {p p' : List VerE} {W W' : World} (H : SeenI w T e h x y b0 eb ge q own a m r0 r1 Is p W) (hb : Below W.heap.size W W') (hf : Is' (tw p')) : SeenI w T e h x y b0 eb ge q own a m r0 r1 Is' p' W' :=
  ⟨H.bel.trans (hb.mono H.bel.size), H.cau.below hb, H.cae.below hb, H.bx.below hb, H.br.below hb, H.bs.below hb, H.ba.below hb, H.be.below hb, hf⟩

/-- None of these is visible; the last one is the first that is. -/
def NoneV (T : Tb) (own : Bool) (a m : Int) (l : List (Nat × Tup)) : Prop := ∀ u ∈ l, visB T own a m u.2 = false
def FirstV (T : Tb) (own : Bool) (a m r : Int) (l : List (Nat × Tup)) : Prop := ∃ l0 u, l = l0 ++ [u] ∧ NoneV T own a m l0 ∧ visB T own a m u.2 = true ∧ (u.1 : Int) = r

theorem none_seen {T : Tb} {own : Bool} {a m : Int} {l : List (Nat × Tup)} (h : NoneV T own a m l.reverse) : seenL T own a m l = none := by
  unfold seenL
  rw [List.find?_eq_none]
  intro u hu
  rw [h u hu]
  decide
theorem first_seen {T : Tb} {own : Bool} {a m r : Int} {l S : List (Nat × Tup)} (h : FirstV T own a m r S) (hp : S <+: l.reverse) : ∃ u, seenL T own a m l = some u ∧ (u.1 : Int) = r := by
  obtain ⟨l0, u, rfl, h1, h2, h3⟩ := h
  obtain ⟨tl, ht⟩ := hp
  refine ⟨u, ?_, h3⟩
  unfold seenL
  rw [← ht, List.append_assoc, List.find?_append]
  have : l0.find? (fun p => visB T own a m p.2) = none := List.find?_eq_none.2 fun v hv => by rw [h1 v hv]; decide
  rw [this]
  simp [h2]

theorem seen_fin {w W5 : World} {T : Tb} {e h b0 eb ge n1 : Nat} {x y a m r0 : Int} {q : Option Addr} {own r1 : Bool} {Is Is' : List (Nat × Tup) → Prop} {p p' : List VerE} (H : SeenI w T e h x y b0 eb ge q own a m r0 r1 Is p W5) (hw : w.heap.size ≤ b0) (he : b0 + 4 < eb) (hee : b0 + 4 < e) (hgg : b0 + 4 < ge) (hn : b0 + 4 < n1) (r : Int) (z : Bool) (hf : Is' (tw p')) :
    Touch (fun k => k < n1) W5 ((W5.setCell ⟨b0 + 2, 0, none⟩ (.int .i64 r)).setCell ⟨b0 + 3, 0, none⟩ (.bool z)) ∧ SeenI w T e h x y b0 eb ge q own a m r z Is' p' ((W5.setCell ⟨b0 + 2, 0, none⟩ (.int .i64 r)).setCell ⟨b0 + 3, 0, none⟩ (.bool z)) := by
  have t1 := Touch.setCell W5 (F := fun k => k = b0 + 2 ∨ k = b0 + 3) (g := b0 + 2) (.inl rfl) 0 (.int .i64 r)
  have t2 := Touch.setCell (W5.setCell ⟨b0 + 2, 0, none⟩ (.int .i64 r)) (F := fun k => k = b0 + 2 ∨ k = b0 + 3) (g := b0 + 3) (.inr rfl) 0 (.bool z)
  have ht := t1.trans t2 (fun _ _ h => h)
  have hst := ht.stay (G := fun k => k ≠ b0 + 2 ∧ k ≠ b0 + 3) (fun k hk hx => hx.elim hk.1 hk.2)
  have hs1 := (Touch.setCell W5 (F := fun k => k = b0 + 2) (g := b0 + 2) rfl 0 (.int .i64 r)).stay (G := fun k => k = b0 + 3) (fun k hk hx => by omega)
  have hs2 := (Touch.setCell (W5.setCell ⟨b0 + 2, 0, none⟩ (.int .i64 r)) (F := fun k => k = b0 + 3) (g := b0 + 3) rfl 0 (.bool z)).stay (G := fun k => k = b0 + 2) (fun k hk hx => by omega)
  refine ⟨ht.mono (fun k hk => by have h1 : k = b0 + 2 ∨ k = b0 + 3 := hk; show k < n1; omega), H.bel.trans (ht.below (fun k hk => by have h1 : k = b0 + 2 ∨ k = b0 + 3 := hk; omega) H.bel.size), ⟨H.cau.ph.stay hst (by omega), H.cau.px.stay hst (by omega), H.cau.py.stay hst (by omega)⟩, ⟨H.cae.px.stay hst (by omega), H.cae.pa.stay hst (by omega)⟩, H.bx.stay hst (by omega), ?_, ?_, H.ba.stay hst (by omega), H.be.stay hst (by omega), hf⟩
  · exact (H.br.set 0 (.int .i64 r)).stay hs2 rfl
  · exact (H.bs.stay hs1 rfl).set 0 (.bool z)

section
attribute [local go_sem] Oper.semAt_some

set_option maxRecDepth 100000 in
set_option maxHeartbeats 4000000 in
theorem vseen_is (w : World) (h z : Nat) (A : Ab) (F : Nat → Prop) (v : Value) (T : Tb) (a m x y : Int) (hx : I64 x) (hy : I64 y) (hz : z ≤ 90000) (H : Std w h A z F) (hT : TV w v T) (b : Bool) (r : Int) (hb : seenB T A a m x y = b) (hr : seenV T A a m x y = r) :
    Calls Try.prog 19 #[.pointer (some ⟨h, 0, none⟩), v, vw a m, .int .i64 x, .int .i64 y] w fun e w' => e = .returned (.tuple #[.int .i64 r, .bool b]) ∧ Below w.heap.size w w' := by
  have mixed : Try.prog.follows Departure.mixedOrders = true := by kernel_rfl
  obtain ⟨q, rfl⟩ := hT.ptr
  obtain ⟨b0, hb0⟩ : ∃ b, w.heap.size = b := ⟨_, rfl⟩
  obtain ⟨V, hV⟩ : ∃ V, (((w.alloc (.cells #[.pointer q] 27)).alloc (.cells #[.int .i64 a, .int .i64 m] 34)).alloc (.cells #[.int .i64 0] 3)).alloc (.cells #[.bool false] 4) = V := ⟨_, rfl⟩
  obtain ⟨w1, hw1⟩ : ∃ w1, w.alloc (.cells #[.pointer q] 27) = w1 := ⟨_, rfl⟩
  obtain ⟨w2, hw2⟩ : ∃ w2, w1.alloc (.cells #[.int .i64 a, .int .i64 m] 34) = w2 := ⟨_, rfl⟩
  obtain ⟨w3, hw3⟩ : ∃ w3, w2.alloc (.cells #[.int .i64 0] 3) = w3 := ⟨_, rfl⟩
  have hV' : w3.alloc (.cells #[.bool false] 4) = V := by rw [← hV, ← hw3, ← hw2, ← hw1]
  have e1 : w1.heap.size = b0 + 1 := by rw [← hw1]; simp [hb0]
  have e2 : w2.heap.size = b0 + 2 := by rw [← hw2]; simp [e1]
  have e3 : w3.heap.size = b0 + 3 := by rw [← hw3]; simp [e2]
  have e4 : V.heap.size = b0 + 4 := by rw [← hV']; simp [e3]
  have l0 : Lit w1 b0 27 [.pointer q] := by rw [← hw1, ← hb0]; exact Lit.new w _ _
  have l1 : Lit w2 (b0 + 1) 34 [.int .i64 a, .int .i64 m] := by rw [← hw2, ← e1]; exact Lit.new w1 _ _
  have l2 : Lit w3 (b0 + 2) 3 [.int .i64 0] := by rw [← hw3, ← e2]; exact Lit.new w2 _ _
  have l3 : Lit V (b0 + 3) 4 [.bool false] := by rw [← hV', ← e3]; exact Lit.new w3 _ _
  have c1 : Below w.heap.size w w1 := by rw [← hw1]; exact Below.allocs _ _
  have c2 : Below w1.heap.size w1 w2 := by rw [← hw2]; exact Below.allocs _ _
  have c3 : Below w2.heap.size w2 w3 := by rw [← hw3]; exact Below.allocs _ _
  have c4 : Below w3.heap.size w3 V := by rw [← hV']; exact Below.allocs _ _
  -- affects
  obtain ⟨VN, hVN⟩ : ∃ VN, V.alloc (.cells #[.nilFunc] 97) = VN := ⟨_, rfl⟩
  have ln : Lit VN (b0 + 4) 97 [.nilFunc] := by rw [← hVN, ← e4]; exact Lit.new V _ _
  have cn : Below V.heap.size V VN := by rw [← hVN]; exact Below.allocs _ _
  obtain ⟨V2, hV2⟩ : ∃ V2, VN.setCell ⟨b0 + 4, 0, none⟩ (.func (.func 36) #[.agg #[.int .i64 a, .int .i64 m]] #[]) = V2 := ⟨_, rfl⟩
  have l4 : Lit V2 (b0 + 4) 97 [.func (.func 36) #[.agg #[.int .i64 a, .int .i64 m]] #[]] := by rw [← hV2]; exact ln.set 0 _
  have c5 : Below V.heap.size V V2 := by
    rw [← hV2]
    exact cn.trans ((Touch.setCell VN (F := fun k => k = b0 + 4) rfl 0 _).below (fun k hk => by have h1 : k = b0 + 4 := hk; omega) cn.size)
  have n0 := ln.cell (o := 0) rfl
  have nl := ln.lt
  have nf := ln.fz 0
  have hbV := below_tr (below_tr (below_tr (below_tr c1 c2) c3) c4) c5
  have hown := vown_is V2 h z A F (.pointer q) T a m x y hx hy hz (H.below hbV) (hT.below hbV) _ rfl
  unfold vw at hown
  obtain ⟨own, hown'⟩ : ∃ o, ownR T m (A.vs x y) = o := ⟨_, rfl⟩
  rw [hown'] at hown
  have HOWN := Lib.hid hown
  have HOW := Lib.hid hown'
  have HL := Lib.hid (And.intro ((((l0.below c2).below c3).below c4).below c5) (And.intro (((l1.below c3).below c4).below c5) (And.intro ((l2.below c4).below c5) (And.intro (l3.below c5) l4))))
  have HBV := Lib.hid hbV
  have HS := Lib.hid H
  have HT := Lib.hid hT
  have HXY := Lib.hid (And.intro hx (And.intro hy hz))
  have HSZ : Hid (V2.heap.size = b0 + 5 ∧ w.heap.size = b0) := Lib.hid ⟨by rw [← hV2]; simp [World.setCell]; rw [← hVN]; simp [e4], hb0⟩
  have HRES : Hid (seenB T A a m x y = b ∧ seenV T A a m x y = r) := Lib.hid ⟨hb, hr⟩
  have v0 := ((l1.below c3).below c4).cell (o := 0) rfl
  have v1 := ((l1.below c3).below c4).cell (o := 1) rfl
  have vl : b0 + 1 < V.heap.size := by omega
  have HV2 := Lib.hid hV2
  have HE4 := Lib.hid e4
  clear l0 l1 l2 l3 l4 c1 c2 c3 c4 c5 hbV hown hown' H hT hx hy hz e1 e2 e3 hw1 hw2 hw3 hV' hb hr hV2
  unfold vw
  refine (callsIn_wide (n := 1)).1 ?_
  refine callsIn_of_wp_marks Try.func19 rfl trivial ?_ rfl
  simp only [Try.ntmps19, List.size_toArray, List.length_cons, List.length_nil, Nat.reduceAdd, Nat.reduceSub, Array.replicate_succ, Array.replicate_zero, List.push_toArray, List.append_toArray, List.nil_append, List.cons_append]
  refine wpIn_wide.2 ?_
  go_upto_region 1 with (fail)
  have e5 : b0 + 1 + 1 = b0 + 2 := by omega
  have e6 : b0 + 2 + 1 = b0 + 3 := by omega
  try simp only [e5, e6]
  clear hV hb0 e5 e6
  go_upto_region 2 with (fail)
  rw [HV2.out]
  clear v0 v1 vl HV2 n0 nl nf hVN ln cn e4
  have x0 := HL.out.1.cell (o := 0) rfl
  have xl := HL.out.1.lt
  have v0 := HL.out.2.1.cell (o := 0) rfl
  have v1 := HL.out.2.1.cell (o := 1) rfl
  have vl := HL.out.2.1.lt
  go_wp2_with fail
  refine HOWN.out.mono ?_
  rintro r1 w4 ⟨rfl, hb4⟩
  have HB4 := Lib.hid hb4
  clear HOWN hb4 x0 xl v0 v1 vl HE4
  cases own with
  | true =>
    have x0 := (HL.out.1.below HB4.out).cell (o := 0) rfl
    have xl := (HL.out.1.below HB4.out).lt
    have v0 := (HL.out.2.1.below HB4.out).cell (o := 0) rfl
    have v1 := (HL.out.2.1.below HB4.out).cell (o := 1) rfl
    have vl := (HL.out.2.1.below HB4.out).lt
    have a0 := (HL.out.2.2.2.2.below HB4.out).cell (o := 0) rfl
    have al := (HL.out.2.2.2.2.below HB4.out).lt
    have af := (HL.out.2.2.2.2.below HB4.out).fz 0
    have tw4 := Touch.setCell w4 (F := fun k => k = b0 + 4) (g := b0 + 4) rfl 0 (.func (.func 37) #[.agg #[.int .i64 a, .int .i64 m]] #[])
    have hst := tw4.stay (G := fun k => k ≠ b0 + 4) (fun k hk => hk)
    have la := (HL.out.2.2.2.2.below HB4.out).set 0 (.func (.func 37) #[.agg #[.int .i64 a, .int .i64 m]] #[])
    have hbw := (below_tr HBV.out HB4.out).trans (tw4.below (fun k hk => by have h1 : k = b0 + 4 := hk; have := HSZ.out; omega) (below_tr HBV.out HB4.out).size)
    obtain ⟨w5, hw5⟩ : ∃ w5, w4.setCell ⟨b0 + 4, 0, none⟩ (.func (.func 37) #[.agg #[.int .i64 a, .int .i64 m]] #[]) = w5 := ⟨_, rfl⟩
    have hsz5 : w5.heap.size = w4.heap.size := by rw [← hw5]; simp [World.setCell]
    have HLL : Hid (Lit w5 b0 27 [.pointer q] ∧ Lit w5 (b0 + 2) 3 [.int .i64 0] ∧ Lit w5 (b0 + 3) 4 [.bool false] ∧ Lit w5 (b0 + 4) 97 [afV true a m]) := Lib.hid (by
      rw [← hw5]
      exact ⟨(HL.out.1.below HB4.out).stay hst (by omega), (HL.out.2.2.1.below HB4.out).stay hst (by omega), (HL.out.2.2.2.1.below HB4.out).stay hst (by omega), la⟩)
    have HBW : Hid (Below w.heap.size w w5 ∧ b0 + 5 ≤ w5.heap.size) := Lib.hid ⟨by rw [← hw5]; exact hbw, by rw [hsz5]; have := HB4.out.size; have := HSZ.out; omega⟩
    clear tw4 hst la hbw hsz5
    go_upto_region 4 with (fail)
    try rw [hw5]
    clear x0 xl v0 v1 vl a0 al af hw5
    clear HB4 HL HBV
    have x0 := HLL.out.1.cell (o := 0) rfl
    have xl := HLL.out.1.lt
    have a0 := HLL.out.2.2.2.cell (o := 0) rfl
    have al := HLL.out.2.2.2.lt
    have hmk := ended_mk_true w5 q a m
    obtain ⟨eb, heb⟩ : ∃ e, w5.heap.size = e := ⟨_, rfl⟩
    rw [heb] at hmk
    have HMK := Lib.hid hmk
    have HEB := Lib.hid heb
    simp only [afV] at a0
    clear hmk heb
    go_wp2_with fail
    refine HMK.out.mono ?_
    rintro r6 w6 ⟨rfl, hce, hb6⟩
    rw [← HEB.out] at hb6
    obtain ⟨V7, hV7⟩ : ∃ V7, w6.alloc (.cells #[endV eb] 95) = V7 := ⟨_, rfl⟩
    have hs6 : eb + 1 < w6.heap.size := hce.pa.lt
    clear x0 xl a0 al HMK
    unfold endV at hV7 ⊢
    have hV7' : w6.alloc (.cells #[endV eb] 95) = V7 := hV7
    have b67 : Below w6.heap.size w6 V7 := by rw [← hV7]; exact Below.allocs _ _
    have l7 : Lit V7 w6.heap.size 95 [endV eb] := by rw [← hV7']; exact Lit.new w6 _ _
    have hs7 : V7.heap.size = w6.heap.size + 1 := by rw [← hV7]; simp
    obtain ⟨ge, hge⟩ : ∃ g, w6.heap.size = g := ⟨_, rfl⟩
    rw [hge] at l7 hs7
    have hver := versions_is V7 h x y
    have HVER := Lib.hid hver
    have HB7 := Lib.hid (below_tr hb6 b67)
    have HL7 := Lib.hid (And.intro (hce.below b67) l7)
    have HS7 : Hid (V7.heap.size = ge + 1 ∧ eb + 1 < ge ∧ b0 + 5 ≤ eb) := Lib.hid ⟨hs7, by omega, by have := HEB.out; have := HBW.out.2; omega⟩
    clear hver hb6 b67 hce l7 hs7 hV7' hs6
    go_wp2_with fail
    refine HVER.out.mono ?_
    rintro r8 w8 ⟨rfl, hc8, hb8⟩
    obtain ⟨e, he⟩ : ∃ e, V7.heap.size = e := ⟨_, rfl⟩
    rw [he] at hc8
    have hsz8 : e + 2 < w8.heap.size := hc8.py.lt
    have hb58 := below_tr HB7.out hb8
    have HI : Hid (SeenI w T e h x y b0 eb ge q true a m 0 false (NoneV T true a m) [] w8) := Lib.hid ⟨HBW.out.1.trans (hb58.mono HBW.out.1.size), hc8, HL7.out.1.below hb8, HLL.out.1.below hb58, HLL.out.2.1.below hb58, HLL.out.2.2.1.below hb58, HLL.out.2.2.2.below hb58, HL7.out.2.below hb8, fun u hu => absurd hu List.not_mem_nil⟩
    have HE : Hid (w.heap.size ≤ w8.heap.size ∧ e + 2 < w8.heap.size ∧ b0 + 4 < w8.heap.size ∧ eb + 1 < w8.heap.size ∧ ge < w8.heap.size ∧ b0 + 4 < eb ∧ b0 + 4 < e ∧ b0 + 4 < ge ∧ w.heap.size ≤ b0) := Lib.hid (by have h1 := HS7.out; have h2 := HSZ.out; omega)
    simp only [he]
    clear hc8 hb8 hsz8 hb58 HVER he hV7 hge HB7 HL7 HS7 HLL HBW HEB HSZ
    unfold verV
    go_wp2_with fail
    refine (wpIn_wide (n := 1)).1 ?_
    refine wpIn_rangeS (enc := encT) (fun p => tw p <+: (A.vs x y).reverse) (fun S => tw S = (A.vs x y).reverse) (fun S => tw S <+: (A.vs x y).reverse) (SeenI w T e h x y b0 eb ge q true a m 0 false (NoneV T true a m)) (fun p W => ∃ r, SeenI w T e h x y b0 eb ge q true a m r true (FirstV T true a m r) p W) (fun _ W => Std W h A z F ∧ CauV W e h x y) (SeenI.old HE.out.1 HE.out.2.1 HE.out.2.2.1 HE.out.2.2.2.1 HE.out.2.2.2.2.1) (fun p W W' hI hb => hI.elim fun r hI => ⟨r, SeenI.old HE.out.1 HE.out.2.1 HE.out.2.2.1 HE.out.2.2.2.1 HE.out.2.2.2.2.1 hI hb⟩) (fun _ _ hI => ⟨HS.out.below hI.bel, hI.cau⟩) HI.out rfl ver_enters (fun _ => rfl) layT layT_below .ret .ret (.inl ⟨rfl, rfl⟩) ?round ?call ?done ?stop
    case round =>
      intro l2 xx p W3 hl2 hs3 hI hOk
      obtain ⟨h1, h2⟩ := tw_wf HS.out.ok hOk
      obtain ⟨slot, t, sa, rn, sc⟩ := xx
      simp only [encT, tupV]
      gi_wp2
      refine ⟨rfl, fun W4 hI4 hk4 hs4 => ?_⟩
      have hk4' := hk4 W3.heap.size (by omega)
      have lt0 := Lit.new W3 61 [.int .i64 t.no, .int .i64 t.id, .int .i64 t.mn, .int .i64 t.cm, .int .i64 t.mx, .int .i64 t.cx, .slice sa rn sc]
      have lt4 : Lit W4 W3.heap.size 61 [.int .i64 t.no, .int .i64 t.id, .int .i64 t.mn, .int .i64 t.cm, .int .i64 t.mx, .int .i64 t.cx, .slice sa rn sc] := hk4'.trans lt0
      obtain ⟨g, hg⟩ : ∃ g, W3.heap.size = g := ⟨_, rfl⟩
      rw [hg] at lt4
      simp only [hg]
      obtain ⟨c1, hc1⟩ : ∃ c, affB T true a m t.mn = c := ⟨_, rfl⟩
      obtain ⟨c2, hc2⟩ : ∃ c, endB T true a m t = c := ⟨_, rfl⟩
      have hvis : visB T true a m t = (c1 && !c2) := by unfold visB; rw [hc1, hc2]
      have hnone : (c1 && !c2) = false → NoneV T true a m (tw (p ++ [(slot, t, sa, rn, sc)])) := fun hf u hu => by
        rw [tw_app] at hu
        rcases List.mem_append.1 hu with hu | hu
        · exact hI4.is u hu
        · rw [List.mem_singleton.1 hu]; exact hvis.trans hf
      have hfirst : (c1 && !c2) = true → FirstV T true a m (slot : Int) (tw (p ++ [(slot, t, sa, rn, sc)])) := fun hf => ⟨tw p, (slot, t), tw_app _ _, hI4.is, hvis.trans hf, rfl⟩
      have HNF := Lib.hid (And.intro hnone hfirst)
      have HI4 := Lib.hid hI4
      have HC2 := Lib.hid hc2
      have HLT := Lib.hid lt4
      have HW := Lib.hid (And.intro h1.mn h1.mx)
      have d2 := lt4.cell (o := 2) rfl
      have dl := lt4.lt
      have x0 := hI4.bx.cell (o := 0) rfl
      have a0 := hI4.ba.cell (o := 0) rfl
      have xl := hI4.bx.lt
      have al := hI4.ba.lt
      unfold affB at hc1
      simp only [if_true] at hc1
      simp only [afV] at a0
      have hcon := own_is W4 (.pointer q) T a m t.mn HW.out.1 (HT.out.below hI4.bel) c1 hc1
      unfold vw at hcon
      have HCON := Lib.hid hcon
      clear hk4 hs4 hk4' lt0 lt4 hg hI4 hc1 hc2 h1 h2 hOk hI hs3 hl2 hcon hvis hnone hfirst
      gi_wp2_with fail
      refine ⟨trivial, rfl, CallsIn.mono (RX.callsIn_at (r := some l2) HCON.out) ?_⟩
      rintro r9 w9 ⟨rfl, hb9⟩
      have HI9 := Lib.hid (HI4.out.below (p' := p) hb9 HI4.out.is)
      have HB9 := Lib.hid hb9
      clear d2 dl x0 a0 xl al HCON hb9
      cases c1 with
      | false =>
        have HF := Lib.hid (And.intro (Touch.of_below (F := fun k => k < w8.heap.size) HB9.out) (HI9.out.below (Is' := NoneV T true a m) (p' := p ++ [(slot, t, sa, rn, sc)]) (Below.refl _ _) (HNF.out.1 rfl)))
        gi_wp2_with fail
        refine ⟨fun _ hh => (by cases hh), ?_⟩
        gi_wp2_with fail
        exact HF.out
      | true =>
        obtain ⟨d0, d1, d2, d3, d4, d5, d6, dl⟩ : w9.cell? ⟨g, 0, none⟩ = some (.int .i64 t.no) ∧ w9.cell? ⟨g, 1, none⟩ = some (.int .i64 t.id) ∧ w9.cell? ⟨g, 2, none⟩ = some (.int .i64 t.mn) ∧ w9.cell? ⟨g, 3, none⟩ = some (.int .i64 t.cm) ∧ w9.cell? ⟨g, 4, none⟩ = some (.int .i64 t.mx) ∧ w9.cell? ⟨g, 5, none⟩ = some (.int .i64 t.cx) ∧ w9.cell? ⟨g, 6, none⟩ = some (.slice sa rn sc) ∧ g < w9.heap.size :=
          ⟨(HLT.out.below HB9.out).cell rfl, (HLT.out.below HB9.out).cell rfl, (HLT.out.below HB9.out).cell rfl, (HLT.out.below HB9.out).cell rfl, (HLT.out.below HB9.out).cell rfl, (HLT.out.below HB9.out).cell rfl, (HLT.out.below HB9.out).cell rfl, (HLT.out.below HB9.out).lt⟩
        have n0 := HI9.out.be.cell (o := 0) rfl
        have nl := HI9.out.be.lt
        unfold endV at n0
        have hcon := ended_is_true w9 eb q T a m t HW.out.2 sa rn sc (HT.out.below HI9.out.bel) HI9.out.cae c2 HC2.out
        have HCON := Lib.hid hcon
        clear hcon
        gi_wp2_with fail
        refine ⟨trivial, rfl, CallsIn.mono (RX.callsIn_at (r := some l2) HCON.out) ?_⟩
        rintro r10 w10 ⟨rfl, hb10⟩
        have HI10 := Lib.hid (HI9.out.below (p' := p) hb10 HI9.out.is)
        have HB10 := Lib.hid (below_tr HB9.out hb10)
        clear d0 d1 d2 d3 d4 d5 d6 dl n0 nl HCON hb10
        cases c2 with
        | true =>
          have HF := Lib.hid (And.intro (Touch.of_below (F := fun k => k < w8.heap.size) HB10.out) (HI10.out.below (Is' := NoneV T true a m) (p' := p ++ [(slot, t, sa, rn, sc)]) (Below.refl _ _) (HNF.out.1 rfl)))
          gi_wp2_with fail
          exact HF.out
        | false =>
          obtain ⟨f1, f2⟩ := seen_fin (n1 := w8.heap.size) (Is' := FirstV T true a m (slot : Int)) (p' := p ++ [(slot, t, sa, rn, sc)]) HI10.out HE.out.2.2.2.2.2.2.2.2 HE.out.2.2.2.2.2.1 HE.out.2.2.2.2.2.2.1 HE.out.2.2.2.2.2.2.2.1 HE.out.2.2.1 (slot : Int) true (HNF.out.2 rfl)
          have f3 : ∃ r2, SeenI w T e h x y b0 eb ge q true a m r2 true (FirstV T true a m r2) (p ++ [(slot, t, sa, rn, sc)]) ((w10.setCell ⟨b0 + 2, 0, none⟩ (.int .i64 (slot : Int))).setCell ⟨b0 + 3, 0, none⟩ (.bool true)) := ⟨_, f2⟩
          have HF := Lib.hid (And.intro ((Touch.of_below (F := fun k => k < w8.heap.size) HB10.out).trans f1 (fun _ _ h => h)) f3)
          have r0 := HI10.out.br.cell (o := 0) rfl
          have rl := HI10.out.br.lt
          have rf := HI10.out.br.fz 0
          have s1 := (HI10.out.bs.stay ((Touch.setCell w10 (F := fun k => k = b0 + 2) (g := b0 + 2) rfl 0 (.int .i64 (slot : Int))).stay (G := fun k => k = b0 + 3) (fun k hk hx => by omega)) rfl)
          have s0 := s1.cell (o := 0) rfl
          have sl := s1.lt
          have sf := s1.fz 0
          clear f1 f2 f3 s1
          gi_wp2_with fail
          exact HF.out
    case call =>
      intro l2 J2 Jx2 W3 hP2 hJ2 hsz2 hb2
      exact verit_is l2 _ e h z A F x y HXY.out.1 HXY.out.2.1 HXY.out.2.2 J2 Jx2 _ hP2 (fun _ _ h => h) W3 hJ2 (by omega)
    case done =>
      intro D S W3 hI hS hD hDb
      have hno : seenL T true a m (A.vs x y) = none := none_seen (by rw [← hS]; exact hI.is)
      have hres : b = false ∧ r = 0 := by
        have h1 := HRES.out
        unfold seenB seenV seenO at h1
        rw [HOW.out, hno] at h1
        exact ⟨h1.1.symm, h1.2.symm⟩
      obtain ⟨rfl, rfl⟩ := hres
      have hDlt := (Array.getElem?_eq_some_iff.1 hDb).1
      obtain ⟨f1, f2⟩ := seen_fin (n1 := w8.heap.size) (Is' := fun _ => True) (p' := S) hI HE.out.2.2.2.2.2.2.2.2 HE.out.2.2.2.2.2.1 HE.out.2.2.2.2.2.2.1 HE.out.2.2.2.2.2.2.2.1 HE.out.2.2.1 0 false trivial
      have hDb' := (f1.block D hDlt (by omega)).trans hDb
      have r0 := hI.br.cell (o := 0) rfl
      have rl := hI.br.lt
      have rf := hI.br.fz 0
      have s1 := (hI.bs.stay ((Touch.setCell W3 (F := fun k => k = b0 + 2) (g := b0 + 2) rfl 0 (.int .i64 0)).stay (G := fun k => k = b0 + 3) (fun k hk hx => by omega)) rfl)
      have s0 := s1.cell (o := 0) rfl
      have sl := s1.lt
      have sf := s1.fz 0
      have HDB := Lib.hid hDb'
      have HLE := Lib.hid (And.intro f2 (And.intro hD (Nat.lt_of_lt_of_le hDlt f1.size)))
      clear hI hS hD hDb hDb' hDlt f1 f2 s1 hno
      try gi_wp2_with fail
      go_wp2_with fail
      refine leaves_one HDB.out fun W' ht => ?_
      have hst := ht.stay (G := fun k => k ≠ D) (fun k hk => hk)
      have hr0 := (HLE.out.1.br.stay hst (by have := HLE.out.2.1; have := HE.out; omega)).cell (o := 0) rfl
      have hr1 := (HLE.out.1.bs.stay hst (by have := HLE.out.2.1; have := HE.out; omega)).cell (o := 0) rfl
      exact ⟨.tuple #[.int .i64 0, .bool false], by simp [results, Try.results19, go_sem, hr0, hr1], rfl, HLE.out.1.bel.trans (ht.below (fun k hk => by have h1 : k = D := hk; have := HLE.out.2.1; have := HE.out; omega) HLE.out.1.bel.size)⟩
    case stop =>
      intro D S W3 hI hS hD hDb
      obtain ⟨r2, hI⟩ := hI
      obtain ⟨u, hu, hur⟩ := first_seen hI.is hS
      have hres : b = true ∧ r = r2 := by
        have h1 := HRES.out
        unfold seenB seenV seenO at h1
        rw [HOW.out, hu] at h1
        exact ⟨h1.1.symm, by rw [← h1.2, ← hur]; rfl⟩
      obtain ⟨rfl, rfl⟩ := hres
      have HDB := Lib.hid hDb
      have HLE := Lib.hid (And.intro hI hD)
      clear hI hS hD hDb hu hur
      try gi_wp2_with fail
      go_wp2_with fail
      refine leaves_one HDB.out fun W' ht => ?_
      have hst := ht.stay (G := fun k => k ≠ D) (fun k hk => hk)
      have hr0 := (HLE.out.1.br.stay hst (by have := HLE.out.2; have := HE.out; omega)).cell (o := 0) rfl
      have hr1 := (HLE.out.1.bs.stay hst (by have := HLE.out.2; have := HE.out; omega)).cell (o := 0) rfl
      exact ⟨.tuple #[.int .i64 r, .bool true], by simp [results, Try.results19, go_sem, hr0, hr1], rfl, HLE.out.1.bel.trans (ht.below (fun k hk => by have h1 : k = D := hk; have := HLE.out.2; have := HE.out; omega) HLE.out.1.bel.size)⟩

  | false =>
    have x0 := (HL.out.1.below HB4.out).cell (o := 0) rfl
    have xl := (HL.out.1.below HB4.out).lt
    have HLL : Hid (Lit w4 b0 27 [.pointer q] ∧ Lit w4 (b0 + 2) 3 [.int .i64 0] ∧ Lit w4 (b0 + 3) 4 [.bool false] ∧ Lit w4 (b0 + 4) 97 [afV false a m]) := Lib.hid ⟨HL.out.1.below HB4.out, HL.out.2.2.1.below HB4.out, HL.out.2.2.2.1.below HB4.out, HL.out.2.2.2.2.below HB4.out⟩
    have HBW : Hid (Below w.heap.size w w4 ∧ b0 + 5 ≤ w4.heap.size) := Lib.hid ⟨below_tr HBV.out HB4.out, by have := HB4.out.size; have := HSZ.out; omega⟩
    clear x0 xl
    obtain ⟨w5, hw5⟩ : ∃ w5, w5 = w4 := ⟨_, rfl⟩
    rw [← hw5] at HLL HBW
    go_upto_region 4 with (fail)
    rw [← hw5]
    clear hw5
    clear HB4 HL HBV
    have x0 := HLL.out.1.cell (o := 0) rfl
    have xl := HLL.out.1.lt
    have a0 := HLL.out.2.2.2.cell (o := 0) rfl
    have al := HLL.out.2.2.2.lt
    have hmk := ended_mk_false w5 q a m
    obtain ⟨eb, heb⟩ : ∃ e, w5.heap.size = e := ⟨_, rfl⟩
    rw [heb] at hmk
    have HMK := Lib.hid hmk
    have HEB := Lib.hid heb
    simp only [afV] at a0
    clear hmk heb
    go_wp2_with fail
    refine HMK.out.mono ?_
    rintro r6 w6 ⟨rfl, hce, hb6⟩
    rw [← HEB.out] at hb6
    obtain ⟨V7, hV7⟩ : ∃ V7, w6.alloc (.cells #[endV eb] 95) = V7 := ⟨_, rfl⟩
    have hs6 : eb + 1 < w6.heap.size := hce.pa.lt
    clear x0 xl a0 al HMK
    unfold endV at hV7 ⊢
    have hV7' : w6.alloc (.cells #[endV eb] 95) = V7 := hV7
    have b67 : Below w6.heap.size w6 V7 := by rw [← hV7]; exact Below.allocs _ _
    have l7 : Lit V7 w6.heap.size 95 [endV eb] := by rw [← hV7']; exact Lit.new w6 _ _
    have hs7 : V7.heap.size = w6.heap.size + 1 := by rw [← hV7]; simp
    obtain ⟨ge, hge⟩ : ∃ g, w6.heap.size = g := ⟨_, rfl⟩
    rw [hge] at l7 hs7
    have hver := versions_is V7 h x y
    have HVER := Lib.hid hver
    have HB7 := Lib.hid (below_tr hb6 b67)
    have HL7 := Lib.hid (And.intro (hce.below b67) l7)
    have HS7 : Hid (V7.heap.size = ge + 1 ∧ eb + 1 < ge ∧ b0 + 5 ≤ eb) := Lib.hid ⟨hs7, by omega, by have := HEB.out; have := HBW.out.2; omega⟩
    clear hver hb6 b67 hce l7 hs7 hV7' hs6
    go_wp2_with fail
    refine HVER.out.mono ?_
    rintro r8 w8 ⟨rfl, hc8, hb8⟩
    obtain ⟨e, he⟩ : ∃ e, V7.heap.size = e := ⟨_, rfl⟩
    rw [he] at hc8
    have hsz8 : e + 2 < w8.heap.size := hc8.py.lt
    have hb58 := below_tr HB7.out hb8
    have HI : Hid (SeenI w T e h x y b0 eb ge q false a m 0 false (NoneV T false a m) [] w8) := Lib.hid ⟨HBW.out.1.trans (hb58.mono HBW.out.1.size), hc8, HL7.out.1.below hb8, HLL.out.1.below hb58, HLL.out.2.1.below hb58, HLL.out.2.2.1.below hb58, HLL.out.2.2.2.below hb58, HL7.out.2.below hb8, fun u hu => absurd hu List.not_mem_nil⟩
    have HE : Hid (w.heap.size ≤ w8.heap.size ∧ e + 2 < w8.heap.size ∧ b0 + 4 < w8.heap.size ∧ eb + 1 < w8.heap.size ∧ ge < w8.heap.size ∧ b0 + 4 < eb ∧ b0 + 4 < e ∧ b0 + 4 < ge ∧ w.heap.size ≤ b0) := Lib.hid (by have h1 := HS7.out; have h2 := HSZ.out; omega)
    simp only [he]
    clear hc8 hb8 hsz8 hb58 HVER he hV7 hge HB7 HL7 HS7 HLL HBW HEB HSZ
    unfold verV
    go_wp2_with fail
    refine (wpIn_wide (n := 1)).1 ?_
    refine wpIn_rangeS (enc := encT) (fun p => tw p <+: (A.vs x y).reverse) (fun S => tw S = (A.vs x y).reverse) (fun S => tw S <+: (A.vs x y).reverse) (SeenI w T e h x y b0 eb ge q false a m 0 false (NoneV T false a m)) (fun p W => ∃ r, SeenI w T e h x y b0 eb ge q false a m r true (FirstV T false a m r) p W) (fun _ W => Std W h A z F ∧ CauV W e h x y) (SeenI.old HE.out.1 HE.out.2.1 HE.out.2.2.1 HE.out.2.2.2.1 HE.out.2.2.2.2.1) (fun p W W' hI hb => hI.elim fun r hI => ⟨r, SeenI.old HE.out.1 HE.out.2.1 HE.out.2.2.1 HE.out.2.2.2.1 HE.out.2.2.2.2.1 hI hb⟩) (fun _ _ hI => ⟨HS.out.below hI.bel, hI.cau⟩) HI.out rfl ver_enters (fun _ => rfl) layT layT_below .ret .ret (.inl ⟨rfl, rfl⟩) ?round ?call ?done ?stop
    case round =>
      intro l2 xx p W3 hl2 hs3 hI hOk
      obtain ⟨h1, h2⟩ := tw_wf HS.out.ok hOk
      obtain ⟨slot, t, sa, rn, sc⟩ := xx
      simp only [encT, tupV]
      gi_wp2
      refine ⟨rfl, fun W4 hI4 hk4 hs4 => ?_⟩
      have hk4' := hk4 W3.heap.size (by omega)
      have lt0 := Lit.new W3 61 [.int .i64 t.no, .int .i64 t.id, .int .i64 t.mn, .int .i64 t.cm, .int .i64 t.mx, .int .i64 t.cx, .slice sa rn sc]
      have lt4 : Lit W4 W3.heap.size 61 [.int .i64 t.no, .int .i64 t.id, .int .i64 t.mn, .int .i64 t.cm, .int .i64 t.mx, .int .i64 t.cx, .slice sa rn sc] := hk4'.trans lt0
      obtain ⟨g, hg⟩ : ∃ g, W3.heap.size = g := ⟨_, rfl⟩
      rw [hg] at lt4
      simp only [hg]
      obtain ⟨c1, hc1⟩ : ∃ c, affB T false a m t.mn = c := ⟨_, rfl⟩
      obtain ⟨c2, hc2⟩ : ∃ c, endB T false a m t = c := ⟨_, rfl⟩
      have hvis : visB T false a m t = (c1 && !c2) := by unfold visB; rw [hc1, hc2]
      have hnone : (c1 && !c2) = false → NoneV T false a m (tw (p ++ [(slot, t, sa, rn, sc)])) := fun hf u hu => by
        rw [tw_app] at hu
        rcases List.mem_append.1 hu with hu | hu
        · exact hI4.is u hu
        · rw [List.mem_singleton.1 hu]; exact hvis.trans hf
      have hfirst : (c1 && !c2) = true → FirstV T false a m (slot : Int) (tw (p ++ [(slot, t, sa, rn, sc)])) := fun hf => ⟨tw p, (slot, t), tw_app _ _, hI4.is, hvis.trans hf, rfl⟩
      have HNF := Lib.hid (And.intro hnone hfirst)
      have HI4 := Lib.hid hI4
      have HC2 := Lib.hid hc2
      have HLT := Lib.hid lt4
      have HW := Lib.hid (And.intro h1.mn h1.mx)
      have d2 := lt4.cell (o := 2) rfl
      have dl := lt4.lt
      have x0 := hI4.bx.cell (o := 0) rfl
      have a0 := hI4.ba.cell (o := 0) rfl
      have xl := hI4.bx.lt
      have al := hI4.ba.lt
      unfold affB at hc1
      simp only [Bool.false_eq_true, if_false] at hc1
      simp only [afV] at a0
      have hcon := sees_is W4 (.pointer q) T a m t.mn HW.out.1 (HT.out.below hI4.bel) c1 hc1
      unfold vw at hcon
      have HCON := Lib.hid hcon
      clear hk4 hs4 hk4' lt0 lt4 hg hI4 hc1 hc2 h1 h2 hOk hI hs3 hl2 hcon hvis hnone hfirst
      gi_wp2_with fail
      refine ⟨trivial, rfl, CallsIn.mono (RX.callsIn_at (r := some l2) HCON.out) ?_⟩
      rintro r9 w9 ⟨rfl, hb9⟩
      have HI9 := Lib.hid (HI4.out.below (p' := p) hb9 HI4.out.is)
      have HB9 := Lib.hid hb9
      clear d2 dl x0 a0 xl al HCON hb9
      cases c1 with
      | false =>
        have HF := Lib.hid (And.intro (Touch.of_below (F := fun k => k < w8.heap.size) HB9.out) (HI9.out.below (Is' := NoneV T false a m) (p' := p ++ [(slot, t, sa, rn, sc)]) (Below.refl _ _) (HNF.out.1 rfl)))
        gi_wp2_with fail
        refine ⟨fun _ hh => (by cases hh), ?_⟩
        gi_wp2_with fail
        exact HF.out
      | true =>
        obtain ⟨d0, d1, d2, d3, d4, d5, d6, dl⟩ : w9.cell? ⟨g, 0, none⟩ = some (.int .i64 t.no) ∧ w9.cell? ⟨g, 1, none⟩ = some (.int .i64 t.id) ∧ w9.cell? ⟨g, 2, none⟩ = some (.int .i64 t.mn) ∧ w9.cell? ⟨g, 3, none⟩ = some (.int .i64 t.cm) ∧ w9.cell? ⟨g, 4, none⟩ = some (.int .i64 t.mx) ∧ w9.cell? ⟨g, 5, none⟩ = some (.int .i64 t.cx) ∧ w9.cell? ⟨g, 6, none⟩ = some (.slice sa rn sc) ∧ g < w9.heap.size :=
          ⟨(HLT.out.below HB9.out).cell rfl, (HLT.out.below HB9.out).cell rfl, (HLT.out.below HB9.out).cell rfl, (HLT.out.below HB9.out).cell rfl, (HLT.out.below HB9.out).cell rfl, (HLT.out.below HB9.out).cell rfl, (HLT.out.below HB9.out).cell rfl, (HLT.out.below HB9.out).lt⟩
        have n0 := HI9.out.be.cell (o := 0) rfl
        have nl := HI9.out.be.lt
        unfold endV at n0
        have hcon := ended_is_false w9 eb q T a m t HW.out.2 sa rn sc (HT.out.below HI9.out.bel) HI9.out.cae c2 HC2.out
        have HCON := Lib.hid hcon
        clear hcon
        gi_wp2_with fail
        refine ⟨trivial, rfl, CallsIn.mono (RX.callsIn_at (r := some l2) HCON.out) ?_⟩
        rintro r10 w10 ⟨rfl, hb10⟩
        have HI10 := Lib.hid (HI9.out.below (p' := p) hb10 HI9.out.is)
        have HB10 := Lib.hid (below_tr HB9.out hb10)
        clear d0 d1 d2 d3 d4 d5 d6 dl n0 nl HCON hb10
        cases c2 with
        | true =>
          have HF := Lib.hid (And.intro (Touch.of_below (F := fun k => k < w8.heap.size) HB10.out) (HI10.out.below (Is' := NoneV T false a m) (p' := p ++ [(slot, t, sa, rn, sc)]) (Below.refl _ _) (HNF.out.1 rfl)))
          gi_wp2_with fail
          exact HF.out
        | false =>
          obtain ⟨f1, f2⟩ := seen_fin (n1 := w8.heap.size) (Is' := FirstV T false a m (slot : Int)) (p' := p ++ [(slot, t, sa, rn, sc)]) HI10.out HE.out.2.2.2.2.2.2.2.2 HE.out.2.2.2.2.2.1 HE.out.2.2.2.2.2.2.1 HE.out.2.2.2.2.2.2.2.1 HE.out.2.2.1 (slot : Int) true (HNF.out.2 rfl)
          have f3 : ∃ r2, SeenI w T e h x y b0 eb ge q false a m r2 true (FirstV T false a m r2) (p ++ [(slot, t, sa, rn, sc)]) ((w10.setCell ⟨b0 + 2, 0, none⟩ (.int .i64 (slot : Int))).setCell ⟨b0 + 3, 0, none⟩ (.bool true)) := ⟨_, f2⟩
          have HF := Lib.hid (And.intro ((Touch.of_below (F := fun k => k < w8.heap.size) HB10.out).trans f1 (fun _ _ h => h)) f3)
          have r0 := HI10.out.br.cell (o := 0) rfl
          have rl := HI10.out.br.lt
          have rf := HI10.out.br.fz 0
          have s1 := (HI10.out.bs.stay ((Touch.setCell w10 (F := fun k => k = b0 + 2) (g := b0 + 2) rfl 0 (.int .i64 (slot : Int))).stay (G := fun k => k = b0 + 3) (fun k hk hx => by omega)) rfl)
          have s0 := s1.cell (o := 0) rfl
          have sl := s1.lt
          have sf := s1.fz 0
          clear f1 f2 f3 s1
          gi_wp2_with fail
          exact HF.out
    case call =>
      intro l2 J2 Jx2 W3 hP2 hJ2 hsz2 hb2
      exact verit_is l2 _ e h z A F x y HXY.out.1 HXY.out.2.1 HXY.out.2.2 J2 Jx2 _ hP2 (fun _ _ h => h) W3 hJ2 (by omega)
    case done =>
      intro D S W3 hI hS hD hDb
      have hno : seenL T false a m (A.vs x y) = none := none_seen (by rw [← hS]; exact hI.is)
      have hres : b = false ∧ r = 0 := by
        have h1 := HRES.out
        unfold seenB seenV seenO at h1
        rw [HOW.out, hno] at h1
        exact ⟨h1.1.symm, h1.2.symm⟩
      obtain ⟨rfl, rfl⟩ := hres
      have hDlt := (Array.getElem?_eq_some_iff.1 hDb).1
      obtain ⟨f1, f2⟩ := seen_fin (n1 := w8.heap.size) (Is' := fun _ => True) (p' := S) hI HE.out.2.2.2.2.2.2.2.2 HE.out.2.2.2.2.2.1 HE.out.2.2.2.2.2.2.1 HE.out.2.2.2.2.2.2.2.1 HE.out.2.2.1 0 false trivial
      have hDb' := (f1.block D hDlt (by omega)).trans hDb
      have r0 := hI.br.cell (o := 0) rfl
      have rl := hI.br.lt
      have rf := hI.br.fz 0
      have s1 := (hI.bs.stay ((Touch.setCell W3 (F := fun k => k = b0 + 2) (g := b0 + 2) rfl 0 (.int .i64 0)).stay (G := fun k => k = b0 + 3) (fun k hk hx => by omega)) rfl)
      have s0 := s1.cell (o := 0) rfl
      have sl := s1.lt
      have sf := s1.fz 0
      have HDB := Lib.hid hDb'
      have HLE := Lib.hid (And.intro f2 (And.intro hD (Nat.lt_of_lt_of_le hDlt f1.size)))
      clear hI hS hD hDb hDb' hDlt f1 f2 s1 hno
      try gi_wp2_with fail
      go_wp2_with fail
      refine leaves_one HDB.out fun W' ht => ?_
      have hst := ht.stay (G := fun k => k ≠ D) (fun k hk => hk)
      have hr0 := (HLE.out.1.br.stay hst (by have := HLE.out.2.1; have := HE.out; omega)).cell (o := 0) rfl
      have hr1 := (HLE.out.1.bs.stay hst (by have := HLE.out.2.1; have := HE.out; omega)).cell (o := 0) rfl
      exact ⟨.tuple #[.int .i64 0, .bool false], by simp [results, Try.results19, go_sem, hr0, hr1], rfl, HLE.out.1.bel.trans (ht.below (fun k hk => by have h1 : k = D := hk; have := HLE.out.2.1; have := HE.out; omega) HLE.out.1.bel.size)⟩
    case stop =>
      intro D S W3 hI hS hD hDb
      obtain ⟨r2, hI⟩ := hI
      obtain ⟨u, hu, hur⟩ := first_seen hI.is hS
      have hres : b = true ∧ r = r2 := by
        have h1 := HRES.out
        unfold seenB seenV seenO at h1
        rw [HOW.out, hu] at h1
        exact ⟨h1.1.symm, by rw [← h1.2, ← hur]; rfl⟩
      obtain ⟨rfl, rfl⟩ := hres
      have HDB := Lib.hid hDb
      have HLE := Lib.hid (And.intro hI hD)
      clear hI hS hD hDb hu hur
      try gi_wp2_with fail
      go_wp2_with fail
      refine leaves_one HDB.out fun W' ht => ?_
      have hst := ht.stay (G := fun k => k ≠ D) (fun k hk => hk)
      have hr0 := (HLE.out.1.br.stay hst (by have := HLE.out.2; have := HE.out; omega)).cell (o := 0) rfl
      have hr1 := (HLE.out.1.bs.stay hst (by have := HLE.out.2; have := HE.out; omega)).cell (o := 0) rfl
      exact ⟨.tuple #[.int .i64 r, .bool true], by simp [results, Try.results19, go_sem, hr0, hr1], rfl, HLE.out.1.bel.trans (ht.below (fun k hk => by have h1 : k = D := hk; have := HLE.out.2; have := HE.out; omega) HLE.out.1.bel.size)⟩

end

end Go.Proofs.Ytbgnbaogclnpgaa
