/-
  blocked; and what slices.AppendSeq, Collect, Sorted make of who is in the way: walked (stage 14).
-/
import Derived.Test.YtjjhmfpdbjflmaaPBlk
namespace Go.Proofs.Ytjjhmfpdbjflmaa
open Go.RowKit
set_option linter.unusedVariables false

theorem leaves_one {P : Program} {n : Nat} {fn : Func} {tmps : Array Value} {R : Ending → World → Prop} {W : World} {D : Nat} (hD : W.heap[D]? = some (.deferred (some [])))
    (hR : ∀ W', Touch (fun k => k = D) W W' → ∃ v, (results fn tmps).run P W' = .ok v W' ∧ R (.returned v) W') : LeavesInM .wide n P fn tmps R [{ target := .collected D, args := #[] }] .returning W := by
  refine ⟨by simp, .inl ⟨D, _, rfl, run_takeDeferred hD, ?_⟩⟩
  exact hR _ (touch_putF W _ rfl)

/-- What holds ahead of, and behind, the one turn of blocked's range. -/
structure BkI (w : World) (h b : Nat) (s : Value) (n : Nat) (A : Lk) (e : Nat) (x m : Int) (sb : Value) (bef : PL) (ob : Option Obj) (g : Nat) (r : Bool) (p : List Int) (W : World) : Prop where
  bel : Below w.heap.size w W
  cau : Cau h b s n A e x m sb bef ob W
  br : Lit W g 4 [.bool r]
  is : r = false → p = []

theorem BkI.old {w : World} {h b n e g n0 : Nat} {s sb : Value} {A : Lk} {x m : Int} {bef : PL} {ob : Option Obj} {r : Bool} (hw : w.heap.size ≤ n0) (hg : g < n0) (hc : ∀ k, (LkF h b s k ∨ k = e ∨ k = e + 1 ∨ k = e + 1 + 1 ∨ sb.ownBlock = some k) → k < n0) : OldP n0 (BkI w h b s n A e x m sb bef ob g r) := by
  intro p W W' H hb'
  have hst : Stay (fun k => k < n0) W W' := ⟨hb'.size, fun k _ hk => hb'.block k hk⟩
  exact ⟨H.bel.trans (hb'.mono hw), H.cau.stay hst (fun k _ hk => hc k hk), H.br.stay hst hg, H.is⟩

theorem Cau.lt {h b n e : Nat} {s sb : Value} {A : Lk} {x m : Int} {bef : PL} {ob : Option Obj} {W : World} (H : Cau h b s n A e x m sb bef ob W) : ∀ k, (LkF h b s k ∨ k = e ∨ k = e + 1 ∨ k = e + 1 + 1 ∨ sb.ownBlock = some k) → k < W.heap.size := by
  rintro k (hk | rfl | rfl | rfl | hk)
  · exact H.lk.lt k hk
  · exact H.pl.lt
  · exact H.pr.lt
  · exact H.pb.lt
  · exact H.rb.lt k hk

theorem fin_nil {A : Lk} {x m : Int} {bef : PL} (h : FinB A x m bef []) : forL A.c A.hd bef x m = [] :=
  forL_nil.2 (List.eq_nil_iff_forall_not_mem.2 fun y hy => by have := (h y).2 hy; cases this)
theorem fin_some {A : Lk} {x m : Int} {bef : PL} {S : List Int} (h : FinXB A x m bef S) : forL A.c A.hd bef x m ≠ [] := by
  intro e
  rw [forL_nil] at e
  cases S with
  | nil => exact h.1 rfl
  | cons y S =>
    have := h.2 y List.mem_cons_self
    rw [e] at this
    cases this

section
attribute [local go_sem] Oper.semAt_some

set_option maxRecDepth 100000 in
set_option maxHeartbeats 4000000 in
theorem blocked_is (w : World) (h b : Nat) (s : Value) (n : Nat) (A : Lk) (x m : Int) (sb : Value) (bef : PL) (H : LkM w h b s n A) (hr : RowQ w sb bef) (hok : Ok0 A) (hm8 : U8 m) (hx : I64 x) (hbw : ∀ p ∈ bef, U8 p.2 ∧ p.1 ≠ x) (hnn : n + bef.length ≤ 100000) (q : Bool) (hq : (!decide (forL A.c A.hd bef x m = [])) = q) :
    Calls Try.prog 39 #[.pointer (some ⟨h, 0, none⟩), .agg #[.int .i64 x, .int .u8 m], sb] w fun r w' => r = .returned (.bool q) ∧ Below w.heap.size w w' := by
  have mixed : Try.prog.follows Departure.mixedOrders = true := by kernel_rfl
  obtain ⟨ba, bc, hsf, -, -⟩ := hr.form
  obtain ⟨bn, hbn⟩ : ∃ k, bef.length = k := ⟨_, rfl⟩
  rw [hbn] at hsf
  subst hsf
  obtain ⟨b0, hb0⟩ : ∃ b, w.heap.size = b := ⟨_, rfl⟩
  obtain ⟨V, hV⟩ : ∃ V, (w.alloc (.cells #[.int .i64 x, .int .u8 m] 65)).alloc (.cells #[.bool false] 4) = V := ⟨_, rfl⟩
  have l0 := Lit.new w 65 [.int .i64 x, .int .u8 m]
  have c0 := Below.allocs w (.cells #[.int .i64 x, .int .u8 m] 65)
  have l1 := Lit.new (w.alloc (.cells #[.int .i64 x, .int .u8 m] 65)) 4 [.bool false]
  have c1 := Below.allocs (w.alloc (.cells #[.int .i64 x, .int .u8 m] 65)) (.cells #[.bool false] 4)
  have e1 : (w.alloc (.cells #[.int .i64 x, .int .u8 m] 65)).heap.size = b0 + 1 := by simp [hb0]
  have l0' := l0.below c1
  have hbV := below_tr c0 c1
  rw [e1] at l1
  rw [hb0] at l0'
  have l0'' : Lit V b0 65 [.int .i64 x, .int .u8 m] := by rw [← hV]; exact l0'
  have l1'' : Lit V (b0 + 1) 4 [.bool false] := by rw [← hV]; exact l1
  have hbV' : Below w.heap.size w V := by rw [← hV]; exact hbV
  have HBV := Lib.hid hbV'
  have hcon := blockers_is V h b s n A x m (.slice ba bn bc) bef (H.below hbV') (hr.below hbV')
  have HCON := Lib.hid hcon
  have HL := Lib.hid l1''
  have HSZ : Hid (V.heap.size = b0 + 1 + 1 ∧ w.heap.size = b0) := Lib.hid ⟨by rw [← hV]; simp [hb0], hb0⟩
  have HOK := Lib.hid hok
  have HAR := Lib.hid (And.intro hm8 (And.intro hx (And.intro hbw hnn)))
  have HQ := Lib.hid hq
  have r0 := l0''.cell (o := 0) rfl
  have r1 := l0''.cell (o := 1) rfl
  have rl := l0''.lt
  clear l0 c0 l1 c1 e1 l0' hbV l0'' l1'' hbV' hcon H hr hok hm8 hx hbw hnn hq
  refine (callsIn_wide (n := 1)).1 ?_
  refine callsIn_of_wp_marks Try.func39 rfl trivial ?_ rfl
  simp only [Try.ntmps39, List.size_toArray, List.length_cons, List.length_nil, Nat.reduceAdd, Nat.reduceSub, Array.replicate_succ, Array.replicate_zero, List.push_toArray, List.append_toArray, List.nil_append, List.cons_append]
  refine wpIn_wide.2 ?_
  go_upto_region 1 with (fail)
  clear hV hb0
  go_wp2_with fail
  refine HCON.out.mono ?_
  rintro r w1 ⟨rfl, hc1, hb1⟩
  obtain ⟨e, he⟩ : ∃ e, V.heap.size = e := ⟨_, rfl⟩
  obtain ⟨ob, hob⟩ : ∃ ob, V.heap[b]? = ob := ⟨_, rfl⟩
  rw [he, hob] at hc1
  have HI : Hid (BkI w h b s n A e x m (.slice ba bn bc) bef ob (b0 + 1) false [] w1) := Lib.hid ⟨below_tr HBV.out hb1, hc1, HL.out.below hb1, fun _ => rfl⟩
  have HE : Hid (w.heap.size ≤ w1.heap.size ∧ b0 + 1 < w1.heap.size) := Lib.hid ⟨by have := HSZ.out; have := hb1.size; omega, by have := HSZ.out; have := hb1.size; omega⟩
  have HLT := Lib.hid hc1.lt
  rw [he]
  clear hc1 hb1 HCON he hob r0 r1 rl
  unfold blkV
  go_wp2_with fail
  refine (wpIn_wide (n := 1)).1 ?_
  refine wpIn_rangeS (enc := encI) (OkB n A x m bef) (FinB A x m bef) (FinXB A x m bef) (BkI w h b s n A e x m (.slice ba bn bc) bef ob (b0 + 1) false) (BkI w h b s n A e x m (.slice ba bn bc) bef ob (b0 + 1) true) (fun _ W => Cau h b s n A e x m (.slice ba bn bc) bef ob W) (BkI.old HE.out.1 HE.out.2 HLT.out) (BkI.old HE.out.1 HE.out.2 HLT.out) (fun _ _ hI => hI.cau) HI.out rfl blk_enters (fun _ => rfl) (fun _ W => W) (fun _ _ => Below.refl _ _) .ret .ret (.inl ⟨rfl, rfl⟩) ?round ?call ?done ?stop
  case round =>
    intro l2 xx p W3 hl2 hs3 hI hOk
    simp only [encI]
    gi_wp2
    refine ⟨rfl, fun W4 hI4 hk4 hs4 => ?_⟩
    have b0c := hI4.br.cell (o := 0) rfl
    have bl := hI4.br.lt
    have bf := hI4.br.fz 0
    have ht := Touch.setCell W4 (F := fun k => k = b0 + 1) rfl 0 (.bool true)
    have hst := ht.stay (G := fun k => k ≠ b0 + 1) (fun k hk => hk)
    have hlt := HLT.out
    have HF : Hid (Touch (fun k => k < w1.heap.size) W4 (W4.setCell ⟨b0 + 1, 0, none⟩ (.bool true)) ∧ BkI w h b s n A e x m (.slice ba bn bc) bef ob (b0 + 1) true (p ++ [xx]) (W4.setCell ⟨b0 + 1, 0, none⟩ (.bool true))) := Lib.hid ⟨ht.mono (fun k hk => by have h1 : k = b0 + 1 := hk; have := HE.out.2; show k < w1.heap.size; omega), hI4.bel.trans (ht.below (fun k hk => by have h1 : k = b0 + 1 := hk; have := HSZ.out; omega) hI4.bel.size), hI4.cau.stay hst (fun k hk hk2 => by
      intro hkb
      have hn := hI4.br
      unfold Lit at hn
      rcases hk2 with (h1 | h1 | hs) | h1 | h1 | h1 | hs
      · have := hI4.cau.lk.lit
        unfold Lit at this
        rw [← h1, hkb, hn] at this
        cases this
      · obtain ⟨D, ⟨es, clock, e1, -⟩, -⟩ := hI4.cau.lk.map
        rw [← h1, hkb, hn] at e1
        cases e1
      · rcases hI4.cau.lk.row.own.2 with ⟨h2, _⟩ | ⟨g, c, cur, h2, _, hg, _⟩
        · rw [h2] at hs; cases hs
        · rw [h2] at hs
          have h3 : g = k := Option.some.inj hs
          rw [h3, hkb, hn] at hg
          cases hg
      · have := hI4.cau.pl
        unfold Lit at this
        rw [← h1, hkb, hn] at this
        cases this
      · have := hI4.cau.pr
        unfold Lit at this
        rw [← h1, hkb, hn] at this
        cases this
      · have := hI4.cau.pb
        unfold Lit at this
        rw [← h1, hkb, hn] at this
        cases this
      · rcases hI4.cau.rb.own.2 with ⟨h2, _⟩ | ⟨g, c, cur, h2, _, hg, _⟩
        · rw [h2] at hs; cases hs
        · rw [h2] at hs
          have h3 : g = k := Option.some.inj hs
          rw [h3, hkb, hn] at hg
          cases hg), hI4.br.set 0 _, fun h => by cases h⟩
    clear hl2 hs3 hI hOk hI4 hk4 hs4 ht hst hlt
    gi_wp2_with fail
    exact HF.out
  case call =>
    intro l2 J2 Jx2 W3 hP2 hJ2 hsz2 hb2
    exact blkit_is l2 _ h b n e s A x m _ bef ob HOK.out HAR.out.1 HAR.out.2.1 HAR.out.2.2.1 HAR.out.2.2.2 J2 Jx2 _ (hP2.toW (Nat.le_refl _)) (fun _ _ h => h) W3 hJ2 (by omega)
  case done =>
    intro D S W3 hI hS hD hDb
    have hS0 := hI.is rfl
    subst hS0
    have hbf : q = false := by rw [← HQ.out, decide_eq_true (fin_nil hS)]; rfl
    subst hbf
    have r0 := hI.br.cell (o := 0) rfl
    have rl := hI.br.lt
    have rf := hI.br.fz 0
    have hDlt := (Array.getElem?_eq_some_iff.1 hDb).1
    have hDb' : (W3.setCell ⟨b0 + 1, 0, none⟩ (.bool false)).heap[D]? = some (.deferred (some [])) := by rw [(Touch.setCell W3 (F := fun k => k = b0 + 1) rfl 0 (.bool false)).block D hDlt (by have := HE.out; omega)]; exact hDb
    have hbs := hI.br.set 0 (.bool false)
    have hbel : Below w.heap.size w (W3.setCell ⟨b0 + 1, 0, none⟩ (.bool false)) := hI.bel.trans ((Touch.setCell W3 (F := fun k => k = b0 + 1) rfl 0 (.bool false)).below (fun k hk => by have h1 : k = b0 + 1 := hk; have := HSZ.out; omega) hI.bel.size)
    have HDB := Lib.hid hDb'
    have HLE := Lib.hid (And.intro hbs (And.intro hbel (And.intro hD hDlt)))
    clear hI hS hD hDb hDb' hbs hbel hDlt
    try gi_wp2_with fail
    go_wp2_with fail
    refine leaves_one HDB.out fun W' ht => ?_
    have hr0 := (HLE.out.1.stay (ht.stay (G := fun k => k ≠ D) (fun k hk => hk)) (by have := HLE.out.2.2.1; have := HE.out; omega)).cell (o := 0) rfl
    exact ⟨.bool false, by simp [results, Try.results39, go_sem, hr0], rfl, HLE.out.2.1.trans (ht.below (fun k hk => by have h1 : k = D := hk; have := HLE.out.2.2.1; have := HE.out; omega) HLE.out.2.1.size)⟩
  case stop =>
    intro D S W3 hI hS hD hDb
    have hbf : q = true := by rw [← HQ.out, decide_eq_false (fin_some hS)]; rfl
    subst hbf
    have hbs := hI.br
    have hbel := hI.bel
    have HDB := Lib.hid hDb
    have HLE := Lib.hid (And.intro hbs (And.intro hbel hD))
    clear hI hS hD hDb hbs hbel
    try gi_wp2_with fail
    go_wp2_with fail
    refine leaves_one HDB.out fun W' ht => ?_
    have hr0 := (HLE.out.1.stay (ht.stay (G := fun k => k ≠ D) (fun k hk => hk)) (by have := HLE.out.2.2; have := HE.out; omega)).cell (o := 0) rfl
    exact ⟨.bool true, by simp [results, Try.results39, go_sem, hr0], rfl, HLE.out.2.1.trans (ht.below (fun k hk => by have h1 : k = D := hk; have := HLE.out.2.2; have := HE.out; omega) HLE.out.2.1.size)⟩

/-- What holds between the turns of AppendSeq's range. -/
structure ApI (w : World) (h b : Nat) (s : Value) (n : Nat) (A : Lk) (e : Nat) (x m : Int) (sb : Value) (bef : PL) (ob : Option Obj) (p : List Int) (W : World) : Prop where
  bel : Below w.heap.size w W
  cau : Cau h b s n A e x m sb bef ob w
  ex : ∃ (a : Option Addr) (c : Nat), Lit W w.heap.size 35 [.slice a p.length c] ∧ RowI W (.slice a p.length c) p ∧ ∀ k, Value.ownBlock (.slice a p.length c) = some k → w.heap.size < k
  len : p.length ≤ 100000

theorem own_cells {W : World} {e : TypeId} {m n : Nat} {s : Value} {xs : List Value} {k : Nat} (h : W.ownsRow 0 e m s n xs) (hk : s.ownBlock = some k) : ∃ o, W.heap[k]? = some o ∧ Obj.noCells o = false := by
  rcases h.2 with ⟨rfl, _⟩ | ⟨g, c, cur, rfl, _, hg, _⟩
  · cases hk
  · have : g = k := Option.some.inj hk
    subst this
    exact ⟨_, hg, rfl⟩
theorem grown_cell {W W' : World} {row : Option Nat} {k : Nat} {o : Obj} (hg : W.grownBy W' row) (hr : ∀ r, row = some r → ∃ o : Obj, W.heap[r]? = some o ∧ Obj.noCells o = true) (hk : W.heap[k]? = some o) (ho : Obj.noCells o = false) : W'.heap[k]? = W.heap[k]? :=
  hg.block k (Array.getElem?_eq_some_iff.1 hk).1 (fun e => by
    obtain ⟨o', h1, h2⟩ := hr k e.symm
    rw [hk] at h1
    cases h1
    rw [ho] at h2
    cases h2)

theorem ApI.ab {w : World} {h b n e B : Nat} {s sb : Value} {A : Lk} {x m : Int} {bef : PL} {ob : Option Obj} (hB : w.heap.size ≤ B) : AbX B (ApI w h b s n A e x m sb bef ob) := by
  intro p W W' row H hg hr
  obtain ⟨a, c, h1, h2, h3⟩ := H.ex
  have hr' : ∀ r, row = some r → ∃ o : Obj, W.heap[r]? = some o ∧ Obj.noCells o = true := fun r e => (hr r e).2
  have hst : Stay (fun k => k = w.heap.size ∨ Value.ownBlock (.slice a p.length c) = some k) W W' := ⟨hg.size, fun k hk hG => by
    rcases hG with rfl | hG
    · exact grown_cell hg hr' h1 rfl
    · obtain ⟨o, o1, o2⟩ := own_cells h2.own hG
      exact grown_cell hg hr' o1 o2⟩
  refine ⟨H.bel.trans ⟨hg.os, hg.tape, hg.output, hg.size, fun k hk => hg.block k (by have := H.bel.size; omega) (fun e => by have := (hr k e.symm).1; omega)⟩, H.cau, ⟨a, c, h1.stay hst (.inl rfl), RowF.stay h2 hst (fun k hk => .inr hk), h3⟩, H.len⟩

set_option maxRecDepth 100000 in
set_option maxHeartbeats 4000000 in
theorem appendSeq_is (w : World) (h b : Nat) (s : Value) (n : Nat) (A : Lk) (e : Nat) (x m : Int) (sb : Value) (bef : PL) (ob : Option Obj) (H : Cau h b s n A e x m sb bef ob w) (hok : Ok0 A) (hm8 : U8 m) (hx : I64 x) (hbw : ∀ p ∈ bef, U8 p.2 ∧ p.1 ≠ x) (hnn : n + bef.length ≤ 100000) :
    Calls Try.prog 69 #[.slice none 0 0, blkV e] w fun r w' => ∃ v, r = .returned v ∧ ∃ S, FinB A x m bef S ∧ RowI w' v S ∧ S.length ≤ 100000 ∧ (∀ k, v.ownBlock = some k → w.heap.size ≤ k) ∧ Below w.heap.size w w' := by
  have mixed : Try.prog.follows Departure.mixedOrders = true := by kernel_rfl
  obtain ⟨b0, hb0⟩ : ∃ b, w.heap.size = b := ⟨_, rfl⟩
  obtain ⟨V, hV⟩ : ∃ V, w.alloc (.cells #[.slice none 0 0] 35) = V := ⟨_, rfl⟩
  have l0 := Lit.new w 35 [.slice none 0 0]
  have c0 := Below.allocs w (.cells #[.slice none 0 0] 35)
  have l0' : Lit V b0 35 [.slice none 0 0] := by rw [← hV, ← hb0]; exact l0
  have hbV' : Below w.heap.size w V := by rw [← hV]; exact c0
  have HI : Hid (ApI w h b s n A e x m sb bef ob [] V) := Lib.hid ⟨hbV', H, ⟨none, 0, by rw [hb0]; exact l0', RowF.nil _ _ _ _, fun k hk => (by cases hk)⟩, Nat.zero_le _⟩
  have HSZ : Hid (V.heap.size = b0 + 1 ∧ w.heap.size = b0) := Lib.hid ⟨by rw [← hV]; simp [hb0], hb0⟩
  have HC := Lib.hid H
  have HOK := Lib.hid hok
  have HAR := Lib.hid (And.intro hm8 (And.intro hx (And.intro hbw hnn)))
  unfold blkV
  clear l0 c0 l0' hbV' H hok hm8 hx hbw hnn
  refine (callsIn_wide (n := 1)).1 ?_
  refine callsIn_of_wp_marks Try.func69 rfl trivial ?_ rfl
  simp only [Try.ntmps69, List.size_toArray, List.length_cons, List.length_nil, Nat.reduceAdd, Nat.reduceSub, Array.replicate_succ, Array.replicate_zero, List.push_toArray, List.append_toArray, List.nil_append, List.cons_append]
  refine wpIn_wide.2 ?_
  go_upto_region 1 with (fail)
  clear hV hb0
  go_wp2_with fail
  refine (wpIn_wide (n := 1)).1 ?_
  refine wpIn_rangeW (enc := encI) (OkB n A x m bef) (FinB A x m bef) (ApI w h b s n A e x m sb bef ob) (fun _ W => Cau h b s n A e x m sb bef ob W) (ApI.ab (by have := HSZ.out; omega)) (fun _ _ hI => hI.cau.below hI.bel) HI.out rfl blk_enters (fun _ => rfl) ?round ?call ?done
  case round =>
    intro l2 xx p W3 hl2 hs3 hI hOk
    have hlen : p.length + 1 ≤ 100000 := by
      have := hOk.1
      rw [List.length_append, List.length_singleton] at this
      have := HAR.out.2.2.2
      omega
    simp only [encI]
    gi_wp2
    refine ⟨trivial, fun W4 hI4 hs4 => ?_⟩
    obtain ⟨a, c, g1, g2, g3⟩ := hI4.ex
    rw [HSZ.out.2] at g1 g3
    have r0 := g1.cell (o := 0) rfl
    have rl := g1.lt
    obtain ⟨a3, c3, W6, hrun, hrow, ht, ho⟩ := row_snoc 35 35 Try.underlying35 g2 xx (by omega)
    have hb0n : ∀ k, Value.ownBlock (.slice a p.length c) = some k → k ≠ b0 := fun k hk => by have := g3 k hk; omega
    have hst := ht.stay (G := fun k => k = b0) (fun k hk e => hb0n k e hk)
    have g6 := g1.stay hst rfl
    have f6 := g6.fz 0
    have q6 := g6.cell (o := 0) rfl
    have z6 := g6.lt
    obtain ⟨pl, hpl⟩ : ∃ pl, p.length = pl := ⟨_, rfl⟩
    have HF : Hid (ApI w h b s n A e x m sb bef ob (p ++ [xx]) (W6.setCell ⟨b0, 0, none⟩ (.slice a3 (pl + 1) c3)) ∧ KeepsN W4 (W6.setCell ⟨b0, 0, none⟩ (.slice a3 (pl + 1) c3))) := Lib.hid (by
      rw [← hpl]
      have hlp : (p ++ [xx]).length = p.length + 1 := by simp
      have hts := Touch.setCell W6 (F := fun k => k = b0) rfl 0 (.slice a3 (p.length + 1) c3)
      have hbw : w.heap.size = b0 := HSZ.out.2
      have hb4 := hI4.bel.size
      have ho' : ∀ k, Value.ownBlock (.slice a3 (p.length + 1) c3) = some k → b0 < k := fun k hk => (ho k hk).elim (fun h => g3 k h) (fun h => by omega)
      refine ⟨⟨(hI4.bel.trans (ht.below (fun k hk => by have := g3 k hk; omega) hI4.bel.size)).trans (hts.below (fun k hk => by have h1 : k = b0 := hk; omega) (Nat.le_trans hb4 ht.size)), hI4.cau, ⟨a3, c3, by rw [hbw, hlp]; exact g6.set 0 _, by rw [hlp]; exact RowF.stay hrow (hts.stay (G := fun k => k ≠ b0) (fun k hk => hk)) (fun k hk => by have := ho' k hk; omega), by rw [hlp, hbw]; exact ho'⟩, by rw [hlp]; exact hlen⟩, ?_⟩
      refine (KeepsN.of_touch ht (fun k hk hF => own_cells g2.own hF)).trans (KeepsN.of_touch hts (fun k hk hF => ?_))
      have h1 : k = b0 := hF
      subst h1
      exact ⟨_, g6, rfl⟩)
    have HRUN := Lib.hid hrun
    rw [hpl] at HRUN r0 q6
    clear hl2 hs3 hI hOk hI4 hs4 g1 g2 g3 hrun hrow ht ho hst g6 hb0n hlen
    gi_wp2_with (first | (gi_at_builtin; refine append_step _ rfl _ _ 35 rfl _ _ _ _ rfl rfl HRUN.out ?_) | fail)
    exact HF.out
  case call =>
    intro l2 J2 W3 hP2 hJ2 hsz2 hb2
    refine CallsIn.mono (blkit_is l2 _ h b n e s A x m sb bef ob HOK.out HAR.out.1 HAR.out.2.1 HAR.out.2.2.1 HAR.out.2.2.2 J2 _ _ hP2 (fun _ _ h => h) W3 hJ2 (by omega)) ?_
    rintro r W' ⟨hv, S, ⟨h1, h2⟩ | ⟨h1, h2⟩⟩
    · exact ⟨hv, S, h1, h2⟩
    · exact h2.elim
  case done =>
    intro D S W3 hI hS hD hDb
    obtain ⟨a, c, g1, g2, g3⟩ := hI.ex
    have hbel := hI.bel
    rw [HSZ.out.2] at g1 g3
    have r0 := g1.cell (o := 0) rfl
    have rl := g1.lt
    have HDB := Lib.hid hDb
    have HLE := Lib.hid (And.intro hS (And.intro g2 (And.intro hI.len (And.intro g3 (And.intro hbel hD)))))
    clear hI hS hD hDb g1 g2 g3 hbel
    try gi_wp2_with fail
    go_wp2_with fail
    refine leaves_one HDB.out fun W' ht => ?_
    obtain ⟨hS, g2, hln, g3, hbel, hD⟩ := HLE.out
    refine ⟨.slice a S.length c, by simp [results, Try.results69, go_sem], _, rfl, S, hS, RowF.stay g2 (ht.stay (G := fun k => k ≠ D) (fun k hk => hk)) (fun k hk e9 => ?_), hln, fun k hk => by have := g3 k hk; have := HSZ.out; omega, hbel.trans (ht.below (fun k hk => by have h1 : k = D := hk; have := HSZ.out; omega) hbel.size)⟩
    subst e9
    obtain ⟨o, o1, o2⟩ := own_cells g2.own hk
    rw [HDB.out] at o1
    cases o1
    cases o2

set_option maxRecDepth 100000 in
set_option maxHeartbeats 4000000 in
theorem collect_is (w : World) (h b : Nat) (s : Value) (n : Nat) (A : Lk) (e : Nat) (x m : Int) (sb : Value) (bef : PL) (ob : Option Obj) (H : Cau h b s n A e x m sb bef ob w) (hok : Ok0 A) (hm8 : U8 m) (hx : I64 x) (hbw : ∀ p ∈ bef, U8 p.2 ∧ p.1 ≠ x) (hnn : n + bef.length ≤ 100000) :
    Calls Try.prog 64 #[blkV e] w fun r w' => ∃ v, r = .returned v ∧ ∃ S, FinB A x m bef S ∧ RowI w' v S ∧ S.length ≤ 100000 ∧ (∀ k, v.ownBlock = some k → w.heap.size ≤ k) ∧ Below w.heap.size w w' := by
  have hcon := appendSeq_is w h b s n A e x m sb bef ob H hok hm8 hx hbw hnn
  unfold blkV at hcon ⊢
  have HCON := Lib.hid hcon
  clear hcon H hok hm8 hx hbw hnn
  go_enter Try.func64, Try.ntmps64
  go_wp2_with fail
  refine HCON.out.mono ?_
  rintro r w1 ⟨v, rfl, h1⟩
  have HE := Lib.hid h1
  clear h1 HCON
  go_wp2_with fail
  go_ret
  exact ⟨v, rfl, HE.out⟩

set_option maxRecDepth 100000 in
set_option maxHeartbeats 4000000 in
theorem sortedB_is (w : World) (h b : Nat) (s : Value) (n : Nat) (A : Lk) (e : Nat) (x m : Int) (sb : Value) (bef : PL) (ob : Option Obj) (H : Cau h b s n A e x m sb bef ob w) (hok : Ok0 A) (hm8 : U8 m) (hx : I64 x) (hbw : ∀ p ∈ bef, U8 p.2 ∧ p.1 ≠ x) (hnn : n + bef.length ≤ 100000) :
    Calls Try.prog 50 #[blkV e] w fun r w' => ∃ v, r = .returned v ∧ ∃ S, FinB A x m bef S ∧ RowI w' v (sortI S) ∧ S.length ≤ 100000 ∧ (∀ k, v.ownBlock = some k → w.heap.size ≤ k) ∧ Below w.heap.size w w' := by
  have hcon := collect_is w h b s n A e x m sb bef ob H hok hm8 hx hbw hnn
  unfold blkV at hcon ⊢
  have HCON := Lib.hid hcon
  clear hcon H hok hm8 hx hbw hnn
  go_enter Try.func50, Try.ntmps50
  go_wp2_with fail
  refine HCON.out.mono ?_
  rintro r w1 ⟨v, rfl, S, h1, h2, h3, h4, h5⟩
  obtain ⟨a, c, rfl, -, -⟩ := h2.form
  have hs := sort_is (.slice a S.length c) S (by omega) w1 h2
  obtain ⟨k, hk⟩ : ∃ k, S.length = k := ⟨_, rfl⟩
  rw [hk] at hs h4 ⊢
  have HS := Lib.hid hs
  have HE := Lib.hid (And.intro h1 (And.intro h3 (And.intro h4 h5)))
  clear h1 h2 h3 h4 h5 hs HCON
  go_wp2_with fail
  refine HS.out.mono ?_
  rintro r w2 ⟨rfl, q1, q2⟩
  have HF := Lib.hid (And.intro q1 q2)
  clear q1 q2 HS
  go_wp2_with fail
  go_ret
  obtain ⟨h1, h3, h4, h5⟩ := HE.out
  exact ⟨_, rfl, S, h1, HF.out.1, h3, h4, h5.trans (HF.out.2.below h4 h5.size)⟩
end

end Go.Proofs.Ytjjhmfpdbjflmaa
