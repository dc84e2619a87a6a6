/-
  package span's Free: the gaps.
-/
import Derived.Test.YtnifpphimodonaaSFree
import Derived.Test.YtnifpphimodonaaERX
namespace Go.Proofs.Ytnifpphimodonaa
open Go.RowKit

section
attribute [local go_sem] Oper.semAt_some

set_option maxRecDepth 100000 in
set_option maxHeartbeats 2000000 in
theorem gaps1_nil (l Bo Bw : Nat) (v : Val) (J : List (Int × Int) → World → Prop) (Safe : World → Nat → Prop) (ht : Turns l J Safe) (W : World) (hJ : J [] W) (hc : W.cell? ⟨Bo, 0, none⟩ = some (.slice none 0 0)) (ho : Safe W Bo) (hv : Boxed W Bw v.k v.n v.u v.t) (hw : Safe W Bw) :
    CallsIn .wide 1 Try.prog 37 #[.func (.yield l) #[] #[], .pointer (some ⟨Bo, 0, none⟩), .pointer (some ⟨Bw, 0, none⟩)] W fun e W' => (∃ x, e = .returned x) ∧ J (gapEnd v.n v.u []) W' := by
  have eg : ∀ args w, (callFunc 38 args).run Try.prog w = .ok (.enter 38 args) w := enters_of Try.func38 (by kernel_rfl) rfl
  have hsr := search_is 38 #[.pointer (some ⟨Bo, 0, none⟩), .pointer (some ⟨Bw, 0, none⟩)] 0 0 W eg (by omega) (by omega) (fun V t hV ht' => by omega)
  have HJ := Lib.hid hJ
  have HT := Lib.hid ht
  have HC := Lib.hid hc
  have HO := Lib.hid ho
  have HV := Lib.hid hv
  have HW := Lib.hid hw
  clear hJ ht hv hw ho
  refine callsIn_of_wp Try.func37 rfl trivial ?_ rfl
  simp only [Try.ntmps37, List.size_toArray, List.length_cons, List.length_nil, Nat.reduceAdd, Nat.reduceSub, Array.replicate_succ, Array.replicate_zero, List.push_toArray, List.append_toArray, List.nil_append, List.cons_append]
  gi_wp2_with fail
  refine ⟨trivial, (callsIn_wide.2 hsr).mono ?_⟩
  rintro e W1 ⟨rfl, hb1⟩
  have hkp := HT.out.keeps HJ.out hb1
  have hc1 : W1.cell? ⟨Bo, 0, none⟩ = some (.slice none 0 0) := by rw [cell_same (hkp _ HO.out).1]; exact HC.out
  have hv1 := HV.out.same (hkp _ HW.out).1
  have HV1 := Lib.hid hv1
  have HJ1 := Lib.hid (HT.out.old _ _ _ HJ.out hb1)
  obtain ⟨v0, v1, v2, v3, v4⟩ := hv1
  clear hsr hc hb1 hkp
  gi_wp2_with fail
  gi_loopw [5, 7, 18] (fun f bx i wr => f = .int .i64 v.n ∧ i = .int .i64 0 ∧ Hid (J [] wr) ∧ Hid (Boxed wr Bw v.k v.n v.u v.t)) (fun _ _ i _ => 0)
  case atStart => exact ⟨rfl, rfl, HJ1, HV1⟩
  case round =>
    obtain ⟨rfl, rfl, HJt, HVt⟩ := hrel
    clear v0 v1 v2 v3 v4 hc1 HJ1 HV1
    obtain ⟨v0, v1, v2, v3, v4⟩ := HVt.out
    by_cases hgap : v.n < v.u
    · have hof := fun W => of_is v.n v.u W
      have HE : Hid (gapEnd v.n v.u [] = [] ++ [(v.n, v.u)]) := Lib.hid (if_pos hgap)
      gi_wp2_with fail
      refine ⟨trivial, (callsIn_wide.2 (hof _)).mono ?_⟩
      rintro e W2 ⟨rfl, hb2⟩
      have HJ2 := Lib.hid (HT.out.old _ _ _ HJt.out hb2)
      obtain ⟨fn, tmps, assign, body, hy, hR⟩ := HT.out.turn _ v.n v.u W2 HJ2.out (by simp)
      clear hb2 hof v0 v1 v2 v3 v4
      gi_wp2_with fail
      refine hR.mono ?_
      rintro e W3 ⟨rfl, hJ3, -⟩
      gi_wp2_with fail
      go_end0
      refine ⟨⟨_, rfl⟩, ?_⟩
      rw [HE.out]
      exact hJ3
    · have HE : Hid (gapEnd v.n v.u [] = []) := Lib.hid (if_neg hgap)
      gi_wp2_with fail
      go_end0
      refine ⟨⟨_, rfl⟩, ?_⟩
      rw [HE.out]
      exact HJt.out
end

/-- The iterator, whatever sorted has handed back. -/
theorem gaps1_is (l Bo Bw n cap : Nat) (p : Option Addr) (D D0 : Nat → Val) (v : Val) (J : List (Int × Int) → World → Prop) (Safe : World → Nat → Prop) (ht : Turns l J Safe) (hn : n ≤ 1000) (W : World) (hJ : J [] W)
    (hp : (p = none ∧ n = 0 ∧ cap = 0) ∨ ∃ g, p = some ⟨g, 0, none⟩ ∧ n ≤ cap ∧ Safe W g ∧ RowF W g n D) (hs : SortedOf n D0 D) (hc : W.cell? ⟨Bo, 0, none⟩ = some (.slice p n cap)) (ho : Safe W Bo) (hv : Boxed W Bw v.k v.n v.u v.t) (hw : Safe W Bw)
    (hok : ∀ i, i < n → okS (D0 i) = true) (L : List (Int × Int)) (hL : GapsS v D0 n L) :
    CallsIn .wide 1 Try.prog 37 #[.func (.yield l) #[] #[], .pointer (some ⟨Bo, 0, none⟩), .pointer (some ⟨Bw, 0, none⟩)] W fun e W' => (∃ x, e = .returned x) ∧ J L W' := by
  have hmem : ∀ j, j < n → okS (D j) = true := fun j hj => by
    have : D j ∈ (List.range n).map D0 := hs.1.mem_iff.1 (List.mem_map.2 ⟨j, by simpa using hj, rfl⟩)
    obtain ⟨i, hi, e⟩ := List.mem_map.1 this
    rw [← e]
    exact hok i (by simpa using hi)
  obtain ⟨k, hk, hki⟩ := turns_at (fun i => v.u ≤ (D i).n) n (fun i j hij hj h => by
    rcases Nat.lt_or_eq_of_le hij with q | rfl
    · have := hs.2 i j q hj; omega
    · exact h)
  have hG := gaps_end D D0 n k v hk (fun j hj => okS_lt (hmem j hj)) hs.2 (fun i hi => by
    have := hki i (by omega)
    rcases Int.lt_or_le (D i).n v.u with q | q
    · exact q
    · have := this.2 q; omega) (fun i hi hk' => (hki i hi).1 hk') hs.1
  have hLe := hL.uniq hG
  rcases hp with ⟨rfl, rfl, rfl⟩ | ⟨g, rfl, hnc, hsg, hR⟩
  · obtain rfl : k = 0 := by omega
    rw [hLe]
    exact gaps1_nil l Bo Bw v J Safe ht W hJ hc ho hv hw
  · rw [hLe]
    exact gaps1_row l Bo Bw g n cap k D v J Safe ht hn hnc hk hki W hJ ⟨hc, hv, hR.at', ho, hw, hsg⟩


/-- One step of append whose run is known. -/
theorem append_step {F : Fence} {n : Nat} (w : World) {ops : Array Oper} {rest : List Oper} {o : Oper} {a : Act} {Q : Exit → Act → World → Prop} (hg : o.guard = none) (s x : Operand) (t : TypeId)
    (hop : o.op = Op.call { callee := Callee.builtin Builtin.append, args := #[s, x], argTypes := #[t, t] }) (v xv v' : Value) (w' : World) (hs : a.eval s = v) (hx : a.eval x = xv)
    (hrun : (Builtin.append_ #[t, t] o.type #[v, xv]).run Try.prog w = .ok v' w') (hK : wpListIn F n Try.prog ops Q rest (a.put o.dst v') w') : wpListIn F n Try.prog ops Q (o :: rest) a w := by
  refine wpListIn_plain hg fun K hK' => ?_
  unfold Oper.wpIn
  refine ⟨?_, ?_⟩
  · simp [Oper.about, hop, resolve, Target.leads, Sem.run_pure]
  · rw [Oper.semAt_plain F _ _ (by rw [hop]; intro c hc'; cases hc')]
    simp [execOp, hop, resolve, invoke, builtin, hs, hx, hrun, Result.andThen]
    exact hK' _ _ hK

/-- A range over the gaps whose turns append them to a variable. -/
theorem range_own {gg : Operand} {assign body : Code} {Q : Exit → Act → World → Prop} {a : Act} {w w0 : World} {B Bo Bw n cap : Nat} {p : Option Addr} {D D0 : Nat → Val} {v : Val} {L : List (Int × Int)}
    (hg : a.eval gg = .func (.func 37) #[] #[.pointer (some ⟨Bo, 0, none⟩), .pointer (some ⟨Bw, 0, none⟩)])
    (hB : Go.Boxed w B 34 (.slice none 0 0)) (hn0 : w0.heap.size ≤ B) (hb0 : Below w0.heap.size w0 w)
    (hp : (p = none ∧ n = 0 ∧ cap = 0) ∨ ∃ g, p = some ⟨g, 0, none⟩ ∧ n ≤ cap ∧ B < g ∧ RowF w g n D) (hs : SortedOf n D0 D) (hBo : B < Bo) (hBw : B < Bw) (hlo : Bo < w.heap.size) (hc : w.cell? ⟨Bo, 0, none⟩ = some (.slice p n cap)) (hv : Boxed w Bw v.k v.n v.u v.t)
    (hn : n ≤ 1000) (hok : ∀ i, i < n → okS (D0 i) = true) (hL : GapsS v D0 n L) (a1 : Int → Int → Nat → Act)
    (hassign : ∀ (l : Nat) (x y : Int) (W : World) (K : Act → World → Prop), K (a1 x y W.heap.size) (W.alloc (.cells #[.int .u8 4, .int .i64 x, .int .i64 y, .string ⟨#[]⟩] 23)) →
      assign.wpIn (Fence.wide.inRound l) 0 Try.prog (Exit.then K (fun _ _ _ => False)) { tmps := ((#[18] : Array Tmp).zip #[.agg #[.int .u8 4, .int .i64 x, .int .i64 y, .string ⟨#[]⟩]]).foldl (fun t (p, v) => t.setIfInBounds p v) a.tmps, defers := [] } W)
    (hbody : ∀ (l : Nat) (x y : Int) (W2 : World) (b : Nat) (u : Value) (g' k' cap' : Nat) (W4 : World), W2.cell? ⟨B, 0, none⟩ = some u → Boxed W2 b 4 x y ⟨#[]⟩ → b + 1 = W2.heap.size →
      (Builtin.append_ #[34, 34] 34 #[u, .slice (some ⟨b + 1, 0, none⟩) 1 1]).run Try.prog (W2.alloc (.cells #[.int .u8 4, .int .i64 x, .int .i64 y, .string ⟨#[]⟩] 23)) = .ok (.slice (some ⟨g', 0, none⟩) (k' + 1) cap') W4 → W4.cell? ⟨B, 0, none⟩ = some u → W4.frozen? ⟨B, 0, none⟩ = false →
      body.wpIn (Fence.wide.inRound l) 0 Try.prog (fun e _ W3 => e = .normal ∧ W3 = W4.setCell ⟨B, 0, none⟩ (.slice (some ⟨g', 0, none⟩) (k' + 1) cap')) (a1 x y b) W2)
    (hdone : ∀ (Dd : Nat) (s : Value) (W : World), w.heap.size ≤ Dd → Go.Boxed W B 34 s → W.ownsRow w0.heap.size 23 4 s L.length (flatG L) → Below w0.heap.size w0 W → W.heap[Dd]? = some (.deferred (some [])) → Q .normal { a with defers := { target := .collected Dd, args := #[] } :: a.defers } W) :
    (Code.rangeFunc gg #[18] assign body).wpIn .wide 3 Try.prog Q a w := by
  have eg : ∀ args w, (callFunc 37 args).run Try.prog w = .ok (.enter 37 args) w := enters_of Try.func37 (by kernel_rfl) rfl
  refine wpIn_rangeFunc ?_
  intro fn hfn
  obtain ⟨rec, hrec⟩ : ∃ rec : LoopState → Loop, rec = fun st => { state := st, pending := none, fn := fn, tmps := a.tmps, params := #[18], assign := assign, body := body, defers := w.heap.size } := ⟨_, rfl⟩
  obtain ⟨W1, hW1⟩ : ∃ W1, (w.alloc (.deferred (some []))).alloc (.loop (rec .ready)) = W1 := ⟨_, rfl⟩
  have hbb : Below w.heap.size w W1 := by rw [← hW1]; exact below_tr (Below.allocs _ _) (Below.allocs _ _)
  have sz : W1.heap.size = w.heap.size + 2 := by rw [← hW1]; simp
  have hl1 : W1.heap[w.heap.size + 1]? = some (.loop (rec .ready)) := by
    rw [← hW1]; have := World.alloc_heap_new (w.alloc (.deferred (some []))) (.loop (rec .ready)); rwa [World.size_alloc] at this
  have hd1 : W1.heap[w.heap.size]? = some (.deferred (some [])) := by
    rw [← hW1]; exact (Below.heap_alloc _ _ _ (by simp)).trans (World.alloc_heap_new w _)
  have hBlt := some_lt hB
  have hn1 : w0.heap.size ≤ w.heap.size := hb0.size
  have hJ : JF (w.heap.size + 1) w.heap.size B w0.heap.size rec w0 [] W1 :=
    ⟨hl1, hd1, ⟨.slice none 0 0, (hbb.block _ hBlt).trans hB, World.ownsRow_nil W1 _ _ _⟩, hb0.trans (hbb.mono hb0.size)⟩
  have hsafe : ∀ k, B < k → k < w.heap.size → SafeF (w.heap.size + 1) w.heap.size B W1 k := fun k h1 h2 => by
    refine ⟨by omega, by omega, by omega, by omega, fun u hu => ?_⟩
    rw [((show Go.Boxed W1 B _ _ from (hbb.block _ hBlt).trans hB)).cell] at hu
    cases hu
    simp [Value.ownBlock]
  have ht : Turns (w.heap.size + 1) (JF (w.heap.size + 1) w.heap.size B w0.heap.size rec w0) (SafeF (w.heap.size + 1) w.heap.size B) := by
    refine ⟨fun L W W' h hb => h.old h.bel.size hb, fun L W W' k h hs hb => hs.stay h hb, fun L W W' k h hb h1 h2 => .new h hb h1 h2, fun W k h => h.lt, fun L x y W h hlen => ?_⟩
    obtain ⟨u, v', W4, t1, t2, t3, t4, t5, ⟨g', cap', rfl⟩, t7, t8, t9, t10⟩ := turn_world h h.bel.size hn0 (by omega) hlen x y
    have hy := run_yield (P := Try.prog) (args := #[.agg #[.int .u8 4, .int .i64 x, .int .i64 y, .string ⟨#[]⟩]]) h.rec' (by rw [hrec]; rfl)
    rw [hrec] at hy
    refine ⟨fn, _, assign, body, hy, roundIn_of_wpIn trivial (hassign _ x y W _ ⟨_, run_beginRound t2 (by rw [hrec]), ?_⟩)⟩
    have e1 : ({ rec .ready with state := .busy } : Loop) = rec .busy := by rw [hrec]
    rw [e1]
    refine wpIn_mono (hbody _ x y _ W.heap.size u g' L.length cap' W4 t3.cell t4 (by simp) t5 t7.cell t7.frozen) ?_
    rintro e a3 W3 ⟨rfl, rfl⟩
    have hend := run_endRound (P := Try.prog) none t8
    have e2 : ({ rec .busy with state := if (none : Option Code).isNone then .ready else .done, pending := none } : Loop) = rec .ready := by rw [hrec]; rfl
    rw [e2] at hend
    exact ⟨_, _, hend, rfl, t9, t10⟩
  have hcall := gaps1_is (w.heap.size + 1) Bo Bw n cap p D D0 v _ _ ht hn W1 hJ
    (by
      rcases hp with h | ⟨g, e, h1, h2, h3⟩
      · exact .inl h
      · exact .inr ⟨g, e, h1, hsafe g h2 h3.lt, h3.below hbb⟩) hs (by rw [hbb.cell (p := ⟨Bo, 0, none⟩) hlo]; exact hc) (hsafe Bo hBo hlo) (hv.below hbb) (hsafe Bw hBw hv.2.2.2.2) hok L hL
  refine ⟨w.heap.size + 1, [{ target := .collected w.heap.size, args := #[] }], W1, { target := .fn (.func 37) #[.pointer (some ⟨Bo, 0, none⟩), .pointer (some ⟨Bw, 0, none⟩)], args := #[.func (.yield (w.heap.size + 1)) #[] #[]] }, W1, 37,
    #[.func (.yield (w.heap.size + 1)) #[] #[], .pointer (some ⟨Bo, 0, none⟩), .pointer (some ⟨Bw, 0, none⟩)], W1, ?_, ?_, fun _ _ => trivial, ?_, fun _ => by omega, ?_⟩
  · rw [← hW1, hrec]; exact run_enterLoop_outer _ _ _ _ _
  · simp only [resolve, hg]
    simp [go_sem]
  · simp [invoke, go_sem, eg]
  · refine (callsIn_wide.2 (callsIn_wide.1 hcall)).mono ?_
    rintro e W2 ⟨⟨x, rfl⟩, hJ2⟩
    refine ⟨none, _, by have := run_endLoop (P := Try.prog) hJ2.rec' (by rw [hrec]; simp); rw [hrec] at this; exact this, ?_⟩
    obtain ⟨s, hs2, ho2⟩ := hJ2.own
    have hlB : B ≠ w.heap.size + 1 := by omega
    refine hdone _ s _ (Nat.le_refl _) ((World.putObj_heap_other hlB).trans hs2) (ownsRow_putObj ho2 _ hJ2.rec' rfl) ?_ ((World.putObj_heap_other (by omega)).trans hJ2.dfr)
    exact hJ2.bel.grown (grownBy_putObj' W2 _ _) hJ2.bel.size (fun k e => by cases e; omega)


section
attribute [local go_sem] Oper.semAt_some
set_option maxRecDepth 100000 in
set_option maxHeartbeats 2000000 in
theorem free_ok (v : Val) (a : Option Addr) (n c : Nat) (D : Nat → Val) (w : World) (hl : SlV w a n c D) (hv : okS v = true) (hok : ∀ i, i < n → okS (D i) = true) (L : List (Int × Int)) (hL : GapsS v D n L) :
    Calls Try.prog 22 #[.agg #[.int .u8 v.k, .int .i64 v.n, .int .i64 v.u, .string v.t], .slice a n c] w fun e w' => ∃ s, e = .returned (.tuple #[s, .int .i64 0]) ∧ w'.ownsRow w.heap.size 23 4 s L.length (flatG L) ∧ Below w.heap.size w w' := by
  obtain ⟨W, g, hW, hg, B0, hb0, hs⟩ := boxX w v
  have hbf : ((List.range n).map D).any (fun v => !okS v) = false := by
    rw [List.any_eq_false]
    intro x hx
    obtain ⟨i, hi, rfl⟩ := List.mem_map.1 hx
    rw [hok i (by simpa using hi)]
    decide
  have HV := Lib.hid hv
  have HB := Lib.hid hb0
  have HL0 := Lib.hid (hl.below hb0)
  have HBB := Lib.hid hbf
  have HOK := Lib.hid hok
  have HLL := Lib.hid hL
  have HB0 := Lib.hid B0
  have HSM := Lib.hid hl.small
  obtain ⟨b0, b1, b2, b3, b4⟩ := B0
  clear hb0 hs hv hl hbf hok hL
  refine (callsIn_wide (n := 3)).1 ?_
  refine callsIn_of_wp_marks Try.func22 rfl trivial ?_ rfl
  simp only [Try.ntmps22, List.size_toArray, List.length_cons, List.length_nil, Nat.reduceAdd, Nat.reduceSub, Array.replicate_succ, Array.replicate_zero, List.push_toArray, List.append_toArray, List.nil_append, List.cons_append]
  refine wpIn_wide.2 ?_
  go_wp2_with fail
  refine (invalid_is v false (by rw [HV.out]; rfl) _).mono ?_
  rintro e w1 ⟨rfl, hb1⟩
  have hcon := bad_is a n c D false HBB.out w1 (HL0.out.below hb1)
  have HB1 := Lib.hid hb1
  clear b0 b1 b2 b3 b4
  go_wp2_with fail
  refine hcon.mono ?_
  rintro e w2 ⟨rfl, hb2⟩
  obtain ⟨W3, hW3, hc3, hb3, hlt3⟩ := boxC w2 (.slice none 0 0) 34
  have hA := below_tr (below_tr HB1.out hb2) hb3
  have HW := Lib.hid (HB0.out.below hA)
  have HL := Lib.hid (HL0.out.below hA)
  have HA := Lib.hid (below_tr HB.out hA)
  have HLT : Hid (w.heap.size ≤ w2.heap.size ∧ w2.heap.size < W3.heap.size) := Lib.hid ⟨(below_tr (below_tr HB.out HB1.out) hb2).size, hlt3⟩
  have HX3 : Hid (Go.Boxed W3 w2.heap.size 34 (.slice none 0 0)) := Lib.hid (by rw [← hW3]; exact Go.Boxed.new w2 _ _)
  clear hcon hb1 hb2 hb3 hA HB0 HL0 HB HB1
  go_wp2_with fail
  have hdr := below_drw W3
  try simp only [List.append_eq, List.cons_append, List.nil_append]
  refine RX.wp_region_plan (fun w w' => Below w.heap.size w w') [.it (.agg #[.int .u8 v.k, .int .i64 v.n, .int .i64 v.u, .string v.t]), .it (.slice a n c), .of (IsSrt W3.heap.size n D), .of (IsGps W3.heap.size n D v)] (by kernel_rfl) (by kernel_rfl) (fun _ => Below.refl _ _) (fun _ _ _ => below_tr) ?_
  refine RX.seqP_value (fun _ => Below.refl _ _) _ (by first | rfl | simp) (fun w' hw' hctx => ?_) ?_
  · obtain ⟨c0, c1, c2, c3, c4⟩ := HW.out.below (below_tr hdr hw')
    go_simp
    try first | with_reducible rfl | simp
  simp only [Act.put, List.setIfInBounds_toArray, List.set_cons_zero, List.set_cons_succ]
  refine RX.seqP_value (fun _ => Below.refl _ _) _ (by first | rfl | simp) (fun w' hw' hctx => by (go_simp); (try first | with_reducible rfl | simp)) ?_
  simp only [Act.put, List.setIfInBounds_toArray, List.set_cons_zero, List.set_cons_succ]
  refine RX.seqP_callOf (35) #[.slice a n c] (IsSrt W3.heap.size n D) (fun w w' v hb h => h.below hb) (by first | rfl | simp) (fun w' hw' hctx => ?_) (fun w' hw' hctx => srt_is a n c D w' (HL.out.below (below_tr hdr hw')) _ (below_tr hdr hw').size) (fun u2 => ?_)
  · go_simp
  simp only [Act.put, List.setIfInBounds_toArray, List.set_cons_zero, List.set_cons_succ]
  refine RX.seqP_callOf (34) #[.agg #[.int .u8 v.k, .int .i64 v.n, .int .i64 v.u, .string v.t], u2] (IsGps W3.heap.size n D v) (fun w w' v hb h => h.below hb) (by first | rfl | simp) (fun w' hw' hctx => ?_) (fun w' hw' hctx => gps_is v n D _ u2 w' (below_tr hdr hw').size (hctx.1)) (fun u3 => ?_)
  · go_simp
  simp only [Act.put, List.setIfInBounds_toArray, List.set_cons_zero, List.set_cons_succ]
  refine RX.seqP_nil (fun v1 hR hctx _ => ?_)
  have hv1 := below_tr hdr hR
  have HGP := Lib.hid (hctx.1)
  clear hctx hR
  obtain ⟨Bo, Bw, p, cap, D', rfl, hp, hS, hBo, hBw, hlo, hco, hbw⟩ : IsGps W3.heap.size n D v v1 u3 := HGP.out
  have HX1 : Hid (Go.Boxed v1 w2.heap.size 34 (.slice none 0 0)) := Lib.hid ((hv1.block _ (some_lt HX3.out)).trans HX3.out)
  have HV1 := Lib.hid (below_tr HA.out hv1)
  have HP := Lib.hid hp
  have HS := Lib.hid (And.intro hS (And.intro hBo (And.intro hBw (And.intro hlo (And.intro hco hbw)))))
  have HZ := Lib.hid hv1.size
  clear HGP hp hS hBo hBw hlo hco hbw hv1 hdr hc3 HX3 HA HW hW3
  go_wp2_with fail
  refine (wpIn_wide (n := 3)).1 ?_
  refine range_own (w0 := w) rfl HX1.out ?q1 HV1.out ?q2 HS.out.1 ?q3 ?q4 HS.out.2.2.2.1 HS.out.2.2.2.2.1 HS.out.2.2.2.2.2 HSM.out HOK.out HLL.out ?a1 ?qassign ?qbody ?qdone
  case q1 => exact HLT.out.1
  case q2 =>
    rcases HP.out with h | ⟨g, e, h1, h2, h3⟩
    · exact .inl h
    · exact .inr ⟨g, e, h1, by have := HLT.out.2; omega, h3⟩
  case q3 => have := HLT.out.2; have := HS.out.2.1; omega
  case q4 => have := HLT.out.2; have := HS.out.2.2.1; omega
  case a1 => exact fun x y b => { tmps := #[.agg #[.int .u8 v.k, .int .i64 v.n, .int .i64 v.u, .string v.t], .slice a n c, .pointer (some ⟨g, 0, none⟩), undef, .slice none 0 0, .int .i64 0, .pointer (some ⟨w2.heap.size, 0, none⟩), .pointer (some ⟨b, 0, none⟩), .agg #[.int .u8 v.k, .int .i64 v.n, .int .i64 v.u, .string v.t], .bool false, .bool false, .slice a n c, .bool false, .bool false, .agg #[.int .u8 v.k, .int .i64 v.n, .int .i64 v.u, .string v.t], .slice a n c, u2, .func (.func 37) #[] #[.pointer (some ⟨Bo, 0, none⟩), .pointer (some ⟨Bw, 0, none⟩)], .agg #[.int .u8 4, .int .i64 x, .int .i64 y, .string ⟨#[]⟩], undef, undef, undef, undef, undef], defers := [] }
  case qassign =>
    intro l x y W K hK
    gi_wp2
    exact hK
  case qbody =>
    intro l x y W2 b u g' k' cap' W4 h1 h2 h3 h4 h5 h6
    obtain ⟨d0, d1, d2, d3, d4⟩ := h2
    rw [h3] at h4
    have H4 := Lib.hid h4
    clear h3 h4
    gi_wp2_with (gi_at_builtin; refine append_step _ rfl _ _ 34 rfl _ _ _ _ rfl rfl H4.out ?_)
  case qdone =>
    intro Dd s W' hD hs ho hb hK
    have hc := hs.cell
    have HO := Lib.hid ho
    have HBE := Lib.hid hb
    have HD := Lib.hid hD
    clear ho hb hs hD
    go_wp2_with fail
    refine ⟨by simp, .inl ⟨_, _, rfl, run_takeDeferred hK, ?_⟩⟩
    refine ⟨.tuple #[s, .int .i64 0], by simp [results, Try.results22, go_sem], ⟨s, rfl, ownsRow_putObj HO.out _ hK rfl, ?_⟩⟩
    exact HBE.out.grown (grownBy_putObj' W' _ _) HBE.out.size (fun k e => by cases e; have := HBE.out.size; have := HLT.out; have := HD.out; have := HZ.out; omega)
end

/-- The gaps there are. -/
theorem GapsS.exists (v : Val) (n : Nat) (D : Nat → Val) (hok : ∀ i, i < n → okS (D i) = true) : ∃ L, GapsS v D n L := by
  obtain ⟨D', hp, hs⟩ : ∃ D' : Nat → Val, ((List.range n).map D').Perm ((List.range n).map D) ∧ ∀ i j, i < j → j < n → (D' i).n ≤ (D' j).n := by
    let L := ((List.range n).map D).mergeSort (fun a b => decide (a.n ≤ b.n))
    have hl : L.length = n := by simp [L, List.length_mergeSort]
    have hp : L.Perm ((List.range n).map D) := List.mergeSort_perm _ _
    have hs : L.Pairwise (fun a b => decide (a.n ≤ b.n) = true) := List.pairwise_mergeSort (fun a b c h1 h2 => by simp at *; omega) (fun a b => by simp; omega) _
    refine ⟨fun i => L.getD i Val.zero, ?_, fun i j hij hj => ?_⟩
    · have e : (List.range n).map (fun i => L.getD i Val.zero) = L := by
        apply List.ext_getElem
        · simp [hl]
        · intro i h1 h2
          simp [h2]
      rw [e]
      exact hp
    · have := List.pairwise_iff_getElem.1 hs i j (by omega) (by omega) hij
      simp [show i < L.length by omega, show j < L.length by omega]
      simpa using this
  have hmem : ∀ j, j < n → okS (D' j) = true := fun j hj => by
    have : D' j ∈ (List.range n).map D := hp.mem_iff.1 (List.mem_map.2 ⟨j, by simpa using hj, rfl⟩)
    obtain ⟨i, hi, e⟩ := List.mem_map.1 this
    rw [← e]
    exact hok i (by simpa using hi)
  obtain ⟨k, hk, hki⟩ := turns_at (fun i => v.u ≤ (D' i).n) n (fun i j hij hj h => by
    rcases Nat.lt_or_eq_of_le hij with q | rfl
    · have := hs i j q hj; omega
    · exact h)
  exact ⟨_, gaps_end D' D n k v hk (fun j hj => okS_lt (hmem j hj)) hs (fun i hi => by
    have := hki i (by omega)
    rcases Int.lt_or_le (D' i).n v.u with q | q
    · exact q
    · have := this.2 q; omega) (fun i hi hk' => (hki i hi).1 hk') hp⟩

end Go.Proofs.Ytnifpphimodonaa
