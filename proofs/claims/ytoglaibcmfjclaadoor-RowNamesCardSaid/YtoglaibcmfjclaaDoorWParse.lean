/-
  package row's Parse.
-/
import Derived.Test.YtoglaibcmfjclaaDoorWTurn
namespace Go.Proofs.YtoglaibcmfjclaaDoor
open Go.RowKit

/-- A range over the parts of a text whose turns read a value and append it. -/
theorem range_parts {gg : Operand} {tp : Tmp} {assign body : Code} {Q : Exit → Act → World → Prop} {a : Act} {w w0 : World} {B r0 r1 Bi : Nat} {s : ByteArray}
    (hg : a.eval gg = .func (.func 56) #[] #[.pointer (some ⟨Bi, 0, none⟩)])
    (hB : Go.Boxed w B 35 (.slice none 0 0)) (hz0 : Go.Boxed w r0 35 (.slice none 0 0)) (hz1 : Go.Boxed w r1 33 (.int .i64 0))
    (hr : r0 ≠ B) (hnB : w0.heap.size ≤ B) (hn0 : w0.heap.size ≤ r0) (hn1 : w0.heap.size ≤ r1) (hb0 : Below w0.heap.size w0 w) (hgood : Good w0) (hc : w.cell? ⟨Bi, 0, none⟩ = some (.string s)) (hs : s.size ≤ 100000)
    (a1 : ByteArray → Act)
    (hassign : ∀ (l : Nat) (p : ByteArray) (W : World) (K : Act → World → Prop), K (a1 p) W →
      assign.wpIn (Fence.wide.inRound l) 0 Tryd.prog (Exit.then K (fun _ _ _ => False)) { tmps := ((#[tp] : Array Tmp).zip #[.string p]).foldl (fun t (p, v) => t.setIfInBounds p v) a.tmps, defers := [] } W)
    (hyes : ∀ (l : Nat) (p : ByteArray) (v : Val) (W2 : World) (u : Value) (k : Nat) (R : World → Prop), (∀ W, Below W2.heap.size W2 W → Calls Tryd.prog 42 #[.string p] W fun e W3 => e = .returned (.tuple #[.agg #[.int .u8 v.k, .int .i64 v.n, .int .i64 v.u, .string v.t], .int .i64 0]) ∧ Below W.heap.size W W3) →
      (∀ W3, Below W2.heap.size W2 W3 → W3.cell? ⟨B, 0, none⟩ = some u) →
      (∀ W3, Below W2.heap.size W2 W3 → ∃ g cap W4, (Builtin.append_ #[35, 35] 35 #[u, .slice (some ⟨W3.heap.size + 1, 0, none⟩) 1 1]).run Tryd.prog ((W3.alloc (.cells #[.int .u8 v.k, .int .i64 v.n, .int .i64 v.u, .string v.t] 25)).alloc (.cells #[.int .u8 v.k, .int .i64 v.n, .int .i64 v.u, .string v.t] 25)) = .ok (.slice (some ⟨g, 0, none⟩) (k + 1) cap) W4 ∧
        W4.cell? ⟨B, 0, none⟩ = some u ∧ W4.frozen? ⟨B, 0, none⟩ = false ∧ R (W4.setCell ⟨B, 0, none⟩ (.slice (some ⟨g, 0, none⟩) (k + 1) cap))) →
      body.wpIn (Fence.wide.inRound l) 0 Tryd.prog (fun e _ W3 => e = .normal ∧ R W3) (a1 p) W2)
    (hno : ∀ (l : Nat) (p : ByteArray) (W2 : World) (R : World → Prop), (∀ W, Below W2.heap.size W2 W → Calls Tryd.prog 42 #[.string p] W fun e W3 => e = .returned (.tuple #[.agg #[.int .u8 0, .int .i64 0, .int .i64 0, .string ⟨#[]⟩], .int .i64 4]) ∧ Below W.heap.size W W3) →
      (∀ W3 o, Below W2.heap.size W2 W3 → (W3.alloc o).cell? ⟨r0, 0, none⟩ = some (.slice none 0 0) ∧ (W3.alloc o).frozen? ⟨r0, 0, none⟩ = false ∧ ((W3.alloc o).setCell ⟨r0, 0, none⟩ (.slice none 0 0)).cell? ⟨r1, 0, none⟩ = some (.int .i64 0) ∧ ((W3.alloc o).setCell ⟨r0, 0, none⟩ (.slice none 0 0)).frozen? ⟨r1, 0, none⟩ = false ∧
        R (((W3.alloc o).setCell ⟨r0, 0, none⟩ (.slice none 0 0)).setCell ⟨r1, 0, none⟩ (.int .i64 4))) →
      body.wpIn (Fence.wide.inRound l) 0 Tryd.prog (fun e _ W3 => e = .ret ∧ R W3) (a1 p) W2)
    (hdone : ∀ (Dd : Nat) (L : List Val) (sv : Value) (W : World), rowIn s.data.toList = some L → w.heap.size ≤ Dd → Go.Boxed W B 35 sv → W.ownsRow w0.heap.size 25 4 sv L.length (flatL L) → Go.Boxed W r0 35 (.slice none 0 0) → Go.Boxed W r1 33 (.int .i64 0) → Below w0.heap.size w0 W → W.heap[Dd]? = some (.deferred (some [])) → Q .normal { a with defers := { target := .collected Dd, args := #[] } :: a.defers } W)
    (hstop : ∀ (Dd : Nat) (W : World), rowIn s.data.toList = none → w.heap.size ≤ Dd → Go.Boxed W r0 35 (.slice none 0 0) → Go.Boxed W r1 33 (.int .i64 4) → Below w0.heap.size w0 W → W.heap[Dd]? = some (.deferred (some [])) → Q .ret { a with defers := { target := .collected Dd, args := #[] } :: a.defers } W) :
    (Code.rangeFunc gg #[tp] assign body).wpIn .wide 3 Tryd.prog Q a w := by
  have eg : ∀ args w, (callFunc 56 args).run Tryd.prog w = .ok (.enter 56 args) w := enters_of Tryd.func56 (by kernel_rfl) rfl
  refine wpIn_rangeFunc ?_
  intro fn hfn
  obtain ⟨rec, hrec⟩ : ∃ rec : LoopState → Option Code → Loop, rec = fun st pe => { state := st, pending := pe, fn := fn, tmps := a.tmps, params := #[tp], assign := assign, body := body, defers := w.heap.size } := ⟨_, rfl⟩
  obtain ⟨W1, hW1⟩ : ∃ W1, (w.alloc (.deferred (some []))).alloc (.loop (rec .ready none)) = W1 := ⟨_, rfl⟩
  have hbb : Below w.heap.size w W1 := by rw [← hW1]; exact below_tr (Below.allocs _ _) (Below.allocs _ _)
  have sz : W1.heap.size = w.heap.size + 2 := by rw [← hW1]; simp
  have hl1 : W1.heap[w.heap.size + 1]? = some (.loop (rec .ready none)) := by
    rw [← hW1]; have := World.alloc_heap_new (w.alloc (.deferred (some []))) (.loop (rec .ready none)); rwa [World.size_alloc] at this
  have hd1 : W1.heap[w.heap.size]? = some (.deferred (some [])) := by
    rw [← hW1]; exact (Below.heap_alloc _ _ _ (by simp)).trans (World.alloc_heap_new w _)
  have hn : w0.heap.size ≤ w.heap.size := hb0.size
  have hJ : JP (w.heap.size + 1) w.heap.size B r0 r1 w0.heap.size rec w0 [] W1 :=
    ⟨hl1, hd1, ⟨.slice none 0 0, (hbb.block _ (some_lt hB)).trans hB, World.ownsRow_nil W1 _ _ _⟩, (hbb.block _ (some_lt hz0)).trans hz0, (hbb.block _ (some_lt hz1)).trans hz1, hb0.trans (hbb.mono hb0.size)⟩
  have ht : Turns (w.heap.size + 1) (JP (w.heap.size + 1) w.heap.size B r0 r1 w0.heap.size rec w0) (SP (w.heap.size + 1) w.heap.size r0 r1 w0.heap.size rec w0) := by
    refine ⟨fun L W W' h hb => h.old h.bel.size hb, fun W W' h hb => h.old h.bel.size hb, fun L p v W h hlen hp hv => ?_, fun L p W h hlen hp hv => ?_⟩
    · have hy := run_yield (P := Tryd.prog) (args := #[.string p]) h.rec' (by rw [hrec]; rfl)
      rw [hrec] at hy
      obtain ⟨u, hu, ht⟩ := turn_yes h hnB (by omega) hr v hlen
      refine ⟨fn, _, assign, body, hy, roundIn_of_wpIn trivial (hassign _ p W _ ⟨_, run_beginRound h.rec' (by rw [hrec]), ?_⟩)⟩
      have e1 : ({ rec .ready none with state := .busy } : Loop) = rec .busy none := by rw [hrec]
      rw [e1]
      have hgW : ∀ W3, Below (W.putObj (w.heap.size + 1) (.loop (rec .busy none))).heap.size (W.putObj (w.heap.size + 1) (.loop (rec .busy none))) W3 → Good W3 := fun W3 hb => by
        have hx : Below w0.heap.size w0 (W.putObj (w.heap.size + 1) (.loop (rec .busy none))) := h.bel.grown (grownBy_putObj' W _ _) h.bel.size (fun k e => by cases e; omega)
        exact hgood.below (hx.trans (hb.mono hx.size))
      refine wpIn_mono (hyes _ p v _ u L.length (fun W' => W'.heap[w.heap.size + 1]? = some (.loop (rec .busy none)) ∧ JP (w.heap.size + 1) w.heap.size B r0 r1 w0.heap.size rec w0 (L ++ [v]) (W'.putObj (w.heap.size + 1) (.loop (rec .ready none)))) (fun W3 hb => parse_y p hp v hv W3 (hgW W3 hb)) (fun W3 hb => (ht W3 hb).1.cell) (fun W3 hb => ?_)) ?_
      · obtain ⟨_, g, cap, W4, h1, h2, h3, h4⟩ := ht W3 hb
        exact ⟨g, cap, W4, h1, h2.cell, h2.frozen, h3, h4⟩
      · rintro e a3 W3 ⟨rfl, h3, h4⟩
        have hend := run_endRound (P := Tryd.prog) none h3
        have e2 : ({ rec .busy none with state := if (none : Option Code).isNone then .ready else .done, pending := none } : Loop) = rec .ready none := by rw [hrec]; rfl
        rw [e2] at hend
        exact ⟨_, _, hend, rfl, h4⟩
    · have hy := run_yield (P := Tryd.prog) (args := #[.string p]) h.rec' (by rw [hrec]; rfl)
      rw [hrec] at hy
      have ht := turn_no h (by omega) hn0 hn1
      refine ⟨fn, _, assign, body, hy, roundIn_of_wpIn trivial (hassign _ p W _ ⟨_, run_beginRound h.rec' (by rw [hrec]), ?_⟩)⟩
      have e1 : ({ rec .ready none with state := .busy } : Loop) = rec .busy none := by rw [hrec]
      rw [e1]
      have hgW : ∀ W3, Below (W.putObj (w.heap.size + 1) (.loop (rec .busy none))).heap.size (W.putObj (w.heap.size + 1) (.loop (rec .busy none))) W3 → Good W3 := fun W3 hb => by
        have hx : Below w0.heap.size w0 (W.putObj (w.heap.size + 1) (.loop (rec .busy none))) := h.bel.grown (grownBy_putObj' W _ _) h.bel.size (fun k e => by cases e; omega)
        exact hgood.below (hx.trans (hb.mono hx.size))
      refine wpIn_mono (hno _ p _ (fun W' => W'.heap[w.heap.size + 1]? = some (.loop (rec .busy none)) ∧ SP (w.heap.size + 1) w.heap.size r0 r1 w0.heap.size rec w0 (W'.putObj (w.heap.size + 1) (.loop (rec .done (some .ret))))) (fun W3 hb => parse_n p hp hv W3 (hgW W3 hb)) (fun W3 o hb => ht W3 hb o)) ?_
      rintro e a3 W3 ⟨rfl, h3, h4⟩
      have hend := run_endRound (P := Tryd.prog) (some .ret) h3
      have e2 : ({ rec .busy none with state := if (some Code.ret : Option Code).isNone then .ready else .done, pending := some .ret } : Loop) = rec .done (some .ret) := by rw [hrec]; rfl
      rw [e2] at hend
      exact ⟨_, _, hend, rfl, h4⟩
  have hcall := split1_is (w.heap.size + 1) Bi s _ _ ht hs W1 hJ (by rw [hbb.cell (p := ⟨Bi, 0, none⟩) (cell_lt hc)]; exact hc)
  refine ⟨w.heap.size + 1, [{ target := .collected w.heap.size, args := #[] }], W1, { target := .fn (.func 56) #[.pointer (some ⟨Bi, 0, none⟩)], args := #[.func (.yield (w.heap.size + 1)) #[] #[]] }, W1, 56,
    #[.func (.yield (w.heap.size + 1)) #[] #[], .pointer (some ⟨Bi, 0, none⟩)], W1, ?_, ?_, fun _ _ => trivial, ?_, fun _ => by omega, ?_⟩
  · rw [← hW1, hrec]; exact run_enterLoop_outer _ _ _ _ _
  · simp only [resolve, hg]
    simp [go_sem]
  · simp [invoke, go_sem, eg]
  · refine (callsIn_wide.2 (callsIn_wide.1 hcall)).mono ?_
    rintro e W2 ⟨⟨x, rfl⟩, ⟨L, hL, hJ2⟩ | ⟨hN, hS2⟩⟩
    · refine ⟨none, _, by have := run_endLoop (P := Tryd.prog) hJ2.rec' (by rw [hrec]; simp); rw [hrec] at this; exact this, ?_⟩
      obtain ⟨sv, hs2, ho2⟩ := hJ2.own
      have hlB : B ≠ w.heap.size + 1 := (ne_of_objs hJ2.rec' hs2 (by simp)).symm
      have hl0 : r0 ≠ w.heap.size + 1 := (ne_of_objs hJ2.rec' hJ2.z0 (by simp)).symm
      have hl1' : r1 ≠ w.heap.size + 1 := (ne_of_objs hJ2.rec' hJ2.z1 (by simp)).symm
      refine hdone _ L sv _ hL (Nat.le_refl _) ((World.putObj_heap_other hlB).trans hs2) (ownsRow_putObj ho2 _ hJ2.rec' rfl) ((World.putObj_heap_other hl0).trans hJ2.z0) ((World.putObj_heap_other hl1').trans hJ2.z1) ?_ ((World.putObj_heap_other (by omega)).trans hJ2.dfr)
      exact hJ2.bel.grown (grownBy_putObj' W2 _ _) hJ2.bel.size (fun k e => by cases e; omega)
    · refine ⟨some .ret, _, by have := run_endLoop (P := Tryd.prog) hS2.rec' (by rw [hrec]; simp); rw [hrec] at this; exact this, ?_⟩
      have hl0 : r0 ≠ w.heap.size + 1 := (ne_of_objs hS2.rec' hS2.z0 (by simp)).symm
      have hl1' : r1 ≠ w.heap.size + 1 := (ne_of_objs hS2.rec' hS2.z1 (by simp)).symm
      refine wpIn_ret (hstop _ _ hN (Nat.le_refl _) ((World.putObj_heap_other hl0).trans hS2.z0) ((World.putObj_heap_other hl1').trans hS2.z1) ?_ ((World.putObj_heap_other (by omega)).trans hS2.dfr))
      exact hS2.bel.grown (grownBy_putObj' W2 _ _) hS2.bel.size (fun k e => by cases e; omega)

/-- One step of append whose run is known. -/
theorem append_step {F : Fence} {n : Nat} (w : World) {ops : Array Oper} {rest : List Oper} {o : Oper} {a : Act} {Q : Exit → Act → World → Prop} (hg : o.guard = none) (s x : Operand) (t : TypeId)
    (hop : o.op = Op.call { callee := Callee.builtin Builtin.append, args := #[s, x], argTypes := #[t, t] }) (v xv v' : Value) (w' : World) (hs : a.eval s = v) (hx : a.eval x = xv)
    (hrun : (Builtin.append_ #[t, t] o.type #[v, xv]).run Tryd.prog w = .ok v' w') (hK : wpListIn F n Tryd.prog ops Q rest (a.put o.dst v') w') : wpListIn F n Tryd.prog ops Q (o :: rest) a w := by
  refine wpListIn_plain hg fun K hK' => ?_
  unfold Oper.wpIn
  refine ⟨?_, ?_⟩
  · simp [Oper.about, hop, resolve, Target.leads, Sem.run_pure]
  · rw [Oper.semAt_plain F _ _ (by rw [hop]; intro c hc'; cases hc')]
    simp [execOp, hop, resolve, invoke, builtin, hs, hx, hrun, Result.andThen]
    exact hK' _ _ hK

theorem inRoundW {F : Fence} {n : Nat} {P : Program} {f : FuncId} {args : Array Value} {w : World} {R : Ending → World → Prop} (l : Nat) (h : CallsIn F n P f args w R) : CallsIn (F.inRound l) n P f args w R := h

theorem own_slice {W : World} {base : Nat} {s : Value} {l : List Val} (h : W.ownsRow base 25 4 s l.length (flatL l)) : ∃ a c, s = .slice a l.length c := by
  rcases own_row h with ⟨h1, rfl⟩ | ⟨g, cap, h1, _⟩
  · exact ⟨none, 0, h1⟩
  · exact ⟨_, cap, h1⟩

/-- What Parse hands back: the row and no error, or nothing and an error. -/
def RowIs (W : World) (base : Nat) (o : Option (List Val)) (sv : Value) (e : Int) : Prop :=
  match o with
  | some L => e = 0 ∧ W.ownsRow base 25 4 sv L.length (flatL L)
  | none => e = 4 ∧ sv = .slice none 0 0

section
attribute [local go_sem] Oper.semAt_some
set_option maxRecDepth 100000 in
set_option maxHeartbeats 4000000 in
theorem rparseR_is (s : ByteArray) (hs : s.size ≤ 100000) (w : World) (hg : Good w) :
    Calls Tryd.prog 26 #[.string s] w fun e w' => ∃ sv er, e = .returned (.tuple #[sv, .int .i64 er]) ∧ RowIs w' w.heap.size (rowP s.data.toList) sv er ∧ Below w.heap.size w w' := by
  have HG := Lib.hid hg
  clear hg
  refine (callsIn_wide (n := 3)).1 ?_
  refine callsIn_of_wp_marks Tryd.func26 rfl trivial ?_ rfl
  simp only [Tryd.ntmps26, List.size_toArray, List.length_cons, List.length_nil, Nat.reduceAdd, Nat.reduceSub, Array.replicate_succ, Array.replicate_zero, List.push_toArray, List.append_toArray, List.nil_append, List.cons_append]
  refine wpIn_wide.2 ?_
  go_wp2_with fail
  refine (Tryd.strings_CutPrefix s ⟨#[40]⟩ _).mono ?_
  rintro e w1 ⟨rfl, rfl⟩
  rw [show (⟨#[40]⟩ : ByteArray).data.toList = [40] from rfl]
  obtain ⟨b1, hb1⟩ : ∃ b, Lib.hasPrefix s.data.toList [40] = b := ⟨_, rfl⟩
  obtain ⟨s1, hs1⟩ : ∃ b : ByteArray, ⟨(Lib.trimPrefix s.data.toList [40]).toArray⟩ = b := ⟨_, rfl⟩
  rw [hb1, hs1]
  have HB1 := Lib.hid hb1
  have HS1 := Lib.hid hs1
  have hz1 : s1.size ≤ 100000 := by
    rw [← hs1]
    show (Lib.trimPrefix s.data.toList [40]).toArray.size ≤ 100000
    rw [List.size_toArray]
    have e2 : s.size = s.data.toList.length := rfl
    unfold Lib.trimPrefix
    split
    · simp; omega
    · omega
  clear hb1 hs1
  go_wp2_with fail
  refine (Tryd.strings_CutSuffix s1 ⟨#[41]⟩ _ (by omega)).mono ?_
  rintro e w1 ⟨rfl, rfl⟩
  rw [show (⟨#[41]⟩ : ByteArray).data.toList = [41] from rfl]
  obtain ⟨b2, hb2⟩ : ∃ b, Lib.hasSuffix s1.data.toList [41] = b := ⟨_, rfl⟩
  obtain ⟨s2, hs2⟩ : ∃ b : ByteArray, ⟨(Lib.trimSuffix s1.data.toList [41]).toArray⟩ = b := ⟨_, rfl⟩
  rw [hb2, hs2]
  have HB2 := Lib.hid hb2
  have HS2 := Lib.hid hs2
  have hz2 : s2.size ≤ 100000 := by
    rw [← hs2]
    show (Lib.trimSuffix s1.data.toList [41]).toArray.size ≤ 100000
    rw [List.size_toArray]
    have e2 : s1.size = s1.data.toList.length := rfl
    have := trimSuffix_length s1.data.toList [41]
    omega
  clear hb2 hs2
  have HROW : Hid (rowP s.data.toList = if b1 = true ∧ b2 = true then rowIn s2.data.toList else none) := Lib.hid (by
    unfold rowP
    cases b1
    · simp [HB1.out]
    · have hd : s1.data.toList = s.data.toList.drop 1 := by
        rw [← HS1.out]
        unfold Lib.trimPrefix
        rw [if_pos HB1.out]
        rfl
      have hd2 : s2.data.toList = Lib.trimSuffix (s.data.toList.drop 1) [41] := by rw [← HS2.out, hd]
      rw [HB1.out, ← hd, HB2.out, hd, ← hd2])
  have hbad : ∀ (W : World) (Q : Prop), (b1 = true ∧ b2 = true → False) → rowP s.data.toList = none := fun _ _ h => by rw [HROW.out, if_neg h]
  cases b1
  · have hr := hbad w True (by simp)
    have HR := Lib.hid hr
    clear hbad hr
    go_wp2_with fail
    refine ⟨.tuple #[.slice none 0 0, .int .i64 4], by simp [results, Tryd.results26, go_sem], _, _, rfl, ?_, below_tr (Below.allocs _ _) (Below.allocs _ _)⟩
    rw [HR.out]
    exact ⟨rfl, rfl⟩
  cases b2
  · have hr := hbad w True (by simp)
    have HR := Lib.hid hr
    clear hbad hr
    go_wp2_with fail
    refine ⟨.tuple #[.slice none 0 0, .int .i64 4], by simp [results, Tryd.results26, go_sem], _, _, rfl, ?_, below_tr (Below.allocs _ _) (Below.allocs _ _)⟩
    rw [HR.out]
    exact ⟨rfl, rfl⟩
  clear hbad
  obtain ⟨Wq, hWq⟩ : ∃ Wq, ((w.alloc (.cells #[.slice none 0 0] 35)).alloc (.cells #[.int .i64 0] 33)).alloc (.cells #[.slice none 0 0] 35) = Wq := ⟨_, rfl⟩
  have FQ : Hid (Go.Boxed Wq (w.heap.size + 1 + 1) 35 (.slice none 0 0) ∧ Go.Boxed Wq w.heap.size 35 (.slice none 0 0) ∧ Go.Boxed Wq (w.heap.size + 1) 33 (.int .i64 0) ∧ Wq.heap.size = w.heap.size + 3 ∧ Below w.heap.size w Wq) := Lib.hid (by
    have a0 := Go.Boxed.new w 35 (.slice none 0 0)
    have b0 := Below.allocs w (.cells #[.slice none 0 0] 35)
    have s0 : (w.alloc (.cells #[.slice none 0 0] 35)).heap.size = w.heap.size + 1 := by simp
    generalize w.alloc (.cells #[.slice none 0 0] 35) = A at *
    have a1 := Go.Boxed.new A 33 (.int .i64 0)
    have b1 := Below.allocs A (.cells #[.int .i64 0] 33)
    have s1 : (A.alloc (.cells #[.int .i64 0] 33)).heap.size = A.heap.size + 1 := by simp
    generalize A.alloc (.cells #[.int .i64 0] 33) = A1 at *
    have a2 := Go.Boxed.new A1 35 (.slice none 0 0)
    have b2 := Below.allocs A1 (.cells #[.slice none 0 0] 35)
    have s2 : (A1.alloc (.cells #[.slice none 0 0] 35)).heap.size = A1.heap.size + 1 := by simp
    rw [hWq] at a2 b2 s2
    have e1 : A1.heap.size = w.heap.size + 1 + 1 := by omega
    rw [e1] at a2
    rw [s0] at a1
    exact ⟨a2, ((below_tr b1 b2).block _ (some_lt a0)).trans a0, (b2.block _ (some_lt a1)).trans a1, by omega, below_tr (below_tr b0 b1) b2⟩)
  go_wp2_with fail
  try rw [hWq]
  refine (split_is s2 Wq).mono ?_
  rintro e w2 ⟨rfl, rfl⟩
  clear hWq
  obtain ⟨W, hW⟩ : ∃ W, Wq.alloc (.cells #[.string s2] 9) = W := ⟨_, rfl⟩
  have FW : Hid (Go.Boxed W (w.heap.size + 1 + 1) 35 (.slice none 0 0) ∧ Go.Boxed W w.heap.size 35 (.slice none 0 0) ∧ Go.Boxed W (w.heap.size + 1) 33 (.int .i64 0) ∧ W.cell? ⟨Wq.heap.size, 0, none⟩ = some (.string s2) ∧ Below w.heap.size w W) := Lib.hid (by
    obtain ⟨f0, f1, f2, f3, f4⟩ := FQ.out
    have hb := Below.allocs Wq (.cells #[.string s2] 9)
    have hx := Go.Boxed.new Wq 9 (.string s2)
    rw [hW] at hb hx
    exact ⟨(hb.block _ (some_lt f0)).trans f0, (hb.block _ (some_lt f1)).trans f1, (hb.block _ (some_lt f2)).trans f2, hx.cell, below_tr f4 hb⟩)
  rw [hW]
  clear hW FQ
  go_wp2_with fail
  refine (wpIn_wide (n := 3)).1 ?_
  refine range_parts (w0 := w) (B := w.heap.size + 1 + 1) (r0 := w.heap.size) (r1 := w.heap.size + 1) (Bi := Wq.heap.size) (s := s2) rfl FW.out.1 FW.out.2.1 FW.out.2.2.1 (by omega) (by omega) (Nat.le_refl _) (by omega) FW.out.2.2.2.2 HG.out FW.out.2.2.2.1 hz2 ?a1 ?qassign ?qyes ?qno ?qdone ?qstop
  case a1 => exact fun p => { tmps := #[.string s, undef, .pointer (some ⟨w.heap.size, 0, none⟩), .pointer (some ⟨w.heap.size + 1, 0, none⟩), .string s2, .bool true, .bool true, .pointer (some ⟨w.heap.size + 1 + 1, 0, none⟩), .string p, undef, undef, .tuple #[.string s1, .bool true], .string s, .tuple #[.string s1, .bool true], .string s1, .bool true, .tuple #[.string s2, .bool true], .string s1, .tuple #[.string s2, .bool true], .string s2, .bool true, .bool true, .bool false, .bool false, .bool true, .bool false, .bool false, .string s2, .func (.func 56) #[] #[.pointer (some ⟨Wq.heap.size, 0, none⟩)], .string p, undef, undef, undef, undef, undef, undef, undef, undef, undef, undef, undef, undef], defers := [] }
  case qassign =>
    intro l p W K hK
    gi_wp2
    exact hK
  case qyes =>
    intro l p v W2 u k R hcall hcell happ
    have HC := Lib.hid hcell
    have HAP := Lib.hid happ
    have hcon := hcall W2 (Below.refl _ _)
    clear hcell happ hcall
    gi_wp2_with fail
    refine ⟨trivial, rfl, inRoundW l ((callsIn_wide.2 hcon).mono ?_)⟩
    rintro e W3 ⟨rfl, hb3⟩
    obtain ⟨g, cap, W4, h1, h2, h3, h4⟩ := HAP.out W3 hb3
    have hcu := HC.out W3 hb3
    obtain ⟨V, gb, hV, hgb, BX, hbV, hsV⟩ := boxX W3 v
    have hcV : V.cell? ⟨w.heap.size + 1 + 1, 0, none⟩ = some u := by rw [hbV.cell (p := ⟨w.heap.size + 1 + 1, 0, none⟩) (cell_lt hcu)]; exact hcu
    obtain ⟨x0, x1, x2, x3, x4⟩ := BX
    rw [hV] at h1
    rw [hgb] at h1
    have HRUN := Lib.hid h1
    have HRR := Lib.hid h4
    clear hcon hb3 h1 h4 hcu hbV
    gi_wp2_with (gi_at_builtin; refine append_step _ rfl _ _ 35 rfl _ _ _ _ rfl rfl HRUN.out ?_)
    exact HRR.out
  case qno =>
    intro l p W2 R hcall hcell
    have HC := Lib.hid hcell
    have hcon := hcall W2 (Below.refl _ _)
    clear hcell hcall
    gi_wp2_with fail
    refine ⟨trivial, rfl, inRoundW l ((callsIn_wide.2 hcon).mono ?_)⟩
    rintro e W3 ⟨rfl, hb3⟩
    obtain ⟨h1, h2, h3, h4, h5⟩ := HC.out W3 (.cells #[.int .u8 0, .int .i64 0, .int .i64 0, .string ⟨#[]⟩] 25) hb3
    have HRR := Lib.hid h5
    clear hcon hb3 h5
    gi_wp2_with fail
    exact HRR.out
  case qdone =>
    intro Dd L sv W' hL hD hx ho h0 h1 hb hK
    obtain ⟨a', c', rfl⟩ := own_slice ho
    have hc := hx.cell
    have hz0 := h0.cell
    have hz1 := h1.cell
    have hf0 := h0.frozen
    have hf1 := h1.frozen
    have HROW2 := Lib.hid (HROW.out.trans ((if_pos (by first | exact ⟨rfl, rfl⟩ | exact ⟨trivial, trivial⟩)).trans hL))
    have HO := Lib.hid ho
    have HBE := Lib.hid hb
    have HD := Lib.hid hD
    have H0 := Lib.hid h0
    have H1 := Lib.hid h1
    clear ho hb hL hD h0 h1 hx
    go_wp2_with fail
    obtain ⟨Wy, hWy⟩ : ∃ Wy, (W'.setCell ⟨w.heap.size, 0, none⟩ (.slice a' L.length c')).setCell ⟨w.heap.size + 1, 0, none⟩ (.int .i64 0) = Wy := ⟨_, rfl⟩
    rw [hWy]
    have FY : Hid (Wy.heap[Dd]? = some (.deferred (some [])) ∧ (Wy.putObj Dd (.deferred none)).cell? ⟨w.heap.size, 0, none⟩ = some (.slice a' L.length c') ∧ (Wy.putObj Dd (.deferred none)).cell? ⟨w.heap.size + 1, 0, none⟩ = some (.int .i64 0) ∧ (Wy.putObj Dd (.deferred none)).ownsRow w.heap.size 25 4 (.slice a' L.length c') L.length (flatL L) ∧ Below w.heap.size w (Wy.putObj Dd (.deferred none))) := Lib.hid (by
      have hD0 : Dd ≠ w.heap.size := ne_of_objs hK H0.out (by simp)
      have hD1 : Dd ≠ w.heap.size + 1 := ne_of_objs hK H1.out (by simp)
      have hB0 := H0.out.set (.slice a' L.length c')
      have k0 : ∀ k, k ≠ w.heap.size → (W'.setCell ⟨w.heap.size, 0, none⟩ (.slice a' L.length c')).heap[k]? = W'.heap[k]? := fun k hk => Below.heap_setCell _ _ _ k hk
      have ho0 := HO.out.kept (grownBy_setCell' W' w.heap.size (.slice a' L.length c')) (.inr (H0.out.not_row (by decide) HO.out).symm)
      have hb0 := HBE.out.setCell (p := ⟨w.heap.size, 0, none⟩) (Nat.le_refl _) (.slice a' L.length c')
      have hB1 : Go.Boxed (W'.setCell ⟨w.heap.size, 0, none⟩ (.slice a' L.length c')) (w.heap.size + 1) 33 (.int .i64 0) := (k0 _ (by omega)).trans H1.out
      have hd0 := (k0 _ hD0).trans hK
      generalize W'.setCell ⟨w.heap.size, 0, none⟩ (.slice a' L.length c') = Wx at *
      have k1 : ∀ k, k ≠ w.heap.size + 1 → Wy.heap[k]? = Wx.heap[k]? := fun k hk => by rw [← hWy]; exact Below.heap_setCell _ _ _ k hk
      have hB1' : Go.Boxed Wy (w.heap.size + 1) 33 (.int .i64 0) := by rw [← hWy]; exact hB1.set _
      have hB0' : Go.Boxed Wy w.heap.size 35 (.slice a' L.length c') := (k1 _ (by omega)).trans hB0
      have ho1 : Wy.ownsRow w.heap.size 25 4 (.slice a' L.length c') L.length (flatL L) := by
        rw [← hWy]; exact ho0.kept (grownBy_setCell' Wx (w.heap.size + 1) (.int .i64 0)) (.inr (hB1.not_row (by decide) ho0).symm)
      have hb1 : Below w.heap.size w Wy := by rw [← hWy]; exact hb0.setCell (p := ⟨w.heap.size + 1, 0, none⟩) (by show w.heap.size ≤ w.heap.size + 1; omega) (.int .i64 0)
      have hd1 : Wy.heap[Dd]? = some (.deferred (some [])) := (k1 _ hD1).trans hd0
      have kp : ∀ k, k ≠ Dd → (Wy.putObj Dd (.deferred none)).heap[k]? = Wy.heap[k]? := fun k hk => World.putObj_heap_other hk
      have c0 : Go.Boxed (Wy.putObj Dd (.deferred none)) w.heap.size 35 (.slice a' L.length c') := (kp _ (fun e => hD0 e.symm)).trans hB0'
      have c1 : Go.Boxed (Wy.putObj Dd (.deferred none)) (w.heap.size + 1) 33 (.int .i64 0) := (kp _ (fun e => hD1 e.symm)).trans hB1'
      refine ⟨hd1, c0.cell, c1.cell, ownsRow_putObj ho1 _ hd1 rfl, hb1.grown (grownBy_putObj' Wy _ _) hb1.size (fun k e => by cases e; have := HD.out; have := FW.out.2.2.2.2.size; omega)⟩)
    clear hWy HO HBE H0 H1 hK hc hz0 hz1 hf0 hf1
    obtain ⟨y0, y1, y2, y3, y4⟩ := FY.out
    have HY3 := Lib.hid y3
    have HY4 := Lib.hid y4
    have HY0 := Lib.hid y0
    clear y0 y3 y4
    refine ⟨by simp, .inl ⟨_, _, rfl, run_takeDeferred HY0.out, ?_⟩⟩
    refine ⟨.tuple #[.slice a' L.length c', .int .i64 0], by simp [results, Tryd.results26, go_sem, y1, y2], _, _, rfl, ?_, HY4.out⟩
    rw [HROW2.out]
    exact ⟨rfl, HY3.out⟩
  case qstop =>
    intro Dd W' hN hD h0 h1 hb hK
    have HROW2 := Lib.hid (HROW.out.trans ((if_pos (by first | exact ⟨rfl, rfl⟩ | exact ⟨trivial, trivial⟩)).trans hN))
    have HBE := Lib.hid hb
    have HD := Lib.hid hD
    have H0 := Lib.hid h0
    have H1 := Lib.hid h1
    clear hb hN hD h0 h1
    go_wp2_with fail
    have FY : Hid ((W'.putObj Dd (.deferred none)).cell? ⟨w.heap.size, 0, none⟩ = some (.slice none 0 0) ∧ (W'.putObj Dd (.deferred none)).cell? ⟨w.heap.size + 1, 0, none⟩ = some (.int .i64 4) ∧ Below w.heap.size w (W'.putObj Dd (.deferred none))) := Lib.hid (by
      have hD0 : Dd ≠ w.heap.size := ne_of_objs hK H0.out (by simp)
      have hD1 : Dd ≠ w.heap.size + 1 := ne_of_objs hK H1.out (by simp)
      have kp : ∀ k, k ≠ Dd → (W'.putObj Dd (.deferred none)).heap[k]? = W'.heap[k]? := fun k hk => World.putObj_heap_other hk
      have c0 : Go.Boxed (W'.putObj Dd (.deferred none)) w.heap.size 35 (.slice none 0 0) := (kp _ (fun e => hD0 e.symm)).trans H0.out
      have c1 : Go.Boxed (W'.putObj Dd (.deferred none)) (w.heap.size + 1) 33 (.int .i64 4) := (kp _ (fun e => hD1 e.symm)).trans H1.out
      exact ⟨c0.cell, c1.cell, HBE.out.grown (grownBy_putObj' W' _ _) HBE.out.size (fun k e => by cases e; have := HD.out; have := FW.out.2.2.2.2.size; omega)⟩)
    obtain ⟨y1, y2, y3⟩ := FY.out
    refine ⟨by simp, .inl ⟨_, _, rfl, run_takeDeferred hK, ?_⟩⟩
    refine ⟨.tuple #[.slice none 0 0, .int .i64 4], by simp [results, Tryd.results26, go_sem, y1, y2], _, _, rfl, ?_, y3⟩
    rw [HROW2.out]
    exact ⟨rfl, rfl⟩
end

end Go.Proofs.YtoglaibcmfjclaaDoor
