/-
  Push of the free slots, container/heap.Push, add (stage 11).
-/
import Derived.Test.YtbgnbaogclnpgaaHFree
import Derived.Test.YtbgnbaogclnpgaaRegL
import Derived.Deep.DeepCutAuto
namespace Go.Proofs.Ytbgnbaogclnpgaa.RX
section
variable {P : Program} {md : Region.Mode} {ops : Array Oper} {Q : Exit → Act → World → Prop} {S : World → Prop}
/-- The next one is an append. -/
theorem anyH_app {i : Nat} {o : Oper} {fuel : Nat} {listed : Array Bool} {a : Act} {w w' : World} {v u v' : Value} (s x : Operand) (t t' : TypeId) (hr : Region.ready md ops listed = [i]) (ho : ops[i]? = some o) (hw : Region.wanted o (yielded ops a.tmps) = true)
    (hop : o.op = .call { callee := .builtin .append, args := #[s, x], argTypes := #[t, t'] }) (hs : a.eval s = v) (hx : a.eval x = u) (hrun : (Builtin.append_ #[t, t'] o.type #[v, u]).run P w = .ok v' w') (hS : S w')
    (h : wpAnyH P md ops Q S fuel (listed.setIfInBounds i true) (a.put o.dst v') w') : wpAnyH P md ops Q S (fuel + 1) listed a w :=
  anyH_val hr ho hw (by simp [execOp, hop, resolve, invoke, builtin, hs, hx, hrun, Result.andThen]) hS h

/-- The next one writes. -/
theorem anyH_skip {i : Nat} {o : Oper} {fuel : Nat} {listed : Array Bool} {a : Act} {w w' : World} (hr : Region.ready md ops listed = [i]) (ho : ops[i]? = some o) (hd : o.dst = none) (hw : Region.wanted o (yielded ops a.tmps) = true)
    (hrun : (execOp a.eval o).run P w = .ok .skip w') (hS : S w') (h : wpAnyH P md ops Q S fuel (listed.setIfInBounds i true) a w') : wpAnyH P md ops Q S (fuel + 1) listed a w := by
  refine wpAnyH_all hr (by simp) fun j hj => ?_
  obtain rfl : j = i := by simpa using hj
  unfold wpOp
  simp only [ho, hw, if_true]
  left
  unfold Oper.wp
  rw [hrun]
  have e : a.put o.dst undef = a := by rw [hd]; rfl
  refine ⟨hS, ?_⟩
  rw [e]
  exact h
end
end Go.Proofs.Ytbgnbaogclnpgaa.RX
namespace Go.Proofs.Ytbgnbaogclnpgaa
open Go.RowKit
set_option linter.unusedVariables false

theorem info_i : (Try.prog.info? 3).map (fun i => (i.zero, i.size, i.bytes)) = some (some (.int .i64 0), 1, 8) := by kernel_rfl

/-- One number more, at the end of a row of numbers (by append of a literal of one). -/
theorem row_push {W : World} {s : Value} {n : Nat} {f : Nat → Int} (t ty : TypeId) (ht : Try.prog.underlying t = some (.slice 3)) (h : RowF 3 1 W s n (numR f)) (x : Int) (hn : n + 1 ≤ 1000000) :
    ∃ a' c' W6, (Builtin.append_ #[t, t] ty #[s, .slice (some ⟨W.heap.size, 0, none⟩) 1 1]).run Try.prog (W.alloc (.cells #[.int .i64 x] 3)) = .ok (.slice a' (n + 1) c') W6 ∧
      RowF 3 1 W6 (.slice a' (n + 1) c') (n + 1) (numR fun j => if j < n then f j else x) ∧ Touch (fun k => s.ownBlock = some k) W W6 ∧ (∀ k, Value.ownBlock (.slice a' (n + 1) c') = some k → s.ownBlock = some k ∨ W.heap.size ≤ k) := by
  obtain ⟨i0, hi, hz, hsz, hby⟩ := info_parts info_i
  have hal := Below.allocs W (.cells [Value.int .i64 x].toArray 3)
  have hlit := Lit.new W 3 [.int .i64 x]
  obtain ⟨s', W6, hrun, hrow, hg, hown⟩ := (h.below hal).append (P := Try.prog) t ty i0 _ 8 ht hi hz hsz hby rfl (by decide) (by decide) (b := W.heap.size) (k := 1) (c := 1) (q := fun _ => [.int .i64 x])
    (fun j hj o v hv => by
      obtain rfl : j = 0 := by omega
      rw [Nat.zero_mul, Nat.zero_add]
      exact hlit.cell hv) (fun _ _ => rfl) (fun _ _ v hv => by simp at hv; subst hv; rfl) (by omega)
  obtain ⟨a', c', rfl, _, _⟩ := hrow.form
  refine ⟨a', c', W6, hrun, hrow.congr fun j hj => ?_, (Touch.of_below hal).trans (Touch.grown hg (fun k hk => hk)) (fun _ _ h => h), fun k hk => ?_⟩
  · unfold numR
    by_cases hjn : j < n
    · simp only [if_pos hjn]
    · simp only [if_neg hjn]
  · rcases hown with e | e
    · exact .inl (e ▸ hk)
    · right
      rw [e] at hk
      have : (W.alloc (.cells [Value.int .i64 x].toArray 3)).heap.size = k := Option.some.inj hk
      simp at this
      omega

theorem FrS.push {W : World} {h n : Nat} {s m f : Value} {fr : Nat → Nat} (H : FrS W h s m f n fr) (x : Nat) (hn : n + 1 ≤ 1000000) :
    ∃ a' c' W6, (∀ ty, (Builtin.append_ #[72, 72] ty #[f, .slice (some ⟨W.heap.size, 0, none⟩) 1 1]).run Try.prog (W.alloc (.cells #[.int .i64 (x : Int)] 3)) = .ok (.slice a' (n + 1) c') W6) ∧
      Lit W6 h 75 [s, f, m] ∧ FrS (W6.setCell ⟨h, 1, none⟩ (.slice a' (n + 1) c')) h s m (.slice a' (n + 1) c') (n + 1) (fun j => if j < n then fr j else x) ∧
      Touch (fun k => k = h ∨ f.ownBlock = some k) W (W6.setCell ⟨h, 1, none⟩ (.slice a' (n + 1) c')) ∧ (∀ k, Value.ownBlock (.slice a' (n + 1) c') = some k → f.ownBlock = some k ∨ W.heap.size ≤ k) := by
  obtain ⟨a', c', W6, hrun, hrow, ht, hown⟩ := row_push 72 72 Try.underlying72 H.row (x : Int) hn
  have hhl := H.lit.lt
  have hl6 : Lit W6 h 75 [s, f, m] := H.lit.stay (ht.stay (G := fun k => k = h) (fun k hk e => H.ne k e hk)) rfl
  have hset := Touch.setCell W6 (F := fun k => k = h) rfl 1 (.slice a' (n + 1) c')
  have hne : ∀ k, Value.ownBlock (.slice a' (n + 1) c') = some k → k ≠ h := fun k hk => by
    rcases hown k hk with e | e
    · exact H.ne k e
    · omega
  refine ⟨a', c', W6, fun ty => hrun, hl6, ⟨hl6.set 1 _, (hrow.stay (hset.stay (G := fun k => k ≠ h) (fun k hk e => hk e)) hne).congr fun j hj => ?_, hne⟩, (ht.mono (fun k hk => .inr hk)).trans hset (fun k _ hk => .inl hk), hown⟩
  unfold numR
  by_cases hjn : j < n
  · simp only [if_pos hjn]
  · simp only [if_neg hjn]

set_option maxRecDepth 100000 in
set_option maxHeartbeats 4000000 in
theorem fpush_is (w : World) (h : Nat) (s m f : Value) (n : Nat) (fr : Nat → Nat) (x : Nat) (hn : n ≤ 100000) (H : FrS w h s m f n fr) :
    Calls Try.prog 95 #[.pointer (some ⟨h, 1, none⟩), .iface 3 (.int .i64 (x : Int))] w fun e w' => e = .returned (.tuple #[]) ∧ ∃ f', FrS w' h s m f' (n + 1) (fun j => if j < n then fr j else x) ∧
      Touch (fun k => k = h ∨ f.ownBlock = some k) w w' ∧ ∀ k, f'.ownBlock = some k → f.ownBlock = some k ∨ w.heap.size ≤ k := by
  have mixed : Try.prog.follows Departure.mixedOrders = true := by kernel_rfl
  obtain ⟨a, c, rfl, _, _⟩ := H.row.form
  have hd := H.below (below_drw w)
  have hal := Below.allocs w.drew (.cells #[.int .i64 (x : Int)] 3)
  have h1 := hd.below hal
  obtain ⟨a', c', W6, hrun, hl6, hend, ht, hown⟩ := hd.push x (by omega)
  have HS0 : Hid (w.drew.cell? ⟨h, 1, none⟩ = some (.slice a n c) ∧ w.drew.frozen? ⟨h, 1, none⟩ = false) := Lib.hid ⟨hd.lit.cell rfl, hd.lit.fz 1⟩
  have HS1 : Hid ((w.drew.alloc (.cells #[.int .i64 (x : Int)] 3)).cell? ⟨h, 1, none⟩ = some (.slice a n c) ∧ (w.drew.alloc (.cells #[.int .i64 (x : Int)] 3)).frozen? ⟨h, 1, none⟩ = false) := Lib.hid ⟨h1.lit.cell rfl, h1.lit.fz 1⟩
  have HS2 : Hid (W6.cell? ⟨h, 1, none⟩ = some (.slice a n c) ∧ W6.frozen? ⟨h, 1, none⟩ = false) := Lib.hid ⟨hl6.cell rfl, hl6.fz 1⟩
  have HRUN := Lib.hid hrun
  have HEND := Lib.hid hend
  have HT := Lib.hid ((Touch.of_below (F := fun k => k = h ∨ Value.ownBlock (.slice a n c) = some k) (below_drw w)).trans ht (fun _ _ h => h))
  have HO := Lib.hid hown
  clear H hd hal h1 hrun hl6 hend ht hown
  have hta : ∀ w : World, (Instr.typeAssert (.iface 3 (.int .i64 (x : Int))) 20 3 false).run Try.prog w = .ok (.int .i64 (x : Int)) w := fun w => by kernel_rfl
  go_enter Try.func95, Try.ntmps95
  go_upto_region 0 with (fail)
  refine RX.wp_region_lastH 8 (fun W => W.cell? ⟨h, 1, none⟩ = some (.slice a n c) ∧ W.frozen? ⟨h, 1, none⟩ = false) mixed (by kernel_rfl) ?_
  simp only [List.take_succ_cons, List.take_zero, List.drop_succ_cons, List.drop_zero]
  refine wpAnyH_take (i := 0) (oi := _) (v := .pointer (some ⟨h, 1, none⟩)) rfl (by kernel_rfl) (by kernel_rfl) (by kernel_rfl) (fun _ _ _ h => h) (Or.inl ⟨by rfl, fun w' hw' => ?_⟩) (HS0.out) ?_
  · obtain ⟨j0, j1⟩ := hw'
    go_simp
    try first | with_reducible rfl | simp
  refine wpAnyH_take (i := 1) (oi := _) (v := .pointer (some ⟨h, 1, none⟩)) rfl (by kernel_rfl) (by kernel_rfl) (by kernel_rfl) (fun _ _ _ h => h) (Or.inl ⟨by rfl, fun w' hw' => ?_⟩) (HS0.out) ?_
  · obtain ⟨j0, j1⟩ := hw'
    go_simp
    try first | with_reducible rfl | simp
  refine wpAnyH_take (i := 2) (oi := _) (v := .pointer (some ⟨h, 1, none⟩)) rfl (by kernel_rfl) (by kernel_rfl) (by kernel_rfl) (fun _ _ _ h => h) (Or.inl ⟨by rfl, fun w' hw' => ?_⟩) (HS0.out) ?_
  · obtain ⟨j0, j1⟩ := hw'
    go_simp
    try first | with_reducible rfl | simp
  refine wpAnyH_take (i := 3) (oi := _) (v := .slice a n c) rfl (by kernel_rfl) (by kernel_rfl) (by kernel_rfl) (fun _ _ _ h => h) (Or.inl ⟨by rfl, fun w' hw' => ?_⟩) (HS0.out) ?_
  · obtain ⟨j0, j1⟩ := hw'
    go_simp
    try first | with_reducible rfl | simp
  refine wpAnyH_take (i := 4) (oi := _) (v := .iface 3 (.int .i64 (x : Int))) rfl (by kernel_rfl) (by kernel_rfl) (by kernel_rfl) (fun _ _ _ h => h) (Or.inl ⟨by rfl, fun w' hw' => ?_⟩) (HS0.out) ?_
  · obtain ⟨j0, j1⟩ := hw'
    go_simp
    try first | with_reducible rfl | simp
  refine wpAnyH_take (i := 5) (oi := _) (v := .int .i64 (x : Int)) rfl (by kernel_rfl) (by kernel_rfl) (by kernel_rfl) (fun _ _ _ h => h) (Or.inl ⟨by rfl, fun w' hw' => ?_⟩) (HS0.out) ?_
  · obtain ⟨j0, j1⟩ := hw'
    go_simp
    try first | with_reducible rfl | simp
  refine RX.anyH_val (i := 6) (v := .slice (some ⟨w.heap.size, 0, none⟩) 1 1) (w' := w.drew.alloc (.cells #[.int .i64 (x : Int)] 3)) (by kernel_rfl) rfl (by rfl) (by go_simp) (HS1.out) ?_
  refine RX.anyH_app (i := 7) (v := .slice a n c) (u := .slice (some ⟨w.heap.size, 0, none⟩) 1 1) (.tmp 7) (.tmp 10) (72) (72) (by kernel_rfl) rfl (by rfl) rfl (by go_simp) (by go_simp) (HRUN.out _) (HS2.out) ?_
  refine wpAnyH_done (by kernel_rfl) ?_ _
  unfold RX.lastQ
  obtain ⟨c0, f0⟩ := HS2.out
  go_wp2_with fail
  go_end0
  exact ⟨rfl, _, HEND.out, HT.out, HO.out⟩

set_option maxRecDepth 100000 in
theorem flen_is (w : World) (a : Option Addr) (n c : Nat) : Calls Try.prog 90 #[.slice a n c] w fun e w' => e = .returned (.int .i64 n) ∧ w' = w := by
  go_enter Try.func90, Try.ntmps90
  go_wp2_with fail
  go_ret
  exact ⟨rfl, rfl⟩

theorem push_up {fr : Nat → Nat} {n x : Nat} (h : HeapO fr n) : UpO (fun j => if j < n then fr j else x) (n + 1) n := by
  refine ⟨fun k k0 kn kne => ?_, fun k k0 kn ke j0 => by omega⟩
  have hk : k < n := by omega
  have hp : (k - 1) / 2 < n := by omega
  show (if (k - 1) / 2 < n then fr ((k - 1) / 2) else x) ≤ (if k < n then fr k else x)
  rw [if_pos hp, if_pos hk]
  exact h k k0 hk

set_option maxRecDepth 100000 in
set_option maxHeartbeats 4000000 in
theorem hpush_is (w : World) (h : Nat) (s m f : Value) (n : Nat) (fr : Nat → Nat) (x : Nat) (hn : n < 100000) (hh : HeapO fr n) (H : FrS w h s m f n fr) :
    Calls Try.prog 68 #[frI h, .iface 3 (.int .i64 (x : Int))] w fun e w' => e = .returned (.tuple #[]) ∧ ∃ f' fr', FrS w' h s m f' (n + 1) fr' ∧ HeapO fr' (n + 1) ∧ Same (fun j => if j < n then fr j else x) fr' (n + 1) ∧
      Touch (fun k => k = h ∨ f.ownBlock = some k) w w' ∧ ∀ k, f'.ownBlock = some k → f.ownBlock = some k ∨ w.heap.size ≤ k := by
  have hm1 := m_push w h
  have hcon := fpush_is w h s m f n fr x (by omega) H
  have HU := Lib.hid (push_up (x := x) hh)
  have HN := Lib.hid hn
  clear hn hh
  unfold frI
  go_enter Try.func68, Try.ntmps68
  go_wp2_with fail
  refine hcon.mono ?_
  rintro e w1 ⟨rfl, f1, hk1, ht1, ho1⟩
  obtain ⟨a1, c1, rfl, _, _⟩ := hk1.row.form
  have c0 := hk1.lit.cell (o := 1) rfl
  have hm2 := m_len w1 h (.slice a1 (n + 1) c1) c0 ⟨_, _, _, rfl⟩
  have HK1 := Lib.hid hk1
  have HT1 := Lib.hid ht1
  have HO1 := Lib.hid ho1
  have hcon2 := flen_is w1 a1 (n + 1) c1
  clear hk1 ht1 ho1 hcon hm1 c0
  go_wp2_with fail
  refine hcon2.mono ?_
  rintro e w2 ⟨rfl, rfl⟩
  have hcon3 := up_is w2 h s m (.slice a1 (n + 1) c1) (n + 1) _ n (by omega) (by have := HN.out; omega) HK1.out HU.out
  have hw1 : wrap64 (n : Int) = (n : Int) := wrOk (by have := HN.out; omega)
  clear hcon2 hm2
  go_wp2_with fail
  refine hcon3.mono ?_
  rintro e w3 ⟨fr', rfl, hk3, hh3, hs3, ht3⟩
  have HK3 := Lib.hid hk3
  have HT3 := Lib.hid ht3
  have HH3 := Lib.hid hh3
  have HS3 := Lib.hid hs3
  clear hk3 ht3 hcon3 hw1 hh3 hs3
  go_wp2_with fail
  go_end0
  exact ⟨rfl, _, fr', HK3.out, HH3.out, HS3.out, HT1.out.trans HT3.out (fun k hk hx => (HO1.out k hx).elim .inr (fun h => absurd hk (by omega))), HO1.out⟩

set_option maxRecDepth 100000 in
set_option maxHeartbeats 4000000 in
/-- A slot is freed. -/
theorem add_is (w : World) (h : Nat) (s m f : Value) (n : Nat) (fr : Nat → Nat) (x : Nat) (hn : n < 100000) (hh : HeapO fr n) (H : FrS w h s m f n fr) :
    Calls Try.prog 63 #[.pointer (some ⟨h, 1, none⟩), .int .i64 (x : Int)] w fun e w' => e = .returned (.tuple #[]) ∧ ∃ f' fr', FrS w' h s m f' (n + 1) fr' ∧ HeapO fr' (n + 1) ∧ Same (fun j => if j < n then fr j else x) fr' (n + 1) ∧
      Touch (fun k => k = h ∨ f.ownBlock = some k) w w' ∧ ∀ k, f'.ownBlock = some k → f.ownBlock = some k ∨ w.heap.size ≤ k := by
  have hcon := hpush_is w h s m f n fr x hn hh H
  unfold frI at hcon
  clear H hn hh
  go_enter Try.func63, Try.ntmps63
  go_wp2_with fail
  refine hcon.mono ?_
  rintro e w3 ⟨rfl, f', fr', hk3, hh3, hs3, ht3, ho3⟩
  have HK3 := Lib.hid (And.intro hk3 (And.intro hh3 (And.intro hs3 (And.intro ht3 ho3))))
  clear hk3 hh3 hs3 ht3 ho3 hcon
  go_wp2_with fail
  go_end0
  exact ⟨rfl, f', fr', HK3.out⟩

end Go.Proofs.Ytbgnbaogclnpgaa
