/-
  Next; a version is entered in its table (stage 11).
-/
import Derived.Test.YtbgnbaogclnpgaaHTable
namespace Go.Proofs.Ytbgnbaogclnpgaa
open Go.RowKit
set_option linter.unusedVariables false

/-- What is kept of a table; of one of which nothing is kept, nothing. -/
def Hp.tbl (M : Hp) (x : Int) : Tbl := (M.tb x).getD ⟨0, fun _ => []⟩
theorem Hp.opn_tb (M : Hp) (x : Int) : (M.opn x).tb x = some (M.tbl x) := by
  unfold Hp.opn Hp.tbl
  cases h : M.tb x with
  | none => simp [Hp.setTb]
  | some T => simpa using h

theorem TbAt.open {W : World} {L : Nat → Lab} {z g : Nat} {x : Int} {T : Tbl} (h : TbAt W L z g x T) : ∃ b, Lit W g 123 [.int .i64 T.last, .map (some b)] := by
  obtain ⟨h1, b, n, lp, h2, h3, h4, h5, h6⟩ := h
  exact ⟨b, h2⟩

theorem TbAt.setLast {W : World} {L : Nat → Lab} {z g : Nat} {x : Int} {T : Tbl} (h : TbAt W L z g x T) (v : Int) : TbAt (W.setCell ⟨g, 0, none⟩ (.int .i64 v)) L z g x ⟨v, T.ix⟩ := by
  obtain ⟨h1, b, n, lp, h2, h3, h4, h5, h6⟩ := h
  have hs := (Touch.setCell W (F := fun k => k = g) rfl 0 (.int .i64 v)).stay (G := fun k => L k ≠ .tb x) (fun k hk e => hk (by rw [e]; exact h1))
  refine ⟨h1, b, n, lp, h2.set 0 _, h3, h4, h5.stay hs (by rw [h3]; simp), fun y hy => ?_⟩
  obtain ⟨q1, q2, q3, q4⟩ := h6 y hy
  exact ⟨q1, q2, q3.stay hs (fun k hk => by rw [q4 k hk]; simp), q4⟩

theorem touch_tb {W W' : World} {L : Nat → Lab} {x : Int} (ht : Touch (fun k => (L k).ofB x = true) W W') : Stay (fun k => L k ≠ .no ∧ (L k).ofB x = false) W W' ∧ Touch (Fof L) W W' :=
  ⟨ht.stay (fun k hk e => by rw [hk.2] at e; cases e), ht.mono (fun k hk => tab_no (ofB_tab hk))⟩

theorem HpG.setLast {W : World} {h z b : Nat} {M : Hp} {L : Nat → Lab} {tp : Int → Nat} (H : HpG W h M z L b tp) {x : Int} {T : Tbl} (hx : M.tb x = some T) (v : Int) :
    HpG (W.setCell ⟨tp x, 0, none⟩ (.int .i64 v)) h (M.setTb x ⟨v, T.ix⟩) z L b tp ∧ Touch (Fof L) W (W.setCell ⟨tp x, 0, none⟩ (.int .i64 v)) := by
  obtain ⟨hI, hT⟩ := H.at' x T hx
  have ht := Touch.setCell W (F := fun k => (L k).ofB x = true) (g := tp x) (by rw [hT.1]; simp [Lab.ofB]) 0 (.int .i64 v)
  obtain ⟨h1, h2⟩ := touch_tb ht
  exact ⟨H.upd hx (Ext.refl 0 L) (Nat.le_refl _) (fun k hk => Nat.lt_of_lt_of_le (H.lt k hk) ht.size) h1 (hT.setLast v), h2⟩

/-- What Next leaves. -/
def Hp.nxt (M : Hp) (x : Int) : Hp := if (M.tbl x).last = 2147483647 then M.opn x else (M.opn x).setTb x ⟨(M.tbl x).last + 1, (M.tbl x).ix⟩
def Hp.nxtI (M : Hp) (x : Int) : Int := if (M.tbl x).last = 2147483647 then 0 else (M.tbl x).last + 1

/-! ### A version is entered -/

theorem natI_len (l : List Nat) : (natI l).length = l.length := by simp [natI]
theorem natI_app (l : List Nat) (x : Nat) : natI (l ++ [x]) = natI l ++ [(x : Int)] := by simp [natI]

theorem row_snoc {W : World} {s : Value} {l : List Int} (t ty : TypeId) (ht : Try.prog.underlying t = some (.slice 3)) (h : RowI W s l) (x : Int) (hn : l.length + 1 ≤ 1000000) :
    ∃ a' c' W6, (Builtin.append_ #[t, t] ty #[s, .slice (some ⟨W.heap.size, 0, none⟩) 1 1]).run Try.prog (W.alloc (.cells #[.int .i64 x] 3)) = .ok (.slice a' (l.length + 1) c') W6 ∧
      RowI W6 (.slice a' (l.length + 1) c') (l ++ [x]) ∧ Touch (fun k => s.ownBlock = some k) W W6 ∧ (∀ k, Value.ownBlock (.slice a' (l.length + 1) c') = some k → s.ownBlock = some k ∨ W.heap.size ≤ k) := by
  obtain ⟨a', c', W6, h1, h2, h3, h4⟩ := row_push t ty ht h x hn
  refine ⟨a', c', W6, h1, ?_, h3, h4⟩
  unfold RowI
  rw [List.length_append, List.length_singleton]
  refine h2.congr fun j hj => ?_
  unfold numR
  by_cases hjn : j < l.length
  · simp only [if_pos hjn]
    simp [List.getElem?_append_left hjn, hjn]
  · have e : j = l.length := by omega
    subst e
    simp

/-- T, with a version more. -/
def Tbl.ent (T : Tbl) (id : Int) (slot : Nat) : Tbl := ⟨max T.last id, fun y => if y = id then T.ix id ++ [slot] else T.ix y⟩

/-- What stands ahead of the append, and what comes of it. -/
theorem enter_ready {W : World} {L : Nat → Lab} {z g bi nn : Nat} {x id : Int} {T : Tbl} {lp : Int → Value} {slot : Nat} (hz : z ≤ 100000) (hid : I64 id) (hlt : ∀ k, L k ≠ .no → k < W.heap.size)
    (hg : L g = .tb x) (hl : Lit W g 123 [.int .i64 (max T.last id), .map (some bi)]) (hb : L bi = .ix x) (hnn : nn ≤ z) (hm : MapF W bi nn (ixF T lp))
    (hr : ∀ y, T.ix y ≠ [] → I64 y ∧ (T.ix y).length ≤ z ∧ RowI W (lp y) (natI (T.ix y)) ∧ ∀ k, (lp y).ownBlock = some k → L k = .ls x y) :
    ∃ (a : Option Addr) (n c : Nat) (a' : Option Addr) (c' : Nat) (W6 : World), (ixF T lp id).getD (.slice none 0 0) = .slice a n c ∧
      (∀ ty, (Builtin.append_ #[35, 35] ty #[.slice a n c, .slice (some ⟨W.heap.size, 0, none⟩) 1 1]).run Try.prog (W.alloc (.cells #[.int .i64 (slot : Int)] 3)) = .ok (.slice a' (n + 1) c') W6) ∧
      Lit W6 g 123 [.int .i64 (max T.last id), .map (some bi)] ∧ MapF W6 bi nn (ixF T lp) ∧
      ∀ W7, MapF W7 bi (nn + 1) (updM (ixF T lp) id (some (.slice a' (n + 1) c'))) → W6.grownBy W7 (some bi) →
        ∃ L', TbAt W7 L' (z + 1) g x (T.ent id slot) ∧ Ext W.heap.size L L' ∧ (∀ k, L' k ≠ .no → k < W7.heap.size) ∧ Touch (fun k => (L k).ofB x = true) W W7 := by
  obtain ⟨v, hv⟩ : ∃ v, (ixF T lp id).getD (.slice none 0 0) = v := ⟨_, rfl⟩
  have hrow : RowI W v (natI (T.ix id)) ∧ (∀ k, v.ownBlock = some k → L k = .ls x id) ∧ (T.ix id).length ≤ z := by
    by_cases e : T.ix id = []
    · unfold ixF at hv
      rw [if_pos e] at hv
      rw [← hv, e]
      exact ⟨RowF.nil _ _ _ _, fun k hk => (by cases hk), Nat.zero_le _⟩
    · unfold ixF at hv
      rw [if_neg e] at hv
      rw [← hv]
      obtain ⟨q1, q2, q3, q4⟩ := hr id e
      exact ⟨q3, q4, q2⟩
  obtain ⟨hrow, hown, hlen⟩ := hrow
  obtain ⟨a, c, rfl, _, _⟩ := hrow.form
  obtain ⟨a', c', W6, hrun, hrow6, ht6, hown6⟩ := row_snoc 35 35 Try.underlying35 hrow (slot : Int) (by rw [natI_len]; omega)
  rw [natI_len] at hv hrow hown hrun hrow6 ht6 hown6
  have hst6 := ht6.stay (G := fun k => L k ≠ .ls x id) (fun k hk e => hk (hown k e))
  have hl6 := hl.stay hst6 (by rw [hg]; simp)
  have hm6 := hm.stay hst6 (by rw [hb]; simp)
  refine ⟨a, _, c, a', c', W6, hv, fun ty => hrun, hl6, hm6, fun W7 hm7 hg7 => ?_⟩
  have ht7 : Touch (fun k => k = bi) W6 W7 := Touch.grown hg7 (fun k hk => (Option.some.inj hk).symm)
  have hst7 := ht7.stay (G := fun k => k ≠ bi) (fun k hk e => hk e)
  have hsz6 := ht6.size
  have hsz7 := ht7.size
  have hno : ∀ k, W.heap.size ≤ k → L k = .no := fun k hk => by
    by_cases e : L k = .no
    · exact e
    · have := hlt k e; omega
  have hbl := hm.lt
  have ht : Touch (fun k => (L k).ofB x = true) W W7 := (ht6.mono (fun k hk => by rw [hown k hk]; simp [Lab.ofB])).trans ht7 (fun k _ hk => by rw [hk, hb]; simp [Lab.ofB])
  have hbl6 := hrow6.lt
  -- the new row's block
  obtain ⟨L', he, hL', hL7⟩ : ∃ L', Ext W.heap.size L L' ∧ (∀ k, Value.ownBlock (.slice a' ((T.ix id).length + 1) c') = some k → L' k = .ls x id) ∧ ∀ k, L' k ≠ .no → k < W7.heap.size := by
    cases hb' : Value.ownBlock (.slice a' ((T.ix id).length + 1) c') with
    | none => exact ⟨L, Ext.refl _ _, fun k hk => (by cases hk), fun k hk => by have := hlt k hk; omega⟩
    | some k0 =>
      have hk0 := hbl6 k0 hb'
      rcases hown6 k0 hb' with e | e
      · exact ⟨L, Ext.refl _ _, fun k hk => by rw [← Option.some.inj hk]; exact hown k0 e, fun k hk => by have := hlt k hk; omega⟩
      · refine ⟨setL L k0 (.ls x id), Ext.set _ (.inl (hno k0 e)) e, fun k hk => by rw [← Option.some.inj hk, setL_same], fun k hk => ?_⟩
        by_cases ek : k = k0
        · omega
        · rw [setL_ne _ _ ek] at hk; have := hlt k hk; omega
  refine ⟨L', ⟨he.keep hg (by simp), bi, nn + 1, fun y => if y = id then .slice a' ((T.ix id).length + 1) c' else lp y, ?_, he.keep hb (by simp), Nat.succ_le_succ hnn, hm7.congr fun y hy => ?_, fun y hy => ?_⟩, he, hL7, ht⟩
  · exact hl6.stay hst7 (by intro e; rw [e, hb] at hg; cases hg)
  · unfold ixF updM Tbl.ent
    by_cases e : y = id
    · subst e
      simp
    · simp only [if_neg e]
  · unfold Tbl.ent at hy ⊢
    by_cases e : y = id
    · subst e
      simp only [if_true] at hy ⊢
      refine ⟨hid, by rw [List.length_append, List.length_singleton]; omega, ?_, hL'⟩
      rw [natI_app]
      refine hrow6.stay hst7 (fun k hk => ?_)
      rintro rfl
      rcases hown6 k hk with e | e
      · rw [hown k e] at hb; cases hb
      · omega
    · simp only [if_neg e] at hy ⊢
      obtain ⟨q1, q2, q3, q4⟩ := hr y hy
      have hne : ∀ k, (lp y).ownBlock = some k → L k ≠ .ls x id := fun k hk => by rw [q4 k hk]; intro e'; injection e' with _ e'; exact e e'
      exact ⟨q1, Nat.le_succ_of_le q2, (q3.stay hst6 hne).stay hst7 (fun k hk => by rintro rfl; rw [q4 k hk] at hb; cases hb), fun k hk => he.keep (q4 k hk) (by simp)⟩

set_option maxRecDepth 100000 in
set_option maxHeartbeats 8000000 in
theorem enter_is (w : World) (h : Nat) (M : Hp) (z : Nat) (L : Nat → Lab) (b : Nat) (tp : Int → Nat) (x id : Int) (slot : Nat) (T : Tbl) (hid : I64 id) (hz : z ≤ 100000) (H : HpG w h M z L b tp) (hx : M.tb x = some T) :
    Calls Try.prog 46 #[ptrV (tp x), .int .i64 id, .int .i64 (slot : Int)] w fun e w' => e = .returned (.tuple #[]) ∧ ∃ L', HpG w' h (M.setTb x (T.ent id slot)) (z + 1) L' b tp ∧ Ext w.heap.size L L' ∧ Touch (Fof L) w w' := by
  have mixed : Try.prog.follows Departure.mixedOrders = true := by kernel_rfl
  obtain ⟨hI, hT⟩ := H.at' x T hx
  have hT2 := hT.setLast (max T.last id)
  have ht1 := Touch.setCell w (F := fun k => (L k).ofB x = true) (g := tp x) (by rw [hT.1]; simp [Lab.ofB]) 0 (.int .i64 (max T.last id))
  obtain ⟨g, hg⟩ : ∃ g, tp x = g := ⟨_, rfl⟩
  obtain ⟨-, bi0, n0, lp0, hl0, -⟩ := hT
  rw [hg] at hT2 hl0 ht1 ⊢
  have c0 := hl0.cell (o := 0) rfl
  have f0 := hl0.fz 0
  have hgl := hl0.lt
  obtain ⟨w1, hw1⟩ : ∃ w1, w.setCell ⟨g, 0, none⟩ (.int .i64 (max T.last id)) = w1 := ⟨_, rfl⟩
  rw [hw1] at hT2 ht1
  have hT2 := hT2.stay (Stay.of_below (G := fun _ => True) (below_drw w1)) (fun _ _ => trivial)
  obtain ⟨hg', bi, nn, lp, hl, hb, hnn, hm, hr⟩ := hT2
  have hltD : ∀ k, L k ≠ .no → k < w1.drew.heap.size := fun k hk => Nat.lt_of_lt_of_le (H.lt k hk) ht1.size
  obtain ⟨a, n, c, a', c', W6, hv, hrun, hl6, hm6, hend⟩ := enter_ready (slot := slot) hz hid hltD hg' hl hb hnn hm hr
  have hlk : ∀ W, MapF W bi nn (ixF T lp) → (Instr.lookup 119 (.map (some bi)) (.int .i64 id) false).run Try.prog W = .ok (.slice a n c) W := fun W hW => by
    rw [← hv]
    exact hW.look Try.underlying119 (by kernel_rfl) hid
  have hal := Below.allocs w1.drew (.cells #[.int .i64 (slot : Int)] 3)
  have HS0 : Hid (w1.drew.cell? ⟨g, 1, none⟩ = some (.map (some bi)) ∧ (Instr.lookup 119 (.map (some bi)) (.int .i64 id) false).run Try.prog w1.drew = .ok (.slice a n c) w1.drew) := Lib.hid ⟨hl.cell rfl, hlk _ hm⟩
  have HS1 : Hid ((w1.drew.alloc (.cells #[.int .i64 (slot : Int)] 3)).cell? ⟨g, 1, none⟩ = some (.map (some bi)) ∧ (Instr.lookup 119 (.map (some bi)) (.int .i64 id) false).run Try.prog (w1.drew.alloc (.cells #[.int .i64 (slot : Int)] 3)) = .ok (.slice a n c) (w1.drew.alloc (.cells #[.int .i64 (slot : Int)] 3))) := Lib.hid ⟨(hl.below hal).cell rfl, hlk _ (hm.below hal)⟩
  have HS2 : Hid (W6.cell? ⟨g, 1, none⟩ = some (.map (some bi)) ∧ (Instr.lookup 119 (.map (some bi)) (.int .i64 id) false).run Try.prog W6 = .ok (.slice a n c) W6) := Lib.hid ⟨hl6.cell rfl, hlk _ hm6⟩
  have HRUN := Lib.hid hrun
  have HM6 := Lib.hid hm6
  have HEND := Lib.hid hend
  have HW1 := Lib.hid hw1
  have HG := Lib.hid H
  have HX := Lib.hid hx
  have HT1 := Lib.hid ht1
  have HTG := Lib.hid hg
  have HID := Lib.hid hid
  have hnm : nn < maxLen := by unfold maxLen; omega
  have HN := Lib.hid hnm
  unfold ptrV
  clear H hx hI hT2 ht1 hg hl0 hw1 hg' hl hb hnn hm hr hltD hv hrun hl6 hm6 hend hlk hal hid hz hnm
  go_enter Try.func46, Try.ntmps46
  go_upto_region 1 with (fail)
  rw [HW1.out]
  clear c0 f0
  refine RX.wp_region_lastH 14 (fun W => W.cell? ⟨g, 1, none⟩ = some (.map (some bi)) ∧ (Instr.lookup 119 (.map (some bi)) (.int .i64 id) false).run Try.prog W = .ok (.slice a n c) W) mixed (by kernel_rfl) ?_
  simp only [List.take_succ_cons, List.take_zero, List.drop_succ_cons, List.drop_zero]
  refine wpAnyH_take (i := 0) (oi := _) (v := .pointer (some ⟨g, 0, none⟩)) rfl (by kernel_rfl) (by kernel_rfl) (by kernel_rfl) (fun _ _ _ h => h) (Or.inl ⟨by rfl, fun w' hw' => ?_⟩) (HS0.out) ?_
  · obtain ⟨j0, j1⟩ := hw'
    go_simp
    try first | with_reducible rfl | simp
  refine wpAnyH_take (i := 1) (oi := _) (v := .pointer (some ⟨g, 0, none⟩)) rfl (by kernel_rfl) (by kernel_rfl) (by kernel_rfl) (fun _ _ _ h => h) (Or.inl ⟨by rfl, fun w' hw' => ?_⟩) (HS0.out) ?_
  · obtain ⟨j0, j1⟩ := hw'
    go_simp
    try first | with_reducible rfl | simp
  refine wpAnyH_take (i := 2) (oi := _) (v := .pointer (some ⟨g, 1, none⟩)) rfl (by kernel_rfl) (by kernel_rfl) (by kernel_rfl) (fun _ _ _ h => h) (Or.inl ⟨by rfl, fun w' hw' => ?_⟩) (HS0.out) ?_
  · obtain ⟨j0, j1⟩ := hw'
    go_simp
    try first | with_reducible rfl | simp
  refine wpAnyH_take (i := 3) (oi := _) (v := .map (some bi)) rfl (by kernel_rfl) (by kernel_rfl) (by kernel_rfl) (fun _ _ _ h => h) (Or.inl ⟨by rfl, fun w' hw' => ?_⟩) (HS0.out) ?_
  · obtain ⟨j0, j1⟩ := hw'
    go_simp
    try first | with_reducible rfl | simp
  refine wpAnyH_take (i := 4) (oi := _) (v := .int .i64 id) rfl (by kernel_rfl) (by kernel_rfl) (by kernel_rfl) (fun _ _ _ h => h) (Or.inl ⟨by rfl, fun w' hw' => ?_⟩) (HS0.out) ?_
  · obtain ⟨j0, j1⟩ := hw'
    go_simp
    try first | with_reducible rfl | simp
  refine wpAnyH_take (i := 5) (oi := _) (v := .pointer (some ⟨g, 0, none⟩)) rfl (by kernel_rfl) (by kernel_rfl) (by kernel_rfl) (fun _ _ _ h => h) (Or.inl ⟨by rfl, fun w' hw' => ?_⟩) (HS0.out) ?_
  · obtain ⟨j0, j1⟩ := hw'
    go_simp
    try first | with_reducible rfl | simp
  refine wpAnyH_take (i := 6) (oi := _) (v := .pointer (some ⟨g, 0, none⟩)) rfl (by kernel_rfl) (by kernel_rfl) (by kernel_rfl) (fun _ _ _ h => h) (Or.inl ⟨by rfl, fun w' hw' => ?_⟩) (HS0.out) ?_
  · obtain ⟨j0, j1⟩ := hw'
    go_simp
    try first | with_reducible rfl | simp
  refine wpAnyH_take (i := 7) (oi := _) (v := .pointer (some ⟨g, 1, none⟩)) rfl (by kernel_rfl) (by kernel_rfl) (by kernel_rfl) (fun _ _ _ h => h) (Or.inl ⟨by rfl, fun w' hw' => ?_⟩) (HS0.out) ?_
  · obtain ⟨j0, j1⟩ := hw'
    go_simp
    try first | with_reducible rfl | simp
  refine wpAnyH_take (i := 8) (oi := _) (v := .map (some bi)) rfl (by kernel_rfl) (by kernel_rfl) (by kernel_rfl) (fun _ _ _ h => h) (Or.inl ⟨by rfl, fun w' hw' => ?_⟩) (HS0.out) ?_
  · obtain ⟨j0, j1⟩ := hw'
    go_simp
    try first | with_reducible rfl | simp
  refine wpAnyH_take (i := 9) (oi := _) (v := .int .i64 id) rfl (by kernel_rfl) (by kernel_rfl) (by kernel_rfl) (fun _ _ _ h => h) (Or.inl ⟨by rfl, fun w' hw' => ?_⟩) (HS0.out) ?_
  · obtain ⟨j0, j1⟩ := hw'
    go_simp
    try first | with_reducible rfl | simp
  refine wpAnyH_take (i := 10) (oi := _) (v := .slice a n c) rfl (by kernel_rfl) (by kernel_rfl) (by kernel_rfl) (fun _ _ _ h => h) (Or.inl ⟨by rfl, fun w' hw' => ?_⟩) (HS0.out) ?_
  · obtain ⟨j0, j1⟩ := hw'
    go_simp
    try first | with_reducible rfl | simp
  refine wpAnyH_take (i := 11) (oi := _) (v := .int .i64 (slot : Int)) rfl (by kernel_rfl) (by kernel_rfl) (by kernel_rfl) (fun _ _ _ h => h) (Or.inl ⟨by rfl, fun w' hw' => ?_⟩) (HS0.out) ?_
  · obtain ⟨j0, j1⟩ := hw'
    go_simp
    try first | with_reducible rfl | simp
  refine RX.anyH_val (i := 12) (v := .slice (some ⟨w1.heap.size, 0, none⟩) 1 1) (w' := w1.drew.alloc (.cells #[.int .i64 (slot : Int)] 3)) (by kernel_rfl) rfl (by rfl) (by go_simp) (HS1.out) ?_
  refine RX.anyH_app (i := 13) (v := .slice a n c) (u := .slice (some ⟨w1.heap.size, 0, none⟩) 1 1) (.tmp 25) (.tmp 27) (35) (35) (by kernel_rfl) rfl (by rfl) rfl (by go_simp) (by go_simp) (HRUN.out _) (HS2.out) ?_
  refine wpAnyH_done (by kernel_rfl) ?_ _
  unfold RX.lastQ
  go_wp2_with (first | (at_mapUpdate; refine put_f rfl _ _ _ 119 rfl 35 Try.underlying119 bi nn (ixF T lp) rfl HM6.out HN.out id HID.out rfl (.slice a' (n + 1) c') rfl ?_; intro w7 hm7 hg7) | go_in)
  obtain ⟨L', h1, h2, h3, h4⟩ := HEND.out w7 hm7 hg7
  have HF := Lib.hid (And.intro h1 (And.intro h2 (And.intro h3 h4)))
  clear hm7 hg7 h1 h2 h3 h4
  go_wp2_with fail
  go_end0
  obtain ⟨h1, h2, h3, h4⟩ := HF.out
  have h0 := HT1.out
  have htt : Touch (fun k => (L k).ofB x = true) w w7 := (h0.trans (Touch.of_below (below_drw w1)) (fun _ _ h => h)).trans h4 (fun _ _ h => h)
  obtain ⟨q1, q2⟩ := touch_tb htt
  have he : Ext w.heap.size L L' := h2.mono h0.size
  exact ⟨rfl, L', HG.out.upd HX.out he (Nat.le_succ z) h3 q1 (by rw [HTG.out]; exact h1), he, q2⟩

end Go.Proofs.Ytbgnbaogclnpgaa
