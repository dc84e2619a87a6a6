/-
  A slot is emptied; Free (stage 11).
-/
import Derived.Test.YtkedkeelbbfmkaaHLeave
namespace Go.Proofs.Ytkedkeelbbfmkaa
open Go.RowKit
set_option linter.unusedVariables false

theorem HpM.hpg {W : World} {h z : Nat} {M : Hp} {L : Nat → Lab} (H : HpM W h M z L) {x : Int} {T : Tbl} (hx : M.tb x = some T) : ∃ b tp, HpG W h M z L b tp := by
  obtain ⟨s, f, m, stp, h1, h2, h3, h4⟩ := H.ex
  rcases h4 with ⟨_, hno⟩ | ⟨b, n, tp, rfl, q1, q2, q3, q4⟩
  · rw [hno x] at hx; cases hx
  · exact ⟨b, tp, H.lt, H.hp, H.nz, H.fz, q1, ⟨s, f, stp, n, h1, h2, h3, q2, q3⟩, q4⟩

/-- What empty leaves. -/
def Hp.empt (M : Hp) (i : Nat) (fr' : Nat → Nat) : Hp := { M with tup := updT M.tup i none, fn := M.fn + 1, fr := fr' }

/-- A slot is emptied. -/
theorem SlP.clear {W : World} {L : Nat → Lab} {n b c i : Nat} {tup : Nat → Option Tup} {tp : Nat → Nat} (h : SlP W L (.slice (some ⟨b, 0, none⟩) n c) n tup tp) (hi : i < n) :
    SlP (W.setCell ⟨b, i, none⟩ (.pointer none)) L (.slice (some ⟨b, 0, none⟩) n c) n (updT tup i none) tp ∧ Touch (fun k => L k = .sl) W (W.setCell ⟨b, i, none⟩ (.pointer none)) := by
  have hbL := h.own b rfl
  have hset := Touch.setCell W (F := fun k => k = b) rfl i (.pointer none)
  have hst := hset.stay (G := fun k => L k ≠ .sl) (fun k hk e => hk (by rw [e]; exact hbL))
  refine ⟨⟨((h.row.set (b := b) (c := 0) rfl hi (by omega) (by omega) (.pointer none)).congr fun j hj => ?_), h.own, fun j t' hj ht' => ?_⟩, hset.mono (fun k hk => by rw [hk]; exact hbL)⟩
  · unfold updR updT
    by_cases e : j = i
    · simp only [e, if_true]; rfl
    · simp only [if_neg e]
  · unfold updT at ht'
    by_cases e : j = i
    · subst e; simp only [if_true] at ht'; cases ht'
    · simp only [if_neg e] at ht'
      have := h.at' j t' hj ht'
      exact this.stay hst (by rw [this.1]; simp) (fun k hk => by rw [hk]; simp)

set_option maxRecDepth 100000 in
set_option maxHeartbeats 8000000 in
theorem empty_is (w : World) (h : Nat) (M : Hp) (z : Nat) (L : Nat → Lab) (i : Nat) (hz : z ≤ 90000) (H : HpM w h M z L) (hh : HeapO M.fr M.fn) (hi : i < M.n) :
    Calls Try.prog 46 #[ptrV h, .int .i64 (i : Int)] w fun e w' => e = .returned (.tuple #[]) ∧ ∃ fr' L', HpM w' h (M.empt i fr') (z + 1) L' ∧ HeapO fr' (M.fn + 1) ∧ Same (fun j => if j < M.fn then M.fr j else i) fr' (M.fn + 1) ∧ Ext w.heap.size L L' ∧ Touch (Fof L) w w' := by
  obtain ⟨s, f, mv, stp, hl, hs, hf, htb⟩ := H.ex
  obtain ⟨n, hn⟩ : ∃ n, M.n = n := ⟨_, rfl⟩
  rw [hn] at hs hi
  obtain ⟨b, c, rfl, hnc, hcm, hbl, hc0, hfz0⟩ := hs.cell hi
  obtain ⟨hs1, ht1⟩ := hs.clear hi
  obtain ⟨w1, hw1⟩ : ∃ w1, w.setCell ⟨b, i, none⟩ (.pointer none) = w1 := ⟨_, rfl⟩
  rw [hw1] at hs1 ht1
  have hst1 := ht1.stay (G := fun k => L k ≠ .sl) (fun k hk e => hk e)
  have hl1 := hl.stay hst1 (by rw [H.hp]; simp)
  have hf1 := hf.stay hst1 (fun k hk => by rw [hk]; simp)
  have htb1 := htb.stay hst1 (fun k hk => by intro e; rw [e] at hk; cases hk)
  have hfs := HpM.frs H.hp hl1 hf1
  have hcon := add_is w1 h _ mv f M.fn M.fr i (by have := H.fz; omega) hh hfs
  have c0 := hl.cell (o := 0) rfl
  have hhl := hl.lt
  have d1 := hl1.lt
  have h2 : (i : Int) < (n : Int) := by omega
  have h3 : (0 : Int) ≤ (i : Int) := by omega
  have HH := Lib.hid (And.intro H (And.intro hs1 (And.intro ht1 (And.intro hf1 htb1))))
  have HN := Lib.hid hn
  have HW1 := Lib.hid hw1
  obtain ⟨cv, hcv⟩ : ∃ cv, w.cell? ⟨b, i, none⟩ = some cv := ⟨_, hc0⟩
  unfold ptrV
  clear H hh hi hl hs hf htb hnc hcm hs1 ht1 hst1 hl1 hf1 htb1 hfs hn hw1 hc0
  go_enter Try.func46, Try.ntmps46
  go_upto_region 1 with (fail)
  rw [HW1.out]
  clear c0 hcv hfz0 hhl HW1
  go_wp2_with fail
  refine hcon.mono ?_
  rintro e w2 ⟨rfl, f', fr', hk2, hh2, hsm, ht2, ho2⟩
  have HEND : Hid (∃ L', HpM w2 h (M.empt i fr') (z + 1) L' ∧ Ext w.heap.size L L' ∧ Touch (Fof L) w w2) := Lib.hid (by
    obtain ⟨H, hs1, ht1, hf1, htb1⟩ := HH.out
    have hsz1 := ht1.size
    have hsz2 := ht2.size
    have ht2' : Touch (fun k => L k = .hp ∨ L k = .fr) w1 w2 := ht2.mono (fun k hk => hk.elim (fun e => .inl (by rw [e]; exact H.hp)) (fun e => .inr (hf1.own k e)))
    have hst2 := ht2'.stay (G := fun k => L k ≠ .hp ∧ L k ≠ .fr) (fun k hk e => e.elim hk.1 hk.2)
    obtain ⟨L', he, hL', hlt'⟩ : ∃ L', Ext w.heap.size L L' ∧ (∀ k, f'.ownBlock = some k → L' k = .fr) ∧ ∀ k, L' k ≠ .no → k < w2.heap.size := by
      cases hb' : f'.ownBlock with
      | none => exact ⟨L, Ext.refl _ _, fun k hk => (by cases hk), fun k hk => by have := H.lt k hk; omega⟩
      | some k0 =>
        have hk0 := hk2.row.lt k0 hb'
        rcases ho2 k0 hb' with e | e
        · exact ⟨L, Ext.refl _ _, fun k hk => by rw [← Option.some.inj hk]; exact hf1.own k0 e, fun k hk => by have := H.lt k hk; omega⟩
        · have hno : L k0 = .no := by
            by_cases e0 : L k0 = .no
            · exact e0
            · have := H.lt k0 e0; omega
          refine ⟨setL L k0 .fr, Ext.set _ (.inl hno) (by omega), fun k hk => by rw [← Option.some.inj hk, setL_same], fun k hk => ?_⟩
          by_cases ek : k = k0
          · omega
          · rw [setL_ne _ _ ek] at hk; have := H.lt k hk; omega
    refine ⟨L', ⟨hlt', he.keep H.hp (by simp), Nat.le_succ_of_le H.nz, Nat.succ_le_succ H.fz, _, f', mv, stp, hk2.lit, ?_, ⟨hk2.row, hL'⟩, ((htb1.stay hst2 (fun k hk => ⟨(by intro e; rw [e] at hk; cases hk), (by intro e; rw [e] at hk; cases hk)⟩)).ext he).more (Nat.le_succ z)⟩, he, (ht1.mono (fun k hk => by unfold Fof; rw [hk]; simp)).trans ht2' (fun k _ hk => by unfold Fof; rcases hk with e | e <;> rw [e] <;> simp)⟩
    show SlP w2 L' _ M.n (updT M.tup i none) stp
    rw [HN.out]
    exact (hs1.stay hst2 (fun k hk => ⟨(by intro e; rw [e] at hk; cases hk), (by intro e; rw [e] at hk; cases hk)⟩)).ext he)
  have HO := Lib.hid (And.intro hh2 hsm)
  clear hcon hk2 hh2 hsm ht2 ho2
  go_wp2_with fail
  go_end0
  obtain ⟨L', q1, q2, q3⟩ := HEND.out
  exact ⟨rfl, fr', L', q1, HO.out.1, HO.out.2, q2, q3⟩

/-! ### Free -/

def Hp.freeT (M : Hp) (i : Nat) (t : Tup) (T : Tbl) (fr' : Nat → Nat) : Hp := (M.setTb t.no (T.lv t.id i)).empt i fr'

set_option maxRecDepth 100000 in
set_option maxHeartbeats 8000000 in
theorem free_in (w : World) (h : Nat) (M : Hp) (z : Nat) (L : Nat → Lab) (i : Nat) (t : Tup) (T : Tbl) (hz : z ≤ 80000) (H : HpM w h M z L) (hh : HeapO M.fr M.fn) (hi : i < M.n) (ht : M.tup i = some t) (hno : I64 t.no) (hid : I64 t.id) (hx : M.tb t.no = some T) (hs : i ∈ T.ix t.id) :
    Calls Try.prog 15 #[ptrV h, .int .i64 (i : Int)] w fun e w' => e = .returned (.int .i64 0) ∧ ∃ fr' L', HpM w' h (M.freeT i t T fr') (z + 2) L' ∧ HeapO fr' (M.fn + 1) ∧ Same (fun j => if j < M.fn then M.fr j else i) fr' (M.fn + 1) ∧ Ext w.heap.size L L' ∧ Touch (Fof L) w w' := by
  have mixed : Try.prog.follows Departure.mixedOrders = true := by kernel_rfl
  obtain ⟨b, tp, hG⟩ := H.hpg hx
  obtain ⟨s, f, stp, nn, hl, hsl, hf, -, hm⟩ := hG.ex
  have hcf := find_in w h s f (.map (some b)) L M.n M.tup stp i t hl hsl hi ht (by have := H.nz; omega)
  obtain ⟨hta, sv, hlt, -, -⟩ := hsl.at' i t hi ht
  obtain ⟨g, hg⟩ : ∃ g, stp i = g := ⟨_, rfl⟩
  obtain ⟨gt, hgt⟩ : ∃ gt, tp t.no = gt := ⟨_, rfl⟩
  rw [hg] at hcf hta hlt
  have hlook : ∀ W, HpG W h M z L b tp → (Instr.lookup 77 (.map (some b)) (.int .i64 t.no) false).run Try.prog W = .ok (.pointer (some ⟨gt, 0, none⟩)) W := fun W hW => by
    obtain ⟨_, _, _, _, _, _, _, _, hmW⟩ := hW.ex
    have := hmW.look Try.underlying77 (z := .pointer none) (by kernel_rfl) hno
    rwa [show (tbF M.tb tp t.no).getD (.pointer none) = .pointer (some ⟨gt, 0, none⟩) by unfold tbF; rw [hx, hgt]; rfl] at this
  have hGd := hG.below (below_drw w)
  have HCON := Lib.hid (leave_is w.drew h M z L b tp t.no t.id i T hid (by omega) hGd hx hs)
  rw [hgt] at HCON
  have hld := hl.below (below_drw w)
  have hltd := hlt.below (below_drw w)
  have HS0 : Hid (w.drew.cell? ⟨h, 2, none⟩ = some (.map (some b)) ∧ w.drew.cell? ⟨g, 0, none⟩ = some (.int .i64 t.no) ∧ w.drew.cell? ⟨g, 1, none⟩ = some (.int .i64 t.id) ∧ (Instr.lookup 77 (.map (some b)) (.int .i64 t.no) false).run Try.prog w.drew = .ok (.pointer (some ⟨gt, 0, none⟩)) w.drew) := Lib.hid ⟨hld.cell rfl, hltd.cell rfl, hltd.cell rfl, hlook _ hGd⟩
  have hafter : Hid (∀ w2, HpG w2 h (M.setTb t.no (T.lv t.id i)) (z + 1) L b tp → Touch (fun k => (L k).ofB t.no = true) w.drew w2 → w2.cell? ⟨h, 2, none⟩ = some (.map (some b)) ∧ w2.cell? ⟨g, 0, none⟩ = some (.int .i64 t.no) ∧ w2.cell? ⟨g, 1, none⟩ = some (.int .i64 t.id) ∧ (Instr.lookup 77 (.map (some b)) (.int .i64 t.no) false).run Try.prog w2 = .ok (.pointer (some ⟨gt, 0, none⟩)) w2) := Lib.hid (fun w2 q1 q2 => by
    obtain ⟨_, _, _, _, hl2, _, _, _, hm2⟩ := q1.ex
    have hst := q2.stay (G := fun k => L k = .tu i) (fun k hk e => by rw [hk] at e; cases e)
    have hlt2 := hltd.stay hst hta
    have hlk2 := hm2.look Try.underlying77 (z := .pointer none) (by kernel_rfl) hno
    rw [show (tbF (M.setTb t.no (T.lv t.id i)).tb tp t.no).getD (.pointer none) = .pointer (some ⟨gt, 0, none⟩) by unfold tbF Hp.setTb; simp only [if_true]; rw [← hgt]; rfl] at hlk2
    exact ⟨hl2.cell rfl, hlt2.cell rfl, hlt2.cell rfl, hlk2⟩)
  have HH := Lib.hid (And.intro hh (And.intro hi (And.intro hz H.lt)))
  unfold ptrV at hcf HCON ⊢
  clear H hh hi ht hno hid hx hs hG hl hsl hf hm hta hlt hlook hGd hld hltd hg hgt hz
  go_enter Try.func15, Try.ntmps15
  go_wp2_with fail
  refine hcf.mono ?_
  rintro e w1 ⟨rfl, rfl⟩
  clear hcf
  go_upto_region 3 with (fail)
  refine RX.wp_region_lastH 15 (fun W => W.cell? ⟨h, 2, none⟩ = some (.map (some b)) ∧ W.cell? ⟨g, 0, none⟩ = some (.int .i64 t.no) ∧ W.cell? ⟨g, 1, none⟩ = some (.int .i64 t.id) ∧ (Instr.lookup 77 (.map (some b)) (.int .i64 t.no) false).run Try.prog W = .ok (.pointer (some ⟨gt, 0, none⟩)) W) mixed (by kernel_rfl) ?_
  simp only [List.take_succ_cons, List.take_zero, List.drop_succ_cons, List.drop_zero]
  refine wpAnyH_take (i := 0) (oi := _) (v := .pointer (some ⟨h, 0, none⟩)) rfl (by kernel_rfl) (by kernel_rfl) (by kernel_rfl) (fun _ _ _ h => h) (Or.inl ⟨by rfl, fun w' hw' => ?_⟩) (HS0.out) ?_
  · obtain ⟨j0, j1, j2, j3⟩ := hw'
    go_simp
    try first | with_reducible rfl | simp
  refine wpAnyH_take (i := 1) (oi := _) (v := .pointer (some ⟨h, 0, none⟩)) rfl (by kernel_rfl) (by kernel_rfl) (by kernel_rfl) (fun _ _ _ h => h) (Or.inl ⟨by rfl, fun w' hw' => ?_⟩) (HS0.out) ?_
  · obtain ⟨j0, j1, j2, j3⟩ := hw'
    go_simp
    try first | with_reducible rfl | simp
  refine wpAnyH_take (i := 2) (oi := _) (v := .pointer (some ⟨h, 2, none⟩)) rfl (by kernel_rfl) (by kernel_rfl) (by kernel_rfl) (fun _ _ _ h => h) (Or.inl ⟨by rfl, fun w' hw' => ?_⟩) (HS0.out) ?_
  · obtain ⟨j0, j1, j2, j3⟩ := hw'
    go_simp
    try first | with_reducible rfl | simp
  refine wpAnyH_take (i := 3) (oi := _) (v := .map (some b)) rfl (by kernel_rfl) (by kernel_rfl) (by kernel_rfl) (fun _ _ _ h => h) (Or.inl ⟨by rfl, fun w' hw' => ?_⟩) (HS0.out) ?_
  · obtain ⟨j0, j1, j2, j3⟩ := hw'
    go_simp
    try first | with_reducible rfl | simp
  refine wpAnyH_take (i := 4) (oi := _) (v := .pointer (some ⟨g, 0, none⟩)) rfl (by kernel_rfl) (by kernel_rfl) (by kernel_rfl) (fun _ _ _ h => h) (Or.inl ⟨by rfl, fun w' hw' => ?_⟩) (HS0.out) ?_
  · obtain ⟨j0, j1, j2, j3⟩ := hw'
    go_simp
    try first | with_reducible rfl | simp
  refine wpAnyH_take (i := 5) (oi := _) (v := .pointer (some ⟨g, 0, none⟩)) rfl (by kernel_rfl) (by kernel_rfl) (by kernel_rfl) (fun _ _ _ h => h) (Or.inl ⟨by rfl, fun w' hw' => ?_⟩) (HS0.out) ?_
  · obtain ⟨j0, j1, j2, j3⟩ := hw'
    go_simp
    try first | with_reducible rfl | simp
  refine wpAnyH_take (i := 6) (oi := _) (v := .pointer (some ⟨g, 0, none⟩)) rfl (by kernel_rfl) (by kernel_rfl) (by kernel_rfl) (fun _ _ _ h => h) (Or.inl ⟨by rfl, fun w' hw' => ?_⟩) (HS0.out) ?_
  · obtain ⟨j0, j1, j2, j3⟩ := hw'
    go_simp
    try first | with_reducible rfl | simp
  refine wpAnyH_take (i := 7) (oi := _) (v := .int .i64 t.no) rfl (by kernel_rfl) (by kernel_rfl) (by kernel_rfl) (fun _ _ _ h => h) (Or.inl ⟨by rfl, fun w' hw' => ?_⟩) (HS0.out) ?_
  · obtain ⟨j0, j1, j2, j3⟩ := hw'
    go_simp
    try first | with_reducible rfl | simp
  refine wpAnyH_take (i := 8) (oi := _) (v := .pointer (some ⟨gt, 0, none⟩)) rfl (by kernel_rfl) (by kernel_rfl) (by kernel_rfl) (fun _ _ _ h => h) (Or.inl ⟨by rfl, fun w' hw' => ?_⟩) (HS0.out) ?_
  · obtain ⟨j0, j1, j2, j3⟩ := hw'
    go_simp
    try first | with_reducible rfl | simp
  refine wpAnyH_take (i := 9) (oi := _) (v := .pointer (some ⟨g, 0, none⟩)) rfl (by kernel_rfl) (by kernel_rfl) (by kernel_rfl) (fun _ _ _ h => h) (Or.inl ⟨by rfl, fun w' hw' => ?_⟩) (HS0.out) ?_
  · obtain ⟨j0, j1, j2, j3⟩ := hw'
    go_simp
    try first | with_reducible rfl | simp
  refine wpAnyH_take (i := 10) (oi := _) (v := .pointer (some ⟨g, 0, none⟩)) rfl (by kernel_rfl) (by kernel_rfl) (by kernel_rfl) (fun _ _ _ h => h) (Or.inl ⟨by rfl, fun w' hw' => ?_⟩) (HS0.out) ?_
  · obtain ⟨j0, j1, j2, j3⟩ := hw'
    go_simp
    try first | with_reducible rfl | simp
  refine wpAnyH_take (i := 11) (oi := _) (v := .pointer (some ⟨g, 1, none⟩)) rfl (by kernel_rfl) (by kernel_rfl) (by kernel_rfl) (fun _ _ _ h => h) (Or.inl ⟨by rfl, fun w' hw' => ?_⟩) (HS0.out) ?_
  · obtain ⟨j0, j1, j2, j3⟩ := hw'
    go_simp
    try first | with_reducible rfl | simp
  refine wpAnyH_take (i := 12) (oi := _) (v := .int .i64 t.id) rfl (by kernel_rfl) (by kernel_rfl) (by kernel_rfl) (fun _ _ _ h => h) (Or.inl ⟨by rfl, fun w' hw' => ?_⟩) (HS0.out) ?_
  · obtain ⟨j0, j1, j2, j3⟩ := hw'
    go_simp
    try first | with_reducible rfl | simp
  refine wpAnyH_take (i := 13) (oi := _) (v := .int .i64 (i : Int)) rfl (by kernel_rfl) (by kernel_rfl) (by kernel_rfl) (fun _ _ _ h => h) (Or.inl ⟨by rfl, fun w' hw' => ?_⟩) (HS0.out) ?_
  · obtain ⟨j0, j1, j2, j3⟩ := hw'
    go_simp
    try first | with_reducible rfl | simp
  refine RX.anyH_call (i := 14) (f := 45) (args := #[.pointer (some ⟨gt, 0, none⟩), .int .i64 t.id, .int .i64 (i : Int)]) (by kernel_rfl) rfl (by rfl) (by go_simp) ?_
  refine (show Calls Try.prog _ _ _ _ from HCON.out).mono ?_
  rintro e w2 ⟨rfl, hG2, ht2⟩
  
  have HG2 := Lib.hid hG2
  have HT2 : Hid (Touch (Fof L) w1 w2) := Lib.hid ((Touch.of_below (below_drw w1)).trans (touch_tb ht2).2 (fun _ _ h => h))
  have HS2 := Lib.hid (hafter.out w2 hG2 ht2)
  clear hG2 ht2
  refine ⟨.tuple #[], rfl, HS2.out, ?_⟩
  refine wpAnyH_done (by kernel_rfl) ?_ _
  unfold RX.lastQ
  have hcon := empty_is w2 h _ (z + 1) L i (by have := HH.out.2.2.1; omega) HG2.out.hpm HH.out.1 HH.out.2.1
  obtain ⟨hq, -⟩ := HS2.out
  unfold ptrV at hcon
  go_wp2_with fail
  refine hcon.mono ?_
  rintro e w3 ⟨rfl, fr', L', q1, q2, q3, q4, q5⟩
  have HEND : Hid (HpM w3 h (M.freeT i t T fr') (z + 2) L' ∧ HeapO fr' (M.fn + 1) ∧ Same (fun j => if j < M.fn then M.fr j else i) fr' (M.fn + 1) ∧ Ext w1.heap.size L L' ∧ Touch (Fof L) w1 w3) := Lib.hid ⟨q1, q2, q3, q4.mono HT2.out.size, HT2.out.trans q5 (fun _ _ h => h)⟩
  clear hcon q1 q2 q3 q4 q5 hq
  go_wp2_with fail
  go_ret
  exact ⟨rfl, fr', L', HEND.out⟩

set_option maxRecDepth 100000 in
theorem free_no (w : World) (v : Value) (x err : Int) (herr : (err == 0) = false) (hf : Calls Try.prog 44 #[v, .int .i64 x] w fun e w' => e = .returned (.tuple #[.pointer none, .int .i64 err]) ∧ w' = w) :
    Calls Try.prog 15 #[v, .int .i64 x] w fun e w' => e = .returned (.int .i64 err) ∧ w' = w := by
  have hne : ¬ err = 0 := by simpa using herr
  go_enter Try.func15, Try.ntmps15
  go_wp2_with fail
  refine hf.mono ?_
  rintro e w1 ⟨rfl, rfl⟩
  clear hf
  go_wp2_with fail
  go_ret
  exact ⟨rfl, rfl⟩

end Go.Proofs.Ytkedkeelbbfmkaa
