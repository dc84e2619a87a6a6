/-
  Put, Kill: walked (stage 11).
-/
import Derived.Test.YtkedkeelbbfmkaaHFill
namespace Go.Proofs.Ytkedkeelbbfmkaa
open Go.RowKit
set_option linter.unusedVariables false

/-- What Put leaves, behind fill. -/
def Hp.putT (M1 : Hp) (t : Tup) (slot : Nat) : Hp := (M1.opn t.no).setTb t.no ((M1.tbl t.no).ent t.id slot)

set_option maxRecDepth 100000 in
set_option maxHeartbeats 8000000 in
theorem put_ok (w : World) (h : Nat) (M : Hp) (z : Nat) (L : Nat → Lab) (t : Tup) (s : Value) (hz : z ≤ 90000) (hw : t.wf) (hno : 1 ≤ t.no ∧ t.no ≤ 2147483647) (hid : 1 ≤ t.id ∧ t.id ≤ 2147483647) (hr : RowV w s t.row) (H : HpM w h M z L) (hh : HeapO M.fr M.fn) (hv : ∀ j, j < M.fn → M.fr j < M.n) :
    Calls Try.prog 10 #[ptrV h, tupV t s] w fun e w' => ∃ slot : Nat, e = .returned (.tuple #[.int .i64 (slot : Int), .int .i64 0]) ∧ ∃ M1 L', FillR M t slot M1 ∧ HpM w' h (M1.putT t slot) (z + 3) L' ∧ Ext w.heap.size L L' ∧ Touch (Fof L) w w' := by
  have mixed : Try.prog.follows Departure.mixedOrders = true := by kernel_rfl
  obtain ⟨a, c, hsf, -, -⟩ := hr.form
  obtain ⟨n, hn⟩ : ∃ n, t.row.length = n := ⟨_, rfl⟩
  rw [hn] at hsf
  subst hsf
  obtain ⟨gt, hgt⟩ : ∃ gt, w.heap.size = gt := ⟨_, rfl⟩
  obtain ⟨W1, hW1⟩ : ∃ W1, w.alloc (.cells #[.int .i64 t.no, .int .i64 t.id, .int .i64 t.mn, .int .i64 t.cm, .int .i64 t.mx, .int .i64 t.cx, .slice a n c] 28) = W1 := ⟨_, rfl⟩
  have hb1 : Below w.heap.size w W1 := by rw [← hW1]; exact Below.allocs _ _
  have hl1 : Lit W1 gt 28 (tupC t (.slice a n c)) := by rw [← hW1, ← hgt]; exact Lit.new w _ _
  have hr1 : RowV W1 (.slice a n c) t.row := hr.below hb1
  obtain ⟨d0, d1, -, -, -, -, -, dl⟩ := cells7 hl1
  have hc1 := inRange_is W1 t.no true (by simp [hno.1, hno.2])
  have hc2 := inRange_is W1 t.id true (by simp [hid.1, hid.2])
  have hc3 := clone_is W1 gt t (.slice a n c) hw hl1 hr1
  have H1 := H.below hb1
  have HH := Lib.hid H1
  have HO := Lib.hid (And.intro hh (And.intro hv (And.intro hz (And.intro hno hid))))
  have HB1 := Lib.hid hb1
  have HL1 := Lib.hid hl1
  have HW1 := Lib.hid hW1
  have HGW := Lib.hid hgt
  have HWF := Lib.hid hw
  have HLN : Hid (∀ k, w.heap.size ≤ k → L k = .no) := Lib.hid (fun k hk => by
    by_cases e : L k = .no
    · exact e
    · have := H.lt k e; omega)
  unfold ptrV at hc3
  unfold ptrV tupV
  clear H hh hv hz hno hid hb1 hl1 hW1 hgt hw hr hr1 hn H1
  go_enter Try.func10, Try.ntmps10
  go_upto_region 3 with (fail)
  rw [HW1.out, HGW.out]
  clear HW1
  go_wp2_with fail
  refine hc1.mono ?_
  rintro e w1' ⟨rfl, rfl⟩
  clear hc1
  go_wp2_with fail
  refine hc2.mono ?_
  rintro e w1'' ⟨rfl, rfl⟩
  clear hc2
  go_wp2_with fail
  refine hc3.mono ?_
  rintro e w2 ⟨g', s', rfl, hv2, hb2⟩
  clear hc3 d0 d1
  have hgs := HGW.out
  have hs1 := HB1.out.size
  have hl2 := HL1.out.below hb2
  have hg1 := HL1.out.lt
  have hc4 := fill_is w2 h M z L w1''.heap.size g' t s' HO.out.2.2.1 hb2.size (HH.out.below hb2) HO.out.1 HO.out.2.1 ⟨hv2, fun k hk => HLN.out k (Nat.le_trans hs1 hk)⟩
  obtain ⟨d0, d1, -, -, -, -, -, dl⟩ := cells7 hl2
  have HHz := Lib.hid (HO.out.2.2)
  have HB2 := Lib.hid (below_tr HB1.out hb2)
  have HHm := Lib.hid (HH.out.below hb2)
  have HD := Lib.hid (And.intro d0 (And.intro d1 (And.intro dl (And.intro hg1 hs1))))
  unfold ptrV at hc4
  clear hv2 hb2 hl2 hg1 hs1 hgs d0 d1 dl HH HO HB1 HL1
  go_wp2_with fail
  refine hc4.mono ?_
  rintro e w3 ⟨slot, rfl, M1, L3, hR, hH3, he3, ht3⟩
  clear hc4
  have hno2 : ¬ Fof L gt := fun hF => hF (HLN.out gt (Nat.le_of_eq HGW.out))
  have hno3 : ¬ Fof L3 gt := fun hF => (he3.new gt hF).elim hno2 (fun hh => by have := HD.out.2.2.2.1; omega)
  have hb3 := ht3.block gt HD.out.2.2.1 hno2
  have HS0 : Hid (w3.cell? ⟨gt, 0, none⟩ = some (.int .i64 t.no) ∧ w3.cell? ⟨gt, 1, none⟩ = some (.int .i64 t.id)) := Lib.hid ⟨by rw [World.cell?_of_block hb3]; exact HD.out.1, by rw [World.cell?_of_block hb3]; exact HD.out.2.1⟩
  have HGT : Hid (gt < w3.drew.heap.size ∧ ¬ Fof L3 gt) := Lib.hid ⟨Nat.lt_of_lt_of_le HD.out.2.2.1 ht3.size, hno3⟩
  have HTB := Lib.hid (table_is w3.drew h M1 (z + 1) L3 t.no (by have := HHz.out.2.1; unfold I64; omega) (by have := HHz.out.1; omega) (hH3.below (below_drw w3)))
  have HE3 := Lib.hid (he3.mono HD.out.2.2.2.2)
  have HT3 : Hid (Touch (Fof L) w w3.drew) := Lib.hid (((Touch.of_below HB2.out).trans ht3 (fun _ _ h => h)).trans (Touch.of_below (below_drw w3)) (fun _ _ h => h))
  have HSZ3 : Hid (w.heap.size ≤ w3.drew.heap.size) := Lib.hid HT3.out.size
  have HR := Lib.hid hR
  unfold ptrV at HTB
  clear hR hH3 he3 ht3 hno2 hno3 hb3
  go_upto_region 6 with (fail)
  refine RX.wp_region_lastH 8 (fun W => W.cell? ⟨gt, 0, none⟩ = some (.int .i64 t.no) ∧ W.cell? ⟨gt, 1, none⟩ = some (.int .i64 t.id)) mixed (by kernel_rfl) ?_
  simp only [List.take_succ_cons, List.take_zero, List.drop_succ_cons, List.drop_zero]
  refine wpAnyH_take (i := 0) (oi := _) (v := .pointer (some ⟨h, 0, none⟩)) rfl (by kernel_rfl) (by kernel_rfl) (by kernel_rfl) (fun _ _ _ h => h) (Or.inl ⟨by rfl, fun w' hw' => ?_⟩) (HS0.out) ?_
  · obtain ⟨j0, j1⟩ := hw'
    go_simp
    try first | with_reducible rfl | simp
  refine wpAnyH_take (i := 1) (oi := _) (v := .pointer (some ⟨gt, 0, none⟩)) rfl (by kernel_rfl) (by kernel_rfl) (by kernel_rfl) (fun _ _ _ h => h) (Or.inl ⟨by rfl, fun w' hw' => ?_⟩) (HS0.out) ?_
  · obtain ⟨j0, j1⟩ := hw'
    go_simp
    try first | with_reducible rfl | simp
  refine wpAnyH_take (i := 2) (oi := _) (v := .int .i64 t.no) rfl (by kernel_rfl) (by kernel_rfl) (by kernel_rfl) (fun _ _ _ h => h) (Or.inl ⟨by rfl, fun w' hw' => ?_⟩) (HS0.out) ?_
  · obtain ⟨j0, j1⟩ := hw'
    go_simp
    try first | with_reducible rfl | simp
  refine wpAnyH_take (i := 4) (oi := _) (v := .pointer (some ⟨gt, 1, none⟩)) rfl (by kernel_rfl) (by kernel_rfl) (by kernel_rfl) (fun _ _ _ h => h) (Or.inl ⟨by rfl, fun w' hw' => ?_⟩) (HS0.out) ?_
  · obtain ⟨j0, j1⟩ := hw'
    go_simp
    try first | with_reducible rfl | simp
  refine wpAnyH_take (i := 5) (oi := _) (v := .int .i64 t.id) rfl (by kernel_rfl) (by kernel_rfl) (by kernel_rfl) (fun _ _ _ h => h) (Or.inl ⟨by rfl, fun w' hw' => ?_⟩) (HS0.out) ?_
  · obtain ⟨j0, j1⟩ := hw'
    go_simp
    try first | with_reducible rfl | simp
  refine wpAnyH_take (i := 6) (oi := _) (v := .int .i64 (slot : Int)) rfl (by kernel_rfl) (by kernel_rfl) (by kernel_rfl) (fun _ _ _ h => h) (Or.inl ⟨by rfl, fun w' hw' => ?_⟩) (HS0.out) ?_
  · obtain ⟨j0, j1⟩ := hw'
    go_simp
    try first | with_reducible rfl | simp
  refine RX.anyH_call (i := 3) (f := 42) (args := #[.pointer (some ⟨h, 0, none⟩), .int .i64 t.no]) (by kernel_rfl) rfl (by rfl) (by go_simp) ?_
  refine (show Calls Try.prog _ _ _ _ from HTB.out).mono ?_
  rintro e w4 ⟨g4, rfl, b4, L4, tp4, rfl, hG4, he4, ht4⟩
  
  have HG4 := Lib.hid hG4
  have HB4 := Lib.hid ht4.size
  have HX4 := Lib.hid he4
  have HE4 := Lib.hid (HE3.out.trans (he4.mono HSZ3.out))
  have HT4 : Hid (Touch (Fof L) w w4) := Lib.hid (HT3.out.trans ht4 (fun k hk hF => (HE3.out.new k hF).elim id (fun hh => by omega)))
  have HS4 : Hid (w4.cell? ⟨gt, 0, none⟩ = some (.int .i64 t.no) ∧ w4.cell? ⟨gt, 1, none⟩ = some (.int .i64 t.id)) := Lib.hid (by
    have hgt3 := HGT.out.1
    have hno : ¬ Fof L3 gt := fun hF => HGT.out.2 hF
    have := ht4.block gt hgt3 hno
    exact ⟨by rw [World.cell?_of_block this]; exact HS0.out.1, by rw [World.cell?_of_block this]; exact HS0.out.2⟩)
  clear hG4 he4 ht4
  refine ⟨.pointer (some ⟨tp4 t.no, 0, none⟩), rfl, HS4.out, ?_⟩
  refine RX.anyH_call (i := 7) (f := 43) (args := #[.pointer (some ⟨tp4 t.no, 0, none⟩), .int .i64 t.id, .int .i64 (slot : Int)]) (by kernel_rfl) rfl (by rfl) (by go_simp) ?_
  refine (show Calls Try.prog _ _ _ _ from enter_is w4 h (M1.opn t.no) (z + 1 + 1) L4 b4 tp4 t.no t.id slot (M1.tbl t.no) (by have := HHz.out.2.2; unfold I64; omega) (by have := HHz.out.1; omega) HG4.out (M1.opn_tb t.no)).mono ?_
  rintro e w5 ⟨rfl, L5, hH5, he5, ht5⟩
  
  have HEND : Hid (HpM w5 h (M1.putT t slot) (z + 3) L5 ∧ Ext w.heap.size L L5 ∧ Touch (Fof L) w w5) := Lib.hid (by
    have hs4 := HT4.out.size
    refine ⟨hH5.hpm, HE4.out.trans (he5.mono hs4), HT4.out.trans ht5 (fun k hk hF => (HE4.out.new k hF).elim id (fun hh => by omega))⟩)
  have HS5 : Hid (w5.cell? ⟨gt, 0, none⟩ = some (.int .i64 t.no) ∧ w5.cell? ⟨gt, 1, none⟩ = some (.int .i64 t.id)) := Lib.hid (by
    have hlt4 : gt < w4.heap.size := Nat.lt_of_lt_of_le HGT.out.1 HB4.out
    have hno : ¬ Fof L4 gt := fun hF => (HX4.out.new gt hF).elim HGT.out.2 (fun hh => by have := HGT.out.1; omega)
    have := ht5.block gt hlt4 hno
    exact ⟨by rw [World.cell?_of_block this]; exact HS4.out.1, by rw [World.cell?_of_block this]; exact HS4.out.2⟩)
  clear hH5 he5 ht5
  refine ⟨.tuple #[], rfl, HS5.out, ?_⟩
  refine wpAnyH_done (by kernel_rfl) ?_ _
  unfold RX.lastQ
  go_wp2_with fail
  go_ret2
  exact ⟨slot, rfl, M1, L5, HR.out, HEND.out.1, HEND.out.2.1, HEND.out.2.2⟩

set_option maxRecDepth 100000 in
set_option maxHeartbeats 8000000 in
theorem put_bad (w : World) (h : Nat) (t : Tup) (s : Value) (hx : ¬ ((1 ≤ t.no ∧ t.no ≤ 2147483647) ∧ 1 ≤ t.id ∧ t.id ≤ 2147483647)) (hr : RowV w s t.row) :
    Calls Try.prog 10 #[ptrV h, tupV t s] w fun e w' => e = .returned (.tuple #[.int .i64 0, .int .i64 1]) ∧ Below w.heap.size w w' := by
  obtain ⟨a, c, hsf, -, -⟩ := hr.form
  obtain ⟨n, hn⟩ : ∃ n, t.row.length = n := ⟨_, rfl⟩
  rw [hn] at hsf
  subst hsf
  obtain ⟨gt, hgt⟩ : ∃ gt, w.heap.size = gt := ⟨_, rfl⟩
  obtain ⟨W1, hW1⟩ : ∃ W1, w.alloc (.cells #[.int .i64 t.no, .int .i64 t.id, .int .i64 t.mn, .int .i64 t.cm, .int .i64 t.mx, .int .i64 t.cx, .slice a n c] 28) = W1 := ⟨_, rfl⟩
  have hb1 : Below w.heap.size w W1 := by rw [← hW1]; exact Below.allocs _ _
  have hl1 : Lit W1 gt 28 (tupC t (.slice a n c)) := by rw [← hW1, ← hgt]; exact Lit.new w _ _
  obtain ⟨d0, d1, -, -, -, -, -, dl⟩ := cells7 hl1
  have HB1 := Lib.hid hb1
  have HW1 := Lib.hid hW1
  have HGW := Lib.hid hgt
  by_cases h1 : 1 ≤ t.no ∧ t.no ≤ 2147483647
  · have hc1 := inRange_is W1 t.no true (by simp [h1.1, h1.2])
    have hc2 := inRange_is W1 t.id false (by rw [Bool.eq_false_iff]; intro h; simp at h; exact hx ⟨h1, h⟩)
    unfold ptrV tupV
    clear hx hr hn hgt hW1 hb1 hl1 h1
    go_enter Try.func10, Try.ntmps10
    go_upto_region 3 with (fail)
    rw [HW1.out, HGW.out]
    clear HW1
    go_wp2_with fail
    refine hc1.mono ?_
    rintro e w1' ⟨rfl, rfl⟩
    clear hc1
    go_wp2_with fail
    refine hc2.mono ?_
    rintro e w1'' ⟨rfl, rfl⟩
    clear hc2
    go_wp2_with fail
    go_ret2
    exact ⟨rfl, HB1.out⟩
  · have hc1 := inRange_is W1 t.no false (by rw [Bool.eq_false_iff]; intro h; simp at h; exact h1 h)
    unfold ptrV tupV
    clear hx hr hn hgt hW1 hb1 hl1 h1
    go_enter Try.func10, Try.ntmps10
    go_upto_region 3 with (fail)
    rw [HW1.out, HGW.out]
    clear HW1
    go_wp2_with fail
    refine hc1.mono ?_
    rintro e w1' ⟨rfl, rfl⟩
    clear hc1
    go_wp2_with fail
    go_ret2
    exact ⟨rfl, HB1.out⟩

set_option maxRecDepth 100000 in
theorem put_nil (w : World) (t : Tup) (s : Value) : Calls Try.prog 10 #[.pointer none, tupV t s] w fun e w' => e = .returned (.tuple #[.int .i64 0, .int .i64 2]) ∧ Below w.heap.size w w' := by
  have hB := Below.allocs w (.cells #[.int .i64 t.no, .int .i64 t.id, .int .i64 t.mn, .int .i64 t.cm, .int .i64 t.mx, .int .i64 t.cx, s] 28)
  unfold tupV
  go_enter Try.func10, Try.ntmps10
  go_wp2_with fail
  go_ret2
  exact ⟨rfl, hB⟩

/-! ### Kill -/

def Tup.kill (t : Tup) (x c : Int) : Tup := { t with mx := x, cx := c }
def Hp.kill (M : Hp) (i : Nat) (t : Tup) (x c : Int) : Hp := { M with tup := updT M.tup i (some (t.kill x c)) }

theorem kill_hp {w : World} {h z i : Nat} {M : Hp} {L : Nat → Lab} {t : Tup} {s f mv : Value} {stp : Nat → Nat} (H : HpM w h M z L) (hl : Lit w h 79 [s, f, mv]) (hs : SlP w L s M.n M.tup stp) (hf : FrP w L f M.fn M.fr) (htb : TsP w L z mv M.tb) (hi : i < M.n) (ht : M.tup i = some t) (x c : Int) :
    HpM ((w.setCell ⟨stp i, 4, none⟩ (.int .i64 x)).setCell ⟨stp i, 5, none⟩ (.int .i64 c)) h (M.kill i t x c) z L ∧ Touch (Fof L) w ((w.setCell ⟨stp i, 4, none⟩ (.int .i64 x)).setCell ⟨stp i, 5, none⟩ (.int .i64 c)) := by
  have hta := hs.at' i t hi ht
  have t1 := Touch.setCell w (F := fun k => L k = .tu i) (g := stp i) hta.1 4 (.int .i64 x)
  have t2 := Touch.setCell (w.setCell ⟨stp i, 4, none⟩ (.int .i64 x)) (F := fun k => L k = .tu i) (g := stp i) hta.1 5 (.int .i64 c)
  have tt := t1.trans t2 (fun _ _ h => h)
  have hst := tt.stay (G := fun k => L k ≠ .tu i) (fun k hk e => hk e)
  refine ⟨⟨fun k hk => Nat.lt_of_lt_of_le (H.lt k hk) tt.size, H.hp, H.nz, H.fz, s, f, mv, stp, hl.stay hst (by rw [H.hp]; simp), ⟨(hs.row.stay hst (fun k hk => by rw [hs.own k hk]; simp)).congr fun j hj => ?_, hs.own, fun j t' hj ht' => ?_⟩, hf.stay hst (fun k hk => by rw [hk]; simp), htb.stay hst (fun k hk => by intro e; rw [e] at hk; cases hk)⟩, tt.mono (fun k hk => by unfold Fof; rw [hk]; simp)⟩
  · unfold Hp.kill updT
    by_cases e : j = i
    · subst e; simp only [if_true]; rw [ht]; rfl
    · simp only [if_neg e]
  · unfold Hp.kill updT at ht'
    by_cases e : j = i
    · subst e
      simp only [if_true] at ht'
      rw [← Option.some.inj ht']
      obtain ⟨q1, sv, q2, q3, q4⟩ := hta
      exact ⟨q1, sv, (q2.set 4 _).set 5 _, q3.stay hst (fun k hk => by rw [q4 k hk]; simp), q4⟩
    · simp only [if_neg e] at ht'
      have h0 := hs.at' j t' hj ht'
      exact h0.stay hst (by rw [h0.1]; intro e'; injection e' with e'; exact e e') (fun k hk => by rw [hk]; simp)

set_option maxRecDepth 100000 in
set_option maxHeartbeats 8000000 in
theorem kill_in (w : World) (h : Nat) (M : Hp) (z : Nat) (L : Nat → Lab) (i : Nat) (t : Tup) (x c : Int) (hz : z ≤ 100000) (H : HpM w h M z L) (hi : i < M.n) (ht : M.tup i = some t) :
    Calls Try.prog 14 #[ptrV h, .int .i64 i, .int .i64 x, .int .i64 c] w fun e w' => e = .returned (.int .i64 0) ∧ HpM w' h (M.kill i t x c) z L ∧ Touch (Fof L) w w' := by
  obtain ⟨s, f, mv, stp, hl, hs, hf, htb⟩ := H.ex
  have hcon := find_in w h s f mv L M.n M.tup stp i t hl hs hi ht (by have := H.nz; omega)
  obtain ⟨q1, q2⟩ := kill_hp H hl hs hf htb hi ht x c
  obtain ⟨-, sv, hlt, -, -⟩ := hs.at' i t hi ht
  obtain ⟨g, hg⟩ : ∃ g, stp i = g := ⟨_, rfl⟩
  rw [hg] at q1 q2 hlt hcon
  obtain ⟨-, -, -, -, d4, d5, -, dl⟩ := cells7 hlt
  have f4 := hlt.fz 4
  have f5 := hlt.fz 5
  have HEND := Lib.hid (And.intro q1 q2)
  unfold ptrV at hcon ⊢
  clear H hl hs hf htb hi ht q1 q2 hlt hg
  go_enter Try.func14, Try.ntmps14
  go_wp2_with fail
  refine hcon.mono ?_
  rintro e w1 ⟨rfl, rfl⟩
  clear hcon
  go_wp2_with fail
  go_ret
  exact ⟨rfl, HEND.out⟩

set_option maxRecDepth 100000 in
theorem kill_no (w : World) (v : Value) (x a c err : Int) (herr : (err == 0) = false) (hf : Calls Try.prog 44 #[v, .int .i64 x] w fun e w' => e = .returned (.tuple #[.pointer none, .int .i64 err]) ∧ w' = w) :
    Calls Try.prog 14 #[v, .int .i64 x, .int .i64 a, .int .i64 c] w fun e w' => e = .returned (.int .i64 err) ∧ w' = w := by
  have hne : ¬ err = 0 := by simpa using herr
  go_enter Try.func14, Try.ntmps14
  go_wp2_with fail
  refine hf.mono ?_
  rintro e w1 ⟨rfl, rfl⟩
  clear hf
  go_wp2_with fail
  go_ret
  exact ⟨rfl, rfl⟩

end Go.Proofs.Ytkedkeelbbfmkaa
