/-
  Put, Kill: walked (stage 11).
-/
import Derived.Test.YtbgnbaogclnpgaaHFill
import Derived.Test.YtbgnbaogclnpgaaRegX
import Derived.RangeFuncBox
import Derived.RangeFuncLeaves
import Derived.Shelf.Abstract
import Derived.OwnWalkIn
import Derived.TacticsInMore
import Derived.LoopNIn
import Derived.LoopIn
namespace Go.Proofs.Ytbgnbaogclnpgaa
open Go.RowKit
set_option linter.unusedVariables false

/-- What Put leaves, behind fill. -/
def Hp.putT (M1 : Hp) (t : Tup) (slot : Nat) : Hp := (M1.opn t.no).setTb t.no ((M1.tbl t.no).ent t.id slot)

set_option maxRecDepth 100000 in
set_option maxHeartbeats 8000000 in
theorem put_ok (w : World) (h : Nat) (M : Hp) (z : Nat) (L : Nat → Lab) (t : Tup) (s : Value) (hz : z ≤ 90000) (hw : t.wf) (hno : 1 ≤ t.no ∧ t.no ≤ 2147483647) (hid : 1 ≤ t.id ∧ t.id ≤ 2147483647) (hr : RowV w s t.row) (H : HpM w h M z L) (hh : HeapO M.fr M.fn) (hv : ∀ j, j < M.fn → M.fr j < M.n) :
    Calls Try.prog 31 #[ptrV h, tupV t s] w fun e w' => ∃ slot : Nat, e = .returned (.tuple #[.int .i64 (slot : Int), .int .i64 0]) ∧ ∃ M1 L', FillR M t slot M1 ∧ HpM w' h (M1.putT t slot) (z + 3) L' ∧ Ext w.heap.size L L' ∧ Touch (Fof L) w w' := by
  have mixed : Try.prog.follows Departure.mixedOrders = true := by kernel_rfl
  obtain ⟨a, c, hsf, -, -⟩ := hr.form
  obtain ⟨n, hn⟩ : ∃ n, t.row.length = n := ⟨_, rfl⟩
  rw [hn] at hsf
  subst hsf
  obtain ⟨gt, hgt⟩ : ∃ gt, w.heap.size = gt := ⟨_, rfl⟩
  obtain ⟨W1, hW1⟩ : ∃ W1, w.alloc (.cells #[.int .i64 t.no, .int .i64 t.id, .int .i64 t.mn, .int .i64 t.cm, .int .i64 t.mx, .int .i64 t.cx, .slice a n c] 61) = W1 := ⟨_, rfl⟩
  have hb1 : Below w.heap.size w W1 := by rw [← hW1]; exact Below.allocs _ _
  have hl1 : Lit W1 gt 61 (tupC t (.slice a n c)) := by rw [← hW1, ← hgt]; exact Lit.new w _ _
  have hr1 : RowV W1 (.slice a n c) t.row := hr.below hb1
  obtain ⟨d0, d1, -, -, -, -, -, dl⟩ := cells7 hl1
  have hc1 := inRange_is W1 t.no true (by simp [hno.1, hno.2])
  have hc2 := inRange_is W1 t.id true (by simp [hid.1, hid.2])
  have hc3 := clone_is W1 gt t (.slice a n c) hw hl1 hr1
  have H1 := H.below hb1
  have HH := Lib.hid H1
  have HO := Lib.hid (And.intro hh (And.intro hv (And.intro hz (And.intro hno hid))))
  have HB1 := Lib.hid hb1
  have HL1 := Lib.hid hl1
  have HW1 := Lib.hid hW1
  have HGW := Lib.hid hgt
  have HWF := Lib.hid hw
  have HLN : Hid (∀ k, w.heap.size ≤ k → L k = .no) := Lib.hid (fun k hk => by
    by_cases e : L k = .no
    · exact e
    · have := H.lt k e; omega)
  unfold ptrV at hc3
  unfold ptrV tupV
  clear H hh hv hz hno hid hb1 hl1 hW1 hgt hw hr hr1 hn H1
  go_enter Try.func31, Try.ntmps31
  go_upto_region 3 with (fail)
  rw [HW1.out, HGW.out]
  clear HW1
  go_wp2_with fail
  refine hc1.mono ?_
  rintro e w1' ⟨rfl, rfl⟩
  clear hc1
  go_wp2_with fail
  refine hc2.mono ?_
  rintro e w1'' ⟨rfl, rfl⟩
  clear hc2
  go_wp2_with fail
  refine hc3.mono ?_
  rintro e w2 ⟨g', s', rfl, hv2, hb2⟩
  clear hc3 d0 d1
  have hgs := HGW.out
  have hs1 := HB1.out.size
  have hl2 := HL1.out.below hb2
  have hg1 := HL1.out.lt
  have hc4 := fill_is w2 h M z L w1''.heap.size g' t s' HO.out.2.2.1 hb2.size (HH.out.below hb2) HO.out.1 HO.out.2.1 ⟨hv2, fun k hk => HLN.out k (Nat.le_trans hs1 hk)⟩
  obtain ⟨d0, d1, -, -, -, -, -, dl⟩ := cells7 hl2
  have HHz := Lib.hid (HO.out.2.2)
  have HB2 := Lib.hid (below_tr HB1.out hb2)
  have HHm := Lib.hid (HH.out.below hb2)
  have HD := Lib.hid (And.intro d0 (And.intro d1 (And.intro dl (And.intro hg1 hs1))))
  unfold ptrV at hc4
  clear hv2 hb2 hl2 hg1 hs1 hgs d0 d1 dl HH HO HB1 HL1
  go_wp2_with fail
  refine hc4.mono ?_
  rintro e w3 ⟨slot, rfl, M1, L3, hR, hH3, he3, ht3⟩
  clear hc4
  have hno2 : ¬ Fof L gt := fun hF => hF (HLN.out gt (Nat.le_of_eq HGW.out))
  have hno3 : ¬ Fof L3 gt := fun hF => (he3.new gt hF).elim hno2 (fun hh => by have := HD.out.2.2.2.1; omega)
  have hb3 := ht3.block gt HD.out.2.2.1 hno2
  have HS0 : Hid (w3.cell? ⟨gt, 0, none⟩ = some (.int .i64 t.no) ∧ w3.cell? ⟨gt, 1, none⟩ = some (.int .i64 t.id)) := Lib.hid ⟨by rw [World.cell?_of_block hb3]; exact HD.out.1, by rw [World.cell?_of_block hb3]; exact HD.out.2.1⟩
  have HGT : Hid (gt < w3.drew.heap.size ∧ ¬ Fof L3 gt) := Lib.hid ⟨Nat.lt_of_lt_of_le HD.out.2.2.1 ht3.size, hno3⟩
  have HTB := Lib.hid (table_is w3.drew h M1 (z + 1) L3 t.no (by have := HHz.out.2.1; unfold I64; omega) (by have := HHz.out.1; omega) (hH3.below (below_drw w3)))
  have HE3 := Lib.hid (he3.mono HD.out.2.2.2.2)
  have HT3 : Hid (Touch (Fof L) w w3.drew) := Lib.hid (((Touch.of_below HB2.out).trans ht3 (fun _ _ h => h)).trans (Touch.of_below (below_drw w3)) (fun _ _ h => h))
  have HSZ3 : Hid (w.heap.size ≤ w3.drew.heap.size) := Lib.hid HT3.out.size
  have HR := Lib.hid hR
  unfold ptrV at HTB
  clear hR hH3 he3 ht3 hno2 hno3 hb3
  go_upto_region 6 with (fail)
  refine RX.wp_region_lastH 8 (fun W => W.cell? ⟨gt, 0, none⟩ = some (.int .i64 t.no) ∧ W.cell? ⟨gt, 1, none⟩ = some (.int .i64 t.id)) mixed (by kernel_rfl) ?_
  simp only [List.take_succ_cons, List.take_zero, List.drop_succ_cons, List.drop_zero]
  refine wpAnyH_take (i := 0) (oi := _) (v := .pointer (some ⟨h, 0, none⟩)) rfl (by kernel_rfl) (by kernel_rfl) (by kernel_rfl) (fun _ _ _ h => h) (Or.inl ⟨by rfl, fun w' hw' => ?_⟩) (HS0.out) ?_
  · obtain ⟨j0, j1⟩ := hw'
    go_simp
    try first | with_reducible rfl | simp
  refine wpAnyH_take (i := 1) (oi := _) (v := .pointer (some ⟨gt, 0, none⟩)) rfl (by kernel_rfl) (by kernel_rfl) (by kernel_rfl) (fun _ _ _ h => h) (Or.inl ⟨by rfl, fun w' hw' => ?_⟩) (HS0.out) ?_
  · obtain ⟨j0, j1⟩ := hw'
    go_simp
    try first | with_reducible rfl | simp
  refine wpAnyH_take (i := 2) (oi := _) (v := .int .i64 t.no) rfl (by kernel_rfl) (by kernel_rfl) (by kernel_rfl) (fun _ _ _ h => h) (Or.inl ⟨by rfl, fun w' hw' => ?_⟩) (HS0.out) ?_
  · obtain ⟨j0, j1⟩ := hw'
    go_simp
    try first | with_reducible rfl | simp
  refine wpAnyH_take (i := 4) (oi := _) (v := .pointer (some ⟨gt, 1, none⟩)) rfl (by kernel_rfl) (by kernel_rfl) (by kernel_rfl) (fun _ _ _ h => h) (Or.inl ⟨by rfl, fun w' hw' => ?_⟩) (HS0.out) ?_
  · obtain ⟨j0, j1⟩ := hw'
    go_simp
    try first | with_reducible rfl | simp
  refine wpAnyH_take (i := 5) (oi := _) (v := .int .i64 t.id) rfl (by kernel_rfl) (by kernel_rfl) (by kernel_rfl) (fun _ _ _ h => h) (Or.inl ⟨by rfl, fun w' hw' => ?_⟩) (HS0.out) ?_
  · obtain ⟨j0, j1⟩ := hw'
    go_simp
    try first | with_reducible rfl | simp
  refine wpAnyH_take (i := 6) (oi := _) (v := .int .i64 (slot : Int)) rfl (by kernel_rfl) (by kernel_rfl) (by kernel_rfl) (fun _ _ _ h => h) (Or.inl ⟨by rfl, fun w' hw' => ?_⟩) (HS0.out) ?_
  · obtain ⟨j0, j1⟩ := hw'
    go_simp
    try first | with_reducible rfl | simp
  refine RX.anyH_call (i := 3) (f := 45) (args := #[.pointer (some ⟨h, 0, none⟩), .int .i64 t.no]) (by kernel_rfl) rfl (by rfl) (by go_simp) ?_
  refine (show Calls Try.prog _ _ _ _ from HTB.out).mono ?_
  rintro e w4 ⟨g4, rfl, b4, L4, tp4, rfl, hG4, he4, ht4⟩
  
  have HG4 := Lib.hid hG4
  have HB4 := Lib.hid ht4.size
  have HX4 := Lib.hid he4
  have HE4 := Lib.hid (HE3.out.trans (he4.mono HSZ3.out))
  have HT4 : Hid (Touch (Fof L) w w4) := Lib.hid (HT3.out.trans ht4 (fun k hk hF => (HE3.out.new k hF).elim id (fun hh => by omega)))
  have HS4 : Hid (w4.cell? ⟨gt, 0, none⟩ = some (.int .i64 t.no) ∧ w4.cell? ⟨gt, 1, none⟩ = some (.int .i64 t.id)) := Lib.hid (by
    have hgt3 := HGT.out.1
    have hno : ¬ Fof L3 gt := fun hF => HGT.out.2 hF
    have := ht4.block gt hgt3 hno
    exact ⟨by rw [World.cell?_of_block this]; exact HS0.out.1, by rw [World.cell?_of_block this]; exact HS0.out.2⟩)
  clear hG4 he4 ht4
  refine ⟨.pointer (some ⟨tp4 t.no, 0, none⟩), rfl, HS4.out, ?_⟩
  refine RX.anyH_call (i := 7) (f := 46) (args := #[.pointer (some ⟨tp4 t.no, 0, none⟩), .int .i64 t.id, .int .i64 (slot : Int)]) (by kernel_rfl) rfl (by rfl) (by go_simp) ?_
  refine (show Calls Try.prog _ _ _ _ from enter_is w4 h (M1.opn t.no) (z + 1 + 1) L4 b4 tp4 t.no t.id slot (M1.tbl t.no) (by have := HHz.out.2.2; unfold I64; omega) (by have := HHz.out.1; omega) HG4.out (M1.opn_tb t.no)).mono ?_
  rintro e w5 ⟨rfl, L5, hH5, he5, ht5⟩
  
  have HEND : Hid (HpM w5 h (M1.putT t slot) (z + 3) L5 ∧ Ext w.heap.size L L5 ∧ Touch (Fof L) w w5) := Lib.hid (by
    have hs4 := HT4.out.size
    refine ⟨hH5.hpm, HE4.out.trans (he5.mono hs4), HT4.out.trans ht5 (fun k hk hF => (HE4.out.new k hF).elim id (fun hh => by omega))⟩)
  have HS5 : Hid (w5.cell? ⟨gt, 0, none⟩ = some (.int .i64 t.no) ∧ w5.cell? ⟨gt, 1, none⟩ = some (.int .i64 t.id)) := Lib.hid (by
    have hlt4 : gt < w4.heap.size := Nat.lt_of_lt_of_le HGT.out.1 HB4.out
    have hno : ¬ Fof L4 gt := fun hF => (HX4.out.new gt hF).elim HGT.out.2 (fun hh => by have := HGT.out.1; omega)
    have := ht5.block gt hlt4 hno
    exact ⟨by rw [World.cell?_of_block this]; exact HS4.out.1, by rw [World.cell?_of_block this]; exact HS4.out.2⟩)
  clear hH5 he5 ht5
  refine ⟨.tuple #[], rfl, HS5.out, ?_⟩
  refine wpAnyH_done (by kernel_rfl) ?_ _
  unfold RX.lastQ
  go_wp2_with fail
  go_ret2
  exact ⟨slot, rfl, M1, L5, HR.out, HEND.out.1, HEND.out.2.1, HEND.out.2.2⟩

set_option maxRecDepth 100000 in
set_option maxHeartbeats 8000000 in
theorem put_bad (w : World) (h : Nat) (t : Tup) (s : Value) (hx : ¬ ((1 ≤ t.no ∧ t.no ≤ 2147483647) ∧ 1 ≤ t.id ∧ t.id ≤ 2147483647)) (hr : RowV w s t.row) :
    Calls Try.prog 31 #[ptrV h, tupV t s] w fun e w' => e = .returned (.tuple #[.int .i64 0, .int .i64 1]) ∧ Below w.heap.size w w' := by
  obtain ⟨a, c, hsf, -, -⟩ := hr.form
  obtain ⟨n, hn⟩ : ∃ n, t.row.length = n := ⟨_, rfl⟩
  rw [hn] at hsf
  subst hsf
  obtain ⟨gt, hgt⟩ : ∃ gt, w.heap.size = gt := ⟨_, rfl⟩
  obtain ⟨W1, hW1⟩ : ∃ W1, w.alloc (.cells #[.int .i64 t.no, .int .i64 t.id, .int .i64 t.mn, .int .i64 t.cm, .int .i64 t.mx, .int .i64 t.cx, .slice a n c] 61) = W1 := ⟨_, rfl⟩
  have hb1 : Below w.heap.size w W1 := by rw [← hW1]; exact Below.allocs _ _
  have hl1 : Lit W1 gt 61 (tupC t (.slice a n c)) := by rw [← hW1, ← hgt]; exact Lit.new w _ _
  obtain ⟨d0, d1, -, -, -, -, -, dl⟩ := cells7 hl1
  have HB1 := Lib.hid hb1
  have HW1 := Lib.hid hW1
  have HGW := Lib.hid hgt
  by_cases h1 : 1 ≤ t.no ∧ t.no ≤ 2147483647
  · have hc1 := inRange_is W1 t.no true (by simp [h1.1, h1.2])
    have hc2 := inRange_is W1 t.id false (by rw [Bool.eq_false_iff]; intro h; simp at h; exact hx ⟨h1, h⟩)
    unfold ptrV tupV
    clear hx hr hn hgt hW1 hb1 hl1 h1
    go_enter Try.func31, Try.ntmps31
    go_upto_region 3 with (fail)
    rw [HW1.out, HGW.out]
    clear HW1
    go_wp2_with fail
    refine hc1.mono ?_
    rintro e w1' ⟨rfl, rfl⟩
    clear hc1
    go_wp2_with fail
    refine hc2.mono ?_
    rintro e w1'' ⟨rfl, rfl⟩
    clear hc2
    go_wp2_with fail
    go_ret2
    exact ⟨rfl, HB1.out⟩
  · have hc1 := inRange_is W1 t.no false (by rw [Bool.eq_false_iff]; intro h; simp at h; exact h1 h)
    unfold ptrV tupV
    clear hx hr hn hgt hW1 hb1 hl1 h1
    go_enter Try.func31, Try.ntmps31
    go_upto_region 3 with (fail)
    rw [HW1.out, HGW.out]
    clear HW1
    go_wp2_with fail
    refine hc1.mono ?_
    rintro e w1' ⟨rfl, rfl⟩
    clear hc1
    go_wp2_with fail
    go_ret2
    exact ⟨rfl, HB1.out⟩

set_option maxRecDepth 100000 in
theorem put_nil (w : World) (t : Tup) (s : Value) : Calls Try.prog 31 #[.pointer none, tupV t s] w fun e w' => e = .returned (.tuple #[.int .i64 0, .int .i64 2]) ∧ Below w.heap.size w w' := by
  have hB := Below.allocs w (.cells #[.int .i64 t.no, .int .i64 t.id, .int .i64 t.mn, .int .i64 t.cm, .int .i64 t.mx, .int .i64 t.cx, s] 61)
  unfold tupV
  go_enter Try.func31, Try.ntmps31
  go_wp2_with fail
  go_ret2
  exact ⟨rfl, hB⟩

/-! ### Kill -/

def Tup.kill (t : Tup) (x c : Int) : Tup := { t with mx := x, cx := c }
def Hp.kill (M : Hp) (i : Nat) (t : Tup) (x c : Int) : Hp := { M with tup := updT M.tup i (some (t.kill x c)) }

theorem kill_hp {w : World} {h z i : Nat} {M : Hp} {L : Nat → Lab} {t : Tup} {s f mv : Value} {stp : Nat → Nat} (H : HpM w h M z L) (hl : Lit w h 75 [s, f, mv]) (hs : SlP w L s M.n M.tup stp) (hf : FrP w L f M.fn M.fr) (htb : TsP w L z mv M.tb) (hi : i < M.n) (ht : M.tup i = some t) (x c : Int) :
    HpM ((w.setCell ⟨stp i, 4, none⟩ (.int .i64 x)).setCell ⟨stp i, 5, none⟩ (.int .i64 c)) h (M.kill i t x c) z L ∧ Touch (Fof L) w ((w.setCell ⟨stp i, 4, none⟩ (.int .i64 x)).setCell ⟨stp i, 5, none⟩ (.int .i64 c)) := by
  have hta := hs.at' i t hi ht
  have t1 := Touch.setCell w (F := fun k => L k = .tu i) (g := stp i) hta.1 4 (.int .i64 x)
  have t2 := Touch.setCell (w.setCell ⟨stp i, 4, none⟩ (.int .i64 x)) (F := fun k => L k = .tu i) (g := stp i) hta.1 5 (.int .i64 c)
  have tt := t1.trans t2 (fun _ _ h => h)
  have hst := tt.stay (G := fun k => L k ≠ .tu i) (fun k hk e => hk e)
  refine ⟨⟨fun k hk => Nat.lt_of_lt_of_le (H.lt k hk) tt.size, H.hp, H.nz, H.fz, s, f, mv, stp, hl.stay hst (by rw [H.hp]; simp), ⟨(hs.row.stay hst (fun k hk => by rw [hs.own k hk]; simp)).congr fun j hj => ?_, hs.own, fun j t' hj ht' => ?_⟩, hf.stay hst (fun k hk => by rw [hk]; simp), htb.stay hst (fun k hk => by intro e; rw [e] at hk; cases hk)⟩, tt.mono (fun k hk => by unfold Fof; rw [hk]; simp)⟩
  · unfold Hp.kill updT
    by_cases e : j = i
    · subst e; simp only [if_true]; rw [ht]; rfl
    · simp only [if_neg e]
  · unfold Hp.kill updT at ht'
    by_cases e : j = i
    · subst e
      simp only [if_true] at ht'
      rw [← Option.some.inj ht']
      obtain ⟨q1, sv, q2, q3, q4⟩ := hta
      exact ⟨q1, sv, (q2.set 4 _).set 5 _, q3.stay hst (fun k hk => by rw [q4 k hk]; simp), q4⟩
    · simp only [if_neg e] at ht'
      have h0 := hs.at' j t' hj ht'
      exact h0.stay hst (by rw [h0.1]; intro e'; injection e' with e'; exact e e') (fun k hk => by rw [hk]; simp)

set_option maxRecDepth 100000 in
set_option maxHeartbeats 8000000 in
theorem kill_in (w : World) (h : Nat) (M : Hp) (z : Nat) (L : Nat → Lab) (i : Nat) (t : Tup) (x c : Int) (hz : z ≤ 100000) (H : HpM w h M z L) (hi : i < M.n) (ht : M.tup i = some t) :
    Calls Try.prog 30 #[ptrV h, .int .i64 i, .int .i64 x, .int .i64 c] w fun e w' => e = .returned (.int .i64 0) ∧ HpM w' h (M.kill i t x c) z L ∧ Touch (Fof L) w w' := by
  obtain ⟨s, f, mv, stp, hl, hs, hf, htb⟩ := H.ex
  have hcon := find_in w h s f mv L M.n M.tup stp i t hl hs hi ht (by have := H.nz; omega)
  obtain ⟨q1, q2⟩ := kill_hp H hl hs hf htb hi ht x c
  obtain ⟨-, sv, hlt, -, -⟩ := hs.at' i t hi ht
  obtain ⟨g, hg⟩ : ∃ g, stp i = g := ⟨_, rfl⟩
  rw [hg] at q1 q2 hlt hcon
  obtain ⟨-, -, -, -, d4, d5, -, dl⟩ := cells7 hlt
  have f4 := hlt.fz 4
  have f5 := hlt.fz 5
  have HEND := Lib.hid (And.intro q1 q2)
  unfold ptrV at hcon ⊢
  clear H hl hs hf htb hi ht q1 q2 hlt hg
  go_enter Try.func30, Try.ntmps30
  go_wp2_with fail
  refine hcon.mono ?_
  rintro e w1 ⟨rfl, rfl⟩
  clear hcon
  go_wp2_with fail
  go_ret
  exact ⟨rfl, HEND.out⟩

set_option maxRecDepth 100000 in
theorem kill_no (w : World) (v : Value) (x a c err : Int) (herr : (err == 0) = false) (hf : Calls Try.prog 33 #[v, .int .i64 x] w fun e w' => e = .returned (.tuple #[.pointer none, .int .i64 err]) ∧ w' = w) :
    Calls Try.prog 30 #[v, .int .i64 x, .int .i64 a, .int .i64 c] w fun e w' => e = .returned (.int .i64 err) ∧ w' = w := by
  have hne : ¬ err = 0 := by simpa using herr
  go_enter Try.func30, Try.ntmps30
  go_wp2_with fail
  refine hf.mono ?_
  rintro e w1 ⟨rfl, rfl⟩
  clear hf
  go_wp2_with fail
  go_ret
  exact ⟨rfl, rfl⟩

end Go.Proofs.Ytbgnbaogclnpgaa

namespace Go.Proofs.Ytbgnbaogclnpgaa
open Go.RowKit
set_option linter.unusedVariables false

set_option maxRecDepth 100000 in
/-- The closure of leave, in whatever world holds the slot in the cell ⟨B, 0⟩. -/
theorem is_slot (slot x : Int) (B : Nat) (W : World) (hc : W.cell? ⟨B, 0, none⟩ = some (.int .i64 slot)) :
    FnGives Try.prog 62 #[.pointer (some ⟨B, 0, none⟩)] #[.int .i64 x] (.bool (decide (x = slot))) W := by
  show Calls Try.prog 62 #[.int .i64 x, .pointer (some ⟨B, 0, none⟩)] W _
  have hz : (x == slot) = decide (x = slot) := by by_cases e : x = slot <;> simp [e]
  go_enter Try.func62, Try.ntmps62
  go_wp2_with fail
  go_ret
  exact ⟨by rw [← hz]; rfl, 0, rfl⟩

theorem delete_is (w : World) (B b n c : Nat) (l m : List Int) (slot : Int) (hn : l.length = n) (hm : (l.filter fun x => !decide (x = slot)) = m) (hB : B < w.heap.size) (hne : B ≠ b) (hc : w.cell? ⟨B, 0, none⟩ = some (.int .i64 slot)) (h : RowI w (.slice (some ⟨b, 0, none⟩) n c) l) (hz : n ≤ 1000000) :
    Calls Try.prog 61 #[.slice (some ⟨b, 0, none⟩) n c, .func (.func 62) #[] #[.pointer (some ⟨B, 0, none⟩)]] w fun e w' =>
      e = .returned (.slice (some ⟨b, 0, none⟩) m.length c) ∧ RowI w' (.slice (some ⟨b, 0, none⟩) m.length c) m ∧ Touch (fun k => k = b) w w' := by
  subst hn
  have ho := h.own
  obtain ⟨b', c', cur, h0, hb, hg, hnc, hcm, hcs, hx⟩ : ∃ b' c' cur, Value.slice (some ⟨b, 0, none⟩) l.length c = .slice (some ⟨b', 0, none⟩) l.length c' ∧ 0 ≤ b' ∧ w.heap[b']? = some (.cells cur 3 (0, 0)) ∧ l.length ≤ c' ∧ c' ≤ maxLen ∧ cur.size = c' * 1 ∧ cur.toList.take (l.length * 1) = l.map (Value.int .i64) := by
    rcases ho.2 with ⟨h0, _⟩ | ⟨b', c', cur, h0, rest⟩
    · cases h0
    · exact ⟨b', c', cur, h0, rest⟩
  cases h0
  have hH : Sort.Holds (Value.int .i64) w b 0 l.toArray := fun j hj => by
    have hj' : j < l.length := by simpa using hj
    rw [Nat.zero_add, ho.cellAt j (by omega)]
    refine ⟨?_, ho.frozenAt j⟩
    rw [getElem!_pos l.toArray j hj]
    simp [hj']
  have hcon := AnyE.slices_DeleteFunc Try.delI (Value.int .i64) (fun _ => rfl) (fun x => decide (x = slot)) 62 #[.pointer (some ⟨B, 0, none⟩)] (enters_of Try.func62 (by kernel_rfl) rfl) 0 (by intro w; kernel_rfl) b 0 c l.toArray w
    (fun W x hb => is_slot slot x B W ((hb.cell (p := ⟨B, 0, none⟩) hB).trans hc))
    (fun q os dk x _ => is_slot slot x B _ (by
      unfold sortWorld
      rw [Sort.cell?_grow _ _ _ (by show B < (Sort.putRow _ _ _ _ _).heap.size; rw [Sort.size_putRow]; exact hB), Sort.cell?_putRow_other _ _ b 0 _ _ (Or.inl hne)]
      exact hc)) hH (by simp; omega) (by simpa using hnc)
  rw [hm] at hcon
  refine (show Calls Try.prog 61 #[.slice (some ⟨b, 0, none⟩) l.length c, _] w _ from hcon).mono ?_
  rintro e w' ⟨rfl, q, rfl⟩
  have hml : m.length ≤ l.length := by rw [← hm]; exact List.length_filter_le _ _
  have hd : Below w.heap.size w (Sort.ahead w q) := ⟨rfl, rfl, rfl, Nat.le_refl _, fun _ _ => rfl⟩
  have hrow := rowI_putRow (m := m ++ List.replicate (l.length - m.length) 0) (h.below hd) rfl (by simp; omega)
  have e1 : (m ++ List.replicate (l.toArray.size - m.length) 0) = m ++ List.replicate (l.length - m.length) (0 : Int) := by simp
  rw [e1]
  refine ⟨rfl, ?_, (Touch.of_below hd).trans (putRow_touch _ b _) (fun _ _ h => h)⟩
  unfold RowI at hrow
  have e2 : (m ++ List.replicate (l.length - m.length) (0 : Int)).length = l.length := by simp; omega
  rw [e2] at hrow
  refine (row_cut hrow hml).congr fun j hj => ?_
  unfold numR
  simp only [List.getD_eq_getElem?_getD, List.getElem?_append_left hj]

/-- T, without a version. -/
def Tbl.lv (T : Tbl) (id : Int) (slot : Nat) : Tbl := ⟨T.last, fun y => if y = id then (T.ix id).filter (fun k => decide (k ≠ slot)) else T.ix y⟩

theorem natI_filter (l : List Nat) (slot : Nat) : ((natI l).filter fun x => !decide (x = (slot : Int))) = natI (l.filter fun k => decide (k ≠ slot)) := by
  induction l with
  | nil => rfl
  | cons k l ih =>
    show (((k : Int) :: natI l).filter _) = _
    rw [List.filter_cons, List.filter_cons]
    by_cases e : k = slot
    · subst e
      simp [ih]
    · have : ¬ (k : Int) = (slot : Int) := by omega
      simp only [e, this, decide_false, Bool.not_false, if_true, ne_eq, not_false_eq_true, decide_true]
      rw [ih]
      rfl

/-- What comes of it, the index being as told. -/
theorem leave_end {w w1 w2 : World} {L : Nat → Lab} {z g bi nn bl m c : Nat} {x id : Int} {T : Tbl} {lp : Int → Value} {slot : Nat} {f2 : Int → Option Value}
    (hg : L g = .tb x) (hl : Lit w g 123 [.int .i64 T.last, .map (some bi)]) (hb : L bi = .ix x) (hm : MapF w bi nn (ixF T lp))
    (hr : ∀ y, T.ix y ≠ [] → I64 y ∧ (T.ix y).length ≤ z ∧ RowI w (lp y) (natI (T.ix y)) ∧ ∀ k, (lp y).ownBlock = some k → L k = .ls x y) (hid : T.ix id ≠ []) (hbl : (lp id).ownBlock = some bl)
    (hrow : RowI w1 (.slice (some ⟨bl, 0, none⟩) m c) (natI ((T.lv id slot).ix id))) (ht1 : Touch (fun k => k = bl) w w1) (hg2 : w1.grownBy w2 (some bi)) {n2 : Nat} (hn2 : n2 ≤ z)
    (hm2 : MapF w2 bi n2 f2) (hf2 : ∀ y, f2 y = ixF (T.lv id slot) (fun y => if y = id then .slice (some ⟨bl, 0, none⟩) m c else lp y) y) :
    TbAt w2 L z g x (T.lv id slot) ∧ Touch (fun k => (L k).ofB x = true) w w2 := by
  obtain ⟨p1, p2, p3, p4⟩ := hr id hid
  have hLb := p4 bl hbl
  have hst1 := ht1.stay (G := fun k => L k ≠ .ls x id) (fun k hk e => hk (by rw [e]; exact hLb))
  have ht2 : Touch (fun k => k = bi) w1 w2 := Touch.grown hg2 (fun k hk => (Option.some.inj hk).symm)
  have hst2 := ht2.stay (G := fun k => L k ≠ .ix x) (fun k hk e => hk (by rw [e]; exact hb))
  refine ⟨⟨hg, bi, n2, fun y => if y = id then .slice (some ⟨bl, 0, none⟩) m c else lp y, (hl.stay hst1 (by rw [hg]; simp)).stay hst2 (by rw [hg]; simp), hb, hn2, hm2.congr fun y _ => (hf2 y).symm, fun y hy => ?_⟩, (ht1.mono (fun k hk => by rw [hk, hLb]; simp [Lab.ofB])).trans ht2 (fun k _ hk => by rw [hk, hb]; simp [Lab.ofB])⟩
  by_cases e : y = id
  · subst e
    simp only [if_true]
    refine ⟨p1, ?_, hrow.stay hst2 (fun k hk => ?_), fun k hk => ?_⟩
    · unfold Tbl.lv
      simp only [if_true]
      exact Nat.le_trans (List.length_filter_le _ _) p2
    · rw [← Option.some.inj hk, hLb]; simp
    · rw [← Option.some.inj hk]; exact hLb
  · have hy' : T.ix y ≠ [] := by unfold Tbl.lv at hy; simpa only [if_neg e] using hy
    obtain ⟨q1, q2, q3, q4⟩ := hr y hy'
    simp only [if_neg e]
    have e3 : (T.lv id slot).ix y = T.ix y := by unfold Tbl.lv; simp only [if_neg e]
    rw [e3]
    exact ⟨q1, q2, (q3.stay hst1 (fun k hk => by rw [q4 k hk]; intro e'; injection e' with _ e'; exact e e')).stay hst2 (fun k hk => by rw [q4 k hk]; simp), q4⟩

set_option maxRecDepth 100000 in
set_option maxHeartbeats 8000000 in
theorem leave_is (w : World) (h : Nat) (M : Hp) (z : Nat) (L : Nat → Lab) (b : Nat) (tp : Int → Nat) (x id : Int) (slot : Nat) (T : Tbl) (hid : I64 id) (hz : z ≤ 90000) (H : HpG w h M z L b tp) (hx : M.tb x = some T) (hs : slot ∈ T.ix id) :
    Calls Try.prog 47 #[ptrV (tp x), .int .i64 id, .int .i64 (slot : Int)] w fun e w' => e = .returned (.tuple #[]) ∧ HpG w' h (M.setTb x (T.lv id slot)) (z + 1) L b tp ∧ Touch (fun k => (L k).ofB x = true) w w' := by
  obtain ⟨hI, hT⟩ := H.at' x T hx
  obtain ⟨gB, hgB⟩ : ∃ gB, w.heap.size = gB := ⟨_, rfl⟩
  obtain ⟨w0, hw0⟩ : ∃ w0, w.alloc (.cells #[.int .i64 (slot : Int)] 3) = w0 := ⟨_, rfl⟩
  have hb0 : Below w.heap.size w w0 := by rw [← hw0]; exact Below.allocs _ _
  have hlB : Lit w0 gB 3 [.int .i64 (slot : Int)] := by rw [← hw0, ← hgB]; exact Lit.new w _ _
  obtain ⟨g, hg⟩ : ∃ g, tp x = g := ⟨_, rfl⟩
  rw [hg] at hT ⊢
  have hT0 := hT.stay (Stay.of_below (G := fun _ => True) hb0) (fun _ _ => trivial)
  obtain ⟨hg', bi, nn, lp, hl, hb, hnn, hm, hr⟩ := hT0
  have hne : T.ix id ≠ [] := by intro e; rw [e] at hs; cases hs
  obtain ⟨p1, p2, p3, p4⟩ := hr id hne
  obtain ⟨n, hn⟩ : ∃ n, (natI (T.ix id)).length = n := ⟨_, rfl⟩
  have hnp : 0 < n := by
    rw [← hn, natI_len]
    cases hi : T.ix id with
    | nil => exact absurd hi hne
    | cons a l => simp
  obtain ⟨bl, c, hlp, hnc, hcm, hbl, -, -⟩ := p3.at (j := 0) (by rw [hn]; exact hnp)
  rw [hn] at hlp
  have hlk := hm.look Try.underlying119 (z := .slice none 0 0) (by kernel_rfl) hid
  rw [show (ixF T lp id).getD (.slice none 0 0) = .slice (some ⟨bl, 0, none⟩) n c by unfold ixF; rw [if_neg hne, hlp]; rfl] at hlk
  have hBL : L bl = .ls x id := p4 bl (by rw [hlp]; rfl)
  have hBne : gB ≠ bl := by
    intro e
    have := H.lt bl (by rw [hBL]; simp)
    omega
  obtain ⟨r, hr'⟩ : ∃ r, (T.ix id).filter (fun k => decide (k ≠ slot)) = r := ⟨_, rfl⟩
  have hdel := delete_is w0 gB bl n c (natI (T.ix id)) (natI r) (slot : Int) hn (by rw [natI_filter, hr']) hlB.lt hBne (hlB.cell (o := 0) rfl) (by rw [← hlp]; exact p3) (by rw [← hn, natI_len]; omega)
  rw [natI_len] at hdel
  obtain ⟨k, hk⟩ : ∃ k, r.length = k := ⟨_, rfl⟩
  rw [hk] at hdel
  have c1 := hl.cell (o := 1) rfl
  have hgl := hl.lt
  have hrl : (T.lv id slot).ix id = r := by unfold Tbl.lv; simp only [if_true]; exact hr'
  have HLV : Hid (∀ w1 w2 n2 f2, RowI w1 (.slice (some ⟨bl, 0, none⟩) k c) (natI r) → Touch (fun k => k = bl) w0 w1 → w1.grownBy w2 (some bi) → n2 ≤ z + 1 → MapF w2 bi n2 f2 → (∀ y, f2 y = ixF (T.lv id slot) (fun y => if y = id then .slice (some ⟨bl, 0, none⟩) k c else lp y) y) →
      HpG w2 h (M.setTb x (T.lv id slot)) (z + 1) L b tp ∧ Touch (fun k => (L k).ofB x = true) w w2) := Lib.hid (fun w1 w2 n2 f2 a1 a2 a3 a4 a5 a6 => by
    obtain ⟨q1, q2⟩ := leave_end (z := z + 1) (slot := slot) hg' hl hb hm (fun y hy => ⟨(hr y hy).1, Nat.le_succ_of_le (hr y hy).2.1, (hr y hy).2.2.1, (hr y hy).2.2.2⟩) hne (by rw [hlp]; rfl) (by rw [hrl]; exact a1) a2 a3 a4 a5 a6
    have q5 : Touch (fun k => (L k).ofB x = true) w w2 := (Touch.of_below hb0).trans q2 (fun _ _ h => h)
    obtain ⟨q3, q4⟩ := touch_tb q5
    exact ⟨H.upd hx (Ext.refl 0 L) (Nat.le_succ z) (fun k hk => Nat.lt_of_lt_of_le (H.lt k hk) q4.size) q3 (by rw [hg]; exact q1), q5⟩)
  have HM1 : Hid (∀ w1, Touch (fun k => k = bl) w0 w1 → Lit w1 g 123 [.int .i64 T.last, .map (some bi)] ∧ MapF w1 bi nn (ixF T lp)) := Lib.hid (fun w1 a2 => by
    have hst := a2.stay (G := fun k => L k ≠ .ls x id) (fun k hk e => hk (by rw [e]; exact hBL))
    exact ⟨hl.stay hst (by rw [hg']; simp), hm.stay hst (by rw [hb]; simp)⟩)
  have HW0 := Lib.hid hw0
  have HGB := Lib.hid hgB
  have HN := Lib.hid (And.intro hnn hz)
  have HID := Lib.hid hid
  have HK := Lib.hid hk
  have HRL := Lib.hid hrl
  unfold ptrV
  clear H hx hs hI hT hb0 hlB hg' hl hb hnn hm hr p1 p2 p3 p4 hn hnp hlp hnc hcm hbl hBL hBne hr' hrl hz hid hw0 hgB hg hk
  go_enter Try.func47, Try.ntmps47
  go_upto_region 1 with (fail)
  rw [HW0.out, HGB.out]
  clear HW0
  go_wp2_with fail
  refine hdel.mono ?_
  rintro e w1 ⟨rfl, hrow, ht1⟩
  obtain ⟨hl1, hm1⟩ := HM1.out w1 ht1
  have c1 := hl1.cell (o := 1) rfl
  have hgl1 := hl1.lt
  have HR := Lib.hid (And.intro hrow (And.intro ht1 hm1))
  clear hdel hrow ht1 hl1 hm1 hlk
  cases k with
  | zero =>
    go_wp2_with (first | (at_delete; refine del_f rfl _ _ 119 rfl 35 Try.underlying119 bi nn (ixF T lp) rfl HR.out.2.2 id HID.out rfl ?_; intro w2 hm2 hg2) | go_in)
    have HEND := Lib.hid (HLV.out w1 w2 nn _ HR.out.1 HR.out.2.1 hg2 (Nat.le_succ_of_le HN.out.1) hm2 (fun y => by
      unfold updM ixF
      by_cases e : y = id
      · subst e
        rw [if_pos rfl, HRL.out, if_pos (List.eq_nil_of_length_eq_zero HK.out)]
      · rw [if_neg e]
        have e3 : (T.lv id slot).ix y = T.ix y := by unfold Tbl.lv; simp only [if_neg e]
        simp only [e3, if_neg e]))
    clear hm2 hg2
    simp only [Act.put]
    refine bodyPost_ret (results_none rfl _ _ _) rfl ?_
    exact ⟨rfl, HEND.out⟩
  | succ k =>
    have hne2 : ¬ ((k : Int) + 1 = 0) := by omega
    have hnm : nn < maxLen := by have := HN.out; unfold maxLen; omega
    go_wp2_with (first | (at_mapUpdate; refine put_f rfl _ _ _ 119 rfl 35 Try.underlying119 bi nn (ixF T lp) rfl HR.out.2.2 hnm id HID.out rfl (.slice (some ⟨bl, 0, none⟩) (k + 1) c) rfl ?_; intro w2 hm2 hg2) | go_in)
    have HEND := Lib.hid (HLV.out w1 w2 (nn + 1) _ HR.out.1 HR.out.2.1 hg2 (Nat.succ_le_succ HN.out.1) hm2 (fun y => by
      unfold updM ixF
      by_cases e : y = id
      · subst e
        rw [if_pos rfl, HRL.out, if_neg (by intro e; have := HK.out; rw [e] at this; cases this)]
        simp
      · rw [if_neg e]
        have e3 : (T.lv id slot).ix y = T.ix y := by unfold Tbl.lv; simp only [if_neg e]
        simp only [e3, if_neg e]))
    clear hm2 hg2
    go_wp2_with fail
    go_end0
    exact ⟨rfl, HEND.out⟩

end Go.Proofs.Ytbgnbaogclnpgaa

namespace Go.Proofs.Ytbgnbaogclnpgaa
open Go.RowKit
set_option linter.unusedVariables false

theorem HpM.hpg {W : World} {h z : Nat} {M : Hp} {L : Nat → Lab} (H : HpM W h M z L) {x : Int} {T : Tbl} (hx : M.tb x = some T) : ∃ b tp, HpG W h M z L b tp := by
  obtain ⟨s, f, m, stp, h1, h2, h3, h4⟩ := H.ex
  rcases h4 with ⟨_, hno⟩ | ⟨b, n, tp, rfl, q1, q2, q3, q4⟩
  · rw [hno x] at hx; cases hx
  · exact ⟨b, tp, H.lt, H.hp, H.nz, H.fz, q1, ⟨s, f, stp, n, h1, h2, h3, q2, q3⟩, q4⟩

/-- What empty leaves. -/
def Hp.empt (M : Hp) (i : Nat) (fr' : Nat → Nat) : Hp := { M with tup := updT M.tup i none, fn := M.fn + 1, fr := fr' }

/-- A slot is emptied. -/
theorem SlP.clear {W : World} {L : Nat → Lab} {n b c i : Nat} {tup : Nat → Option Tup} {tp : Nat → Nat} (h : SlP W L (.slice (some ⟨b, 0, none⟩) n c) n tup tp) (hi : i < n) :
    SlP (W.setCell ⟨b, i, none⟩ (.pointer none)) L (.slice (some ⟨b, 0, none⟩) n c) n (updT tup i none) tp ∧ Touch (fun k => L k = .sl) W (W.setCell ⟨b, i, none⟩ (.pointer none)) := by
  have hbL := h.own b rfl
  have hset := Touch.setCell W (F := fun k => k = b) rfl i (.pointer none)
  have hst := hset.stay (G := fun k => L k ≠ .sl) (fun k hk e => hk (by rw [e]; exact hbL))
  refine ⟨⟨((h.row.set (b := b) (c := 0) rfl hi (by omega) (by omega) (.pointer none)).congr fun j hj => ?_), h.own, fun j t' hj ht' => ?_⟩, hset.mono (fun k hk => by rw [hk]; exact hbL)⟩
  · unfold updR updT
    by_cases e : j = i
    · simp only [e, if_true]; rfl
    · simp only [if_neg e]
  · unfold updT at ht'
    by_cases e : j = i
    · subst e; simp only [if_true] at ht'; cases ht'
    · simp only [if_neg e] at ht'
      have := h.at' j t' hj ht'
      exact this.stay hst (by rw [this.1]; simp) (fun k hk => by rw [hk]; simp)

set_option maxRecDepth 100000 in
set_option maxHeartbeats 8000000 in
theorem empty_is (w : World) (h : Nat) (M : Hp) (z : Nat) (L : Nat → Lab) (i : Nat) (hz : z ≤ 90000) (H : HpM w h M z L) (hh : HeapO M.fr M.fn) (hi : i < M.n) :
    Calls Try.prog 48 #[ptrV h, .int .i64 (i : Int)] w fun e w' => e = .returned (.tuple #[]) ∧ ∃ fr' L', HpM w' h (M.empt i fr') (z + 1) L' ∧ HeapO fr' (M.fn + 1) ∧ Same (fun j => if j < M.fn then M.fr j else i) fr' (M.fn + 1) ∧ Ext w.heap.size L L' ∧ Touch (Fof L) w w' := by
  obtain ⟨s, f, mv, stp, hl, hs, hf, htb⟩ := H.ex
  obtain ⟨n, hn⟩ : ∃ n, M.n = n := ⟨_, rfl⟩
  rw [hn] at hs hi
  obtain ⟨b, c, rfl, hnc, hcm, hbl, hc0, hfz0⟩ := hs.cell hi
  obtain ⟨hs1, ht1⟩ := hs.clear hi
  obtain ⟨w1, hw1⟩ : ∃ w1, w.setCell ⟨b, i, none⟩ (.pointer none) = w1 := ⟨_, rfl⟩
  rw [hw1] at hs1 ht1
  have hst1 := ht1.stay (G := fun k => L k ≠ .sl) (fun k hk e => hk e)
  have hl1 := hl.stay hst1 (by rw [H.hp]; simp)
  have hf1 := hf.stay hst1 (fun k hk => by rw [hk]; simp)
  have htb1 := htb.stay hst1 (fun k hk => by intro e; rw [e] at hk; cases hk)
  have hfs := HpM.frs H.hp hl1 hf1
  have hcon := add_is w1 h _ mv f M.fn M.fr i (by have := H.fz; omega) hh hfs
  have c0 := hl.cell (o := 0) rfl
  have hhl := hl.lt
  have d1 := hl1.lt
  have h2 : (i : Int) < (n : Int) := by omega
  have h3 : (0 : Int) ≤ (i : Int) := by omega
  have HH := Lib.hid (And.intro H (And.intro hs1 (And.intro ht1 (And.intro hf1 htb1))))
  have HN := Lib.hid hn
  have HW1 := Lib.hid hw1
  obtain ⟨cv, hcv⟩ : ∃ cv, w.cell? ⟨b, i, none⟩ = some cv := ⟨_, hc0⟩
  unfold ptrV
  clear H hh hi hl hs hf htb hnc hcm hs1 ht1 hst1 hl1 hf1 htb1 hfs hn hw1 hc0
  go_enter Try.func48, Try.ntmps48
  go_upto_region 1 with (fail)
  rw [HW1.out]
  clear c0 hcv hfz0 hhl HW1
  go_wp2_with fail
  refine hcon.mono ?_
  rintro e w2 ⟨rfl, f', fr', hk2, hh2, hsm, ht2, ho2⟩
  have HEND : Hid (∃ L', HpM w2 h (M.empt i fr') (z + 1) L' ∧ Ext w.heap.size L L' ∧ Touch (Fof L) w w2) := Lib.hid (by
    obtain ⟨H, hs1, ht1, hf1, htb1⟩ := HH.out
    have hsz1 := ht1.size
    have hsz2 := ht2.size
    have ht2' : Touch (fun k => L k = .hp ∨ L k = .fr) w1 w2 := ht2.mono (fun k hk => hk.elim (fun e => .inl (by rw [e]; exact H.hp)) (fun e => .inr (hf1.own k e)))
    have hst2 := ht2'.stay (G := fun k => L k ≠ .hp ∧ L k ≠ .fr) (fun k hk e => e.elim hk.1 hk.2)
    obtain ⟨L', he, hL', hlt'⟩ : ∃ L', Ext w.heap.size L L' ∧ (∀ k, f'.ownBlock = some k → L' k = .fr) ∧ ∀ k, L' k ≠ .no → k < w2.heap.size := by
      cases hb' : f'.ownBlock with
      | none => exact ⟨L, Ext.refl _ _, fun k hk => (by cases hk), fun k hk => by have := H.lt k hk; omega⟩
      | some k0 =>
        have hk0 := hk2.row.lt k0 hb'
        rcases ho2 k0 hb' with e | e
        · exact ⟨L, Ext.refl _ _, fun k hk => by rw [← Option.some.inj hk]; exact hf1.own k0 e, fun k hk => by have := H.lt k hk; omega⟩
        · have hno : L k0 = .no := by
            by_cases e0 : L k0 = .no
            · exact e0
            · have := H.lt k0 e0; omega
          refine ⟨setL L k0 .fr, Ext.set _ (.inl hno) (by omega), fun k hk => by rw [← Option.some.inj hk, setL_same], fun k hk => ?_⟩
          by_cases ek : k = k0
          · omega
          · rw [setL_ne _ _ ek] at hk; have := H.lt k hk; omega
    refine ⟨L', ⟨hlt', he.keep H.hp (by simp), Nat.le_succ_of_le H.nz, Nat.succ_le_succ H.fz, _, f', mv, stp, hk2.lit, ?_, ⟨hk2.row, hL'⟩, ((htb1.stay hst2 (fun k hk => ⟨(by intro e; rw [e] at hk; cases hk), (by intro e; rw [e] at hk; cases hk)⟩)).ext he).more (Nat.le_succ z)⟩, he, (ht1.mono (fun k hk => by unfold Fof; rw [hk]; simp)).trans ht2' (fun k _ hk => by unfold Fof; rcases hk with e | e <;> rw [e] <;> simp)⟩
    show SlP w2 L' _ M.n (updT M.tup i none) stp
    rw [HN.out]
    exact (hs1.stay hst2 (fun k hk => ⟨(by intro e; rw [e] at hk; cases hk), (by intro e; rw [e] at hk; cases hk)⟩)).ext he)
  have HO := Lib.hid (And.intro hh2 hsm)
  clear hcon hk2 hh2 hsm ht2 ho2
  go_wp2_with fail
  go_end0
  obtain ⟨L', q1, q2, q3⟩ := HEND.out
  exact ⟨rfl, fr', L', q1, HO.out.1, HO.out.2, q2, q3⟩

/-! ### Free -/

def Hp.freeT (M : Hp) (i : Nat) (t : Tup) (T : Tbl) (fr' : Nat → Nat) : Hp := (M.setTb t.no (T.lv t.id i)).empt i fr'

set_option maxRecDepth 100000 in
set_option maxHeartbeats 8000000 in
theorem free_in (w : World) (h : Nat) (M : Hp) (z : Nat) (L : Nat → Lab) (i : Nat) (t : Tup) (T : Tbl) (hz : z ≤ 80000) (H : HpM w h M z L) (hh : HeapO M.fr M.fn) (hi : i < M.n) (ht : M.tup i = some t) (hno : I64 t.no) (hid : I64 t.id) (hx : M.tb t.no = some T) (hs : i ∈ T.ix t.id) :
    Calls Try.prog 32 #[ptrV h, .int .i64 (i : Int)] w fun e w' => e = .returned (.int .i64 0) ∧ ∃ fr' L', HpM w' h (M.freeT i t T fr') (z + 2) L' ∧ HeapO fr' (M.fn + 1) ∧ Same (fun j => if j < M.fn then M.fr j else i) fr' (M.fn + 1) ∧ Ext w.heap.size L L' ∧ Touch (Fof L) w w' := by
  have mixed : Try.prog.follows Departure.mixedOrders = true := by kernel_rfl
  obtain ⟨b, tp, hG⟩ := H.hpg hx
  obtain ⟨s, f, stp, nn, hl, hsl, hf, -, hm⟩ := hG.ex
  have hcf := find_in w h s f (.map (some b)) L M.n M.tup stp i t hl hsl hi ht (by have := H.nz; omega)
  obtain ⟨hta, sv, hlt, -, -⟩ := hsl.at' i t hi ht
  obtain ⟨g, hg⟩ : ∃ g, stp i = g := ⟨_, rfl⟩
  obtain ⟨gt, hgt⟩ : ∃ gt, tp t.no = gt := ⟨_, rfl⟩
  rw [hg] at hcf hta hlt
  have hlook : ∀ W, HpG W h M z L b tp → (Instr.lookup 73 (.map (some b)) (.int .i64 t.no) false).run Try.prog W = .ok (.pointer (some ⟨gt, 0, none⟩)) W := fun W hW => by
    obtain ⟨_, _, _, _, _, _, _, _, hmW⟩ := hW.ex
    have := hmW.look Try.underlying73 (z := .pointer none) (by kernel_rfl) hno
    rwa [show (tbF M.tb tp t.no).getD (.pointer none) = .pointer (some ⟨gt, 0, none⟩) by unfold tbF; rw [hx, hgt]; rfl] at this
  have hGd := hG.below (below_drw w)
  have HCON := Lib.hid (leave_is w.drew h M z L b tp t.no t.id i T hid (by omega) hGd hx hs)
  rw [hgt] at HCON
  have hld := hl.below (below_drw w)
  have hltd := hlt.below (below_drw w)
  have HS0 : Hid (w.drew.cell? ⟨h, 2, none⟩ = some (.map (some b)) ∧ w.drew.cell? ⟨g, 0, none⟩ = some (.int .i64 t.no) ∧ w.drew.cell? ⟨g, 1, none⟩ = some (.int .i64 t.id) ∧ (Instr.lookup 73 (.map (some b)) (.int .i64 t.no) false).run Try.prog w.drew = .ok (.pointer (some ⟨gt, 0, none⟩)) w.drew) := Lib.hid ⟨hld.cell rfl, hltd.cell rfl, hltd.cell rfl, hlook _ hGd⟩
  have hafter : Hid (∀ w2, HpG w2 h (M.setTb t.no (T.lv t.id i)) (z + 1) L b tp → Touch (fun k => (L k).ofB t.no = true) w.drew w2 → w2.cell? ⟨h, 2, none⟩ = some (.map (some b)) ∧ w2.cell? ⟨g, 0, none⟩ = some (.int .i64 t.no) ∧ w2.cell? ⟨g, 1, none⟩ = some (.int .i64 t.id) ∧ (Instr.lookup 73 (.map (some b)) (.int .i64 t.no) false).run Try.prog w2 = .ok (.pointer (some ⟨gt, 0, none⟩)) w2) := Lib.hid (fun w2 q1 q2 => by
    obtain ⟨_, _, _, _, hl2, _, _, _, hm2⟩ := q1.ex
    have hst := q2.stay (G := fun k => L k = .tu i) (fun k hk e => by rw [hk] at e; cases e)
    have hlt2 := hltd.stay hst hta
    have hlk2 := hm2.look Try.underlying73 (z := .pointer none) (by kernel_rfl) hno
    rw [show (tbF (M.setTb t.no (T.lv t.id i)).tb tp t.no).getD (.pointer none) = .pointer (some ⟨gt, 0, none⟩) by unfold tbF Hp.setTb; simp only [if_true]; rw [← hgt]; rfl] at hlk2
    exact ⟨hl2.cell rfl, hlt2.cell rfl, hlt2.cell rfl, hlk2⟩)
  have HH := Lib.hid (And.intro hh (And.intro hi (And.intro hz H.lt)))
  unfold ptrV at hcf HCON ⊢
  clear H hh hi ht hno hid hx hs hG hl hsl hf hm hta hlt hlook hGd hld hltd hg hgt hz
  go_enter Try.func32, Try.ntmps32
  go_wp2_with fail
  refine hcf.mono ?_
  rintro e w1 ⟨rfl, rfl⟩
  clear hcf
  go_upto_region 3 with (fail)
  refine RX.wp_region_lastH 15 (fun W => W.cell? ⟨h, 2, none⟩ = some (.map (some b)) ∧ W.cell? ⟨g, 0, none⟩ = some (.int .i64 t.no) ∧ W.cell? ⟨g, 1, none⟩ = some (.int .i64 t.id) ∧ (Instr.lookup 73 (.map (some b)) (.int .i64 t.no) false).run Try.prog W = .ok (.pointer (some ⟨gt, 0, none⟩)) W) mixed (by kernel_rfl) ?_
  simp only [List.take_succ_cons, List.take_zero, List.drop_succ_cons, List.drop_zero]
  refine wpAnyH_take (i := 0) (oi := _) (v := .pointer (some ⟨h, 0, none⟩)) rfl (by kernel_rfl) (by kernel_rfl) (by kernel_rfl) (fun _ _ _ h => h) (Or.inl ⟨by rfl, fun w' hw' => ?_⟩) (HS0.out) ?_
  · obtain ⟨j0, j1, j2, j3⟩ := hw'
    go_simp
    try first | with_reducible rfl | simp
  refine wpAnyH_take (i := 1) (oi := _) (v := .pointer (some ⟨h, 0, none⟩)) rfl (by kernel_rfl) (by kernel_rfl) (by kernel_rfl) (fun _ _ _ h => h) (Or.inl ⟨by rfl, fun w' hw' => ?_⟩) (HS0.out) ?_
  · obtain ⟨j0, j1, j2, j3⟩ := hw'
    go_simp
    try first | with_reducible rfl | simp
  refine wpAnyH_take (i := 2) (oi := _) (v := .pointer (some ⟨h, 2, none⟩)) rfl (by kernel_rfl) (by kernel_rfl) (by kernel_rfl) (fun _ _ _ h => h) (Or.inl ⟨by rfl, fun w' hw' => ?_⟩) (HS0.out) ?_
  · obtain ⟨j0, j1, j2, j3⟩ := hw'
    go_simp
    try first | with_reducible rfl | simp
  refine wpAnyH_take (i := 3) (oi := _) (v := .map (some b)) rfl (by kernel_rfl) (by kernel_rfl) (by kernel_rfl) (fun _ _ _ h => h) (Or.inl ⟨by rfl, fun w' hw' => ?_⟩) (HS0.out) ?_
  · obtain ⟨j0, j1, j2, j3⟩ := hw'
    go_simp
    try first | with_reducible rfl | simp
  refine wpAnyH_take (i := 4) (oi := _) (v := .pointer (some ⟨g, 0, none⟩)) rfl (by kernel_rfl) (by kernel_rfl) (by kernel_rfl) (fun _ _ _ h => h) (Or.inl ⟨by rfl, fun w' hw' => ?_⟩) (HS0.out) ?_
  · obtain ⟨j0, j1, j2, j3⟩ := hw'
    go_simp
    try first | with_reducible rfl | simp
  refine wpAnyH_take (i := 5) (oi := _) (v := .pointer (some ⟨g, 0, none⟩)) rfl (by kernel_rfl) (by kernel_rfl) (by kernel_rfl) (fun _ _ _ h => h) (Or.inl ⟨by rfl, fun w' hw' => ?_⟩) (HS0.out) ?_
  · obtain ⟨j0, j1, j2, j3⟩ := hw'
    go_simp
    try first | with_reducible rfl | simp
  refine wpAnyH_take (i := 6) (oi := _) (v := .pointer (some ⟨g, 0, none⟩)) rfl (by kernel_rfl) (by kernel_rfl) (by kernel_rfl) (fun _ _ _ h => h) (Or.inl ⟨by rfl, fun w' hw' => ?_⟩) (HS0.out) ?_
  · obtain ⟨j0, j1, j2, j3⟩ := hw'
    go_simp
    try first | with_reducible rfl | simp
  refine wpAnyH_take (i := 7) (oi := _) (v := .int .i64 t.no) rfl (by kernel_rfl) (by kernel_rfl) (by kernel_rfl) (fun _ _ _ h => h) (Or.inl ⟨by rfl, fun w' hw' => ?_⟩) (HS0.out) ?_
  · obtain ⟨j0, j1, j2, j3⟩ := hw'
    go_simp
    try first | with_reducible rfl | simp
  refine wpAnyH_take (i := 8) (oi := _) (v := .pointer (some ⟨gt, 0, none⟩)) rfl (by kernel_rfl) (by kernel_rfl) (by kernel_rfl) (fun _ _ _ h => h) (Or.inl ⟨by rfl, fun w' hw' => ?_⟩) (HS0.out) ?_
  · obtain ⟨j0, j1, j2, j3⟩ := hw'
    go_simp
    try first | with_reducible rfl | simp
  refine wpAnyH_take (i := 9) (oi := _) (v := .pointer (some ⟨g, 0, none⟩)) rfl (by kernel_rfl) (by kernel_rfl) (by kernel_rfl) (fun _ _ _ h => h) (Or.inl ⟨by rfl, fun w' hw' => ?_⟩) (HS0.out) ?_
  · obtain ⟨j0, j1, j2, j3⟩ := hw'
    go_simp
    try first | with_reducible rfl | simp
  refine wpAnyH_take (i := 10) (oi := _) (v := .pointer (some ⟨g, 0, none⟩)) rfl (by kernel_rfl) (by kernel_rfl) (by kernel_rfl) (fun _ _ _ h => h) (Or.inl ⟨by rfl, fun w' hw' => ?_⟩) (HS0.out) ?_
  · obtain ⟨j0, j1, j2, j3⟩ := hw'
    go_simp
    try first | with_reducible rfl | simp
  refine wpAnyH_take (i := 11) (oi := _) (v := .pointer (some ⟨g, 1, none⟩)) rfl (by kernel_rfl) (by kernel_rfl) (by kernel_rfl) (fun _ _ _ h => h) (Or.inl ⟨by rfl, fun w' hw' => ?_⟩) (HS0.out) ?_
  · obtain ⟨j0, j1, j2, j3⟩ := hw'
    go_simp
    try first | with_reducible rfl | simp
  refine wpAnyH_take (i := 12) (oi := _) (v := .int .i64 t.id) rfl (by kernel_rfl) (by kernel_rfl) (by kernel_rfl) (fun _ _ _ h => h) (Or.inl ⟨by rfl, fun w' hw' => ?_⟩) (HS0.out) ?_
  · obtain ⟨j0, j1, j2, j3⟩ := hw'
    go_simp
    try first | with_reducible rfl | simp
  refine wpAnyH_take (i := 13) (oi := _) (v := .int .i64 (i : Int)) rfl (by kernel_rfl) (by kernel_rfl) (by kernel_rfl) (fun _ _ _ h => h) (Or.inl ⟨by rfl, fun w' hw' => ?_⟩) (HS0.out) ?_
  · obtain ⟨j0, j1, j2, j3⟩ := hw'
    go_simp
    try first | with_reducible rfl | simp
  refine RX.anyH_call (i := 14) (f := 47) (args := #[.pointer (some ⟨gt, 0, none⟩), .int .i64 t.id, .int .i64 (i : Int)]) (by kernel_rfl) rfl (by rfl) (by go_simp) ?_
  refine (show Calls Try.prog _ _ _ _ from HCON.out).mono ?_
  rintro e w2 ⟨rfl, hG2, ht2⟩
  
  have HG2 := Lib.hid hG2
  have HT2 : Hid (Touch (Fof L) w1 w2) := Lib.hid ((Touch.of_below (below_drw w1)).trans (touch_tb ht2).2 (fun _ _ h => h))
  have HS2 := Lib.hid (hafter.out w2 hG2 ht2)
  clear hG2 ht2
  refine ⟨.tuple #[], rfl, HS2.out, ?_⟩
  refine wpAnyH_done (by kernel_rfl) ?_ _
  unfold RX.lastQ
  have hcon := empty_is w2 h _ (z + 1) L i (by have := HH.out.2.2.1; omega) HG2.out.hpm HH.out.1 HH.out.2.1
  obtain ⟨hq, -⟩ := HS2.out
  unfold ptrV at hcon
  go_wp2_with fail
  refine hcon.mono ?_
  rintro e w3 ⟨rfl, fr', L', q1, q2, q3, q4, q5⟩
  have HEND : Hid (HpM w3 h (M.freeT i t T fr') (z + 2) L' ∧ HeapO fr' (M.fn + 1) ∧ Same (fun j => if j < M.fn then M.fr j else i) fr' (M.fn + 1) ∧ Ext w1.heap.size L L' ∧ Touch (Fof L) w1 w3) := Lib.hid ⟨q1, q2, q3, q4.mono HT2.out.size, HT2.out.trans q5 (fun _ _ h => h)⟩
  clear hcon q1 q2 q3 q4 q5 hq
  go_wp2_with fail
  go_ret
  exact ⟨rfl, fr', L', HEND.out⟩

set_option maxRecDepth 100000 in
theorem free_no (w : World) (v : Value) (x err : Int) (herr : (err == 0) = false) (hf : Calls Try.prog 33 #[v, .int .i64 x] w fun e w' => e = .returned (.tuple #[.pointer none, .int .i64 err]) ∧ w' = w) :
    Calls Try.prog 32 #[v, .int .i64 x] w fun e w' => e = .returned (.int .i64 err) ∧ w' = w := by
  have hne : ¬ err = 0 := by simpa using herr
  go_enter Try.func32, Try.ntmps32
  go_wp2_with fail
  refine hf.mono ?_
  rintro e w1 ⟨rfl, rfl⟩
  clear hf
  go_wp2_with fail
  go_ret
  exact ⟨rfl, rfl⟩

end Go.Proofs.Ytbgnbaogclnpgaa

namespace Go.Proofs.Ytbgnbaogclnpgaa
open Go.RowKit
set_option linter.unusedVariables false

/-- What index hands out: nothing, or a map of rows of slots. -/
def IdxAt (W : World) (z : Nat) (mv : Value) (ix : Int → List Nat) : Prop :=
  (mv = .map none ∧ ∀ y, ix y = []) ∨ ∃ (bi n : Nat) (lp : Int → Value), mv = .map (some bi) ∧ n ≤ z ∧ MapF W bi n (fun y => if ix y = [] then none else some (lp y)) ∧ ∀ y, ix y ≠ [] → I64 y ∧ (ix y).length ≤ z ∧ RowI W (lp y) (natI (ix y))

theorem IdxAt.below {W W' : World} {z : Nat} {mv : Value} {ix : Int → List Nat} (h : IdxAt W z mv ix) (hb : Below W.heap.size W W') : IdxAt W' z mv ix := by
  rcases h with h | ⟨bi, n, lp, h1, h2, h3, h4⟩
  · exact .inl h
  · exact .inr ⟨bi, n, lp, h1, h2, h3.below hb, fun y hy => ⟨(h4 y hy).1, (h4 y hy).2.1, (h4 y hy).2.2.below hb⟩⟩

/-- The row of y. -/
theorem IdxAt.look {W : World} {z : Nat} {mv : Value} {ix : Int → List Nat} (h : IdxAt W z mv ix) {y : Int} (hy : I64 y) :
    ∃ a c, (∀ W', Below W.heap.size W W' → (Instr.lookup 119 mv (.int .i64 y) false).run Try.prog W' = .ok (.slice a (ix y).length c) W') ∧ RowI W (.slice a (ix y).length c) (natI (ix y)) := by
  rcases h with ⟨rfl, h0⟩ | ⟨bi, n, lp, rfl, h2, h3, h4⟩
  · refine ⟨none, 0, fun W' _ => ?_, ?_⟩
    · have := Maps.look_nil (w := W') (P := Try.prog) (k := 3) (t := 119) (e := 35) (z := .slice none 0 0) (key := .int .i64 y) (kl := .int .i64 y) false lawI Try.underlying119 (by kernel_rfl) (keyI hy)
      rw [h0 y]
      exact this
    · rw [h0 y]; exact RowF.nil _ _ _ _
  · by_cases e : ix y = []
    · refine ⟨none, 0, fun W' hb => ?_, by rw [e]; exact RowF.nil _ _ _ _⟩
      have := (h3.below hb).look Try.underlying119 (z := .slice none 0 0) (by kernel_rfl) hy
      rw [if_pos e] at this
      rw [e]
      exact this
    · obtain ⟨q1, q2, q3⟩ := h4 y e
      obtain ⟨a, c, hf, _, _⟩ := q3.form
      rw [natI_len] at hf
      refine ⟨a, c, fun W' hb => ?_, by rw [← hf]; exact q3⟩
      have := (h3.below hb).look Try.underlying119 (z := .slice none 0 0) (by kernel_rfl) hy
      rw [if_neg e, hf] at this
      exact this

/-- index of v at x is mv, here and whatever comes besides. -/
def Idx (W : World) (v : Value) (x : Int) (mv : Value) : Prop := ∀ W', Below W.heap.size W W' → Calls Try.prog 59 #[v, .int .i64 x] W' fun e w' => e = .returned mv ∧ w' = W'
theorem Idx.below {W W' : World} {v : Value} {x : Int} {mv : Value} (h : Idx W v x mv) (hb : Below W.heap.size W W') : Idx W' v x mv := fun W2 hb2 => h W2 (below_tr hb hb2)

theorem index_nil (W : World) (x : Int) : Idx W (.pointer none) x (.map none) := fun W' _ => by
  go_enter Try.func59, Try.ntmps59
  go_wp2_with fail
  go_ret
  exact ⟨rfl, rfl⟩

set_option maxRecDepth 100000 in
theorem index_none (W : World) (h : Nat) (mv : Value) (x : Int) (hhl : h < W.heap.size) (c2 : W.cell? ⟨h, 2, none⟩ = some mv) (hm : (mv = .map none ∨ ∃ b, mv = .map (some b))) (hlk : ∀ W', Below W.heap.size W W' → (Instr.lookup 73 mv (.int .i64 x) false).run Try.prog W' = .ok (.pointer none) W') : Idx W (ptrV h) x (.map none) := fun W' hb => by
  have c2' : W'.cell? ⟨h, 2, none⟩ = some mv := by rw [hb.cell (p := ⟨h, 2, none⟩) hhl]; exact c2
  have hl := hlk W' hb
  have hhl' : h < W'.heap.size := Nat.lt_of_lt_of_le hhl hb.size
  unfold ptrV
  rcases hm with rfl | ⟨b, rfl⟩
  · clear hlk c2 hhl hb
    go_enter Try.func59, Try.ntmps59
    go_wp2_with fail
    go_ret
    exact ⟨rfl, rfl⟩
  · clear hlk c2 hhl hb
    go_enter Try.func59, Try.ntmps59
    go_wp2_with fail
    go_ret
    exact ⟨rfl, rfl⟩

set_option maxRecDepth 100000 in
theorem index_some (W : World) (h b g bi : Nat) (v0 : Value) (x : Int) (hhl : h < W.heap.size) (hgl : g < W.heap.size) (c2 : W.cell? ⟨h, 2, none⟩ = some (.map (some b))) (c1 : W.cell? ⟨g, 1, none⟩ = some (.map (some bi))) (hlk : ∀ W', Below W.heap.size W W' → (Instr.lookup 73 (.map (some b)) (.int .i64 x) false).run Try.prog W' = .ok (.pointer (some ⟨g, 0, none⟩)) W') : Idx W (ptrV h) x (.map (some bi)) := fun W' hb => by
  have c2' : W'.cell? ⟨h, 2, none⟩ = some (.map (some b)) := by rw [hb.cell (p := ⟨h, 2, none⟩) hhl]; exact c2
  have c1' : W'.cell? ⟨g, 1, none⟩ = some (.map (some bi)) := by rw [hb.cell (p := ⟨g, 1, none⟩) hgl]; exact c1
  have hl := hlk W' hb
  have hhl' : h < W'.heap.size := Nat.lt_of_lt_of_le hhl hb.size
  have hgl' : g < W'.heap.size := Nat.lt_of_lt_of_le hgl hb.size
  unfold ptrV
  clear hlk c2 c1 hhl hgl hb
  go_enter Try.func59, Try.ntmps59
  go_wp2_with fail
  go_ret
  exact ⟨rfl, rfl⟩

theorem index_is {W : World} {h z : Nat} {M : Hp} {L : Nat → Lab} (H : HpM W h M z L) {x : Int} (hx : I64 x) : ∃ mv, Idx W (ptrV h) x mv ∧ IdxAt W z mv (M.tbl x).ix := by
  obtain ⟨s, f, m, stp, hl, -, -, ht⟩ := H.ex
  rcases ht with ⟨rfl, hno⟩ | ⟨b, n, tp, rfl, h1, h2, h3, h4⟩
  · refine ⟨.map none, index_none W h (.map none) x hl.lt (hl.cell rfl) (.inl rfl) (fun W' hb => Maps.look_nil (P := Try.prog) (k := 3) (t := 73) (e := 108) (z := .pointer none) (kl := .int .i64 x) false lawI Try.underlying73 (by kernel_rfl) (keyI hx)), .inl ⟨rfl, fun y => ?_⟩⟩
    unfold Hp.tbl; rw [hno x]; rfl
  · cases hb : M.tb x with
    | none =>
      refine ⟨.map none, index_none W h (.map (some b)) x hl.lt (hl.cell rfl) (.inr ⟨b, rfl⟩) (fun W' hbl => ?_), .inl ⟨rfl, fun y => ?_⟩⟩
      · have := (h3.below hbl).look Try.underlying73 (z := .pointer none) (by kernel_rfl) hx
        rwa [show (tbF M.tb tp x).getD (.pointer none) = .pointer none by unfold tbF; rw [hb]; rfl] at this
      · unfold Hp.tbl; rw [hb]; rfl
    | some T =>
      obtain ⟨_, hT⟩ := h4 x T hb
      obtain ⟨q1, bi, nn, lp, q2, q3, q4, q5, q6⟩ := hT
      refine ⟨.map (some bi), index_some W h b (tp x) bi (.int .i64 T.last) x hl.lt q2.lt (hl.cell rfl) (q2.cell rfl) (fun W' hbl => ?_), .inr ⟨bi, nn, lp, rfl, q4, ?_, fun y hy => ?_⟩⟩
      · have := (h3.below hbl).look Try.underlying73 (z := .pointer none) (by kernel_rfl) hx
        rwa [show (tbF M.tb tp x).getD (.pointer none) = .pointer (some ⟨tp x, 0, none⟩) by unfold tbF; rw [hb]; rfl] at this
      · unfold Hp.tbl; rw [hb]; exact q5
      · unfold Hp.tbl at hy ⊢
        rw [hb] at hy ⊢
        exact ⟨(q6 y hy).1, (q6 y hy).2.1, (q6 y hy).2.2.1⟩

/-! ### The iterator -/

attribute [local go_sem] Oper.semAt_some

set_option maxRecDepth 100000 in
set_option maxHeartbeats 8000000 in
theorem it_in (l B n₀ : Nat) (v : Value) (x y : Int) (mv : Value) (a : Option Addr) (n c : Nat) (xs : List Int) (hn : xs.length = n) (hnz : n ≤ 1000000) (J Jx : List Int → World → Prop)
    (hY : ∀ pre x W, J pre W → pre.length < xs.length → YieldAt Fence.wide 4 Try.prog l #[.int .i64 x] W fun e W' =>
      (e = .returned (.bool true) ∧ J (pre ++ [x]) W' ∧ Below n₀ W W') ∨ (e = .returned (.bool false) ∧ Jx (pre ++ [x]) W'))
    (hJ : ∀ W W' s, Below W.heap.size W W' → J s W → J s W')
    (W : World) (hB : B + 2 < W.heap.size) (h0 : W.cell? ⟨B, 0, none⟩ = some v) (h1 : W.cell? ⟨B + 1, 0, none⟩ = some (.int .i64 x)) (h2 : W.cell? ⟨B + 2, 0, none⟩ = some (.int .i64 y)) (hX : Idx W v x mv)
    (hlk : ∀ W', Below W.heap.size W W' → (Instr.lookup 119 mv (.int .i64 y) false).run Try.prog W' = .ok (.slice a n c) W') (hr : RowI W (.slice a n c) xs) (hrn : ∀ k, Value.ownBlock (.slice a n c) = some k → k < n₀) (hv : v = .pointer none ∨ ∃ h, v = ptrV h) (hJ0 : J [] W) :
    CallsIn Fence.wide 5 Try.prog 58 #[.func (.yield l) #[] #[], .pointer (some ⟨B, 0, none⟩), .pointer (some ⟨B + 1, 0, none⟩), .pointer (some ⟨B + 2, 0, none⟩)] W fun e W' => (∃ v, e = .returned v) ∧
      (J xs W' ∨ (∃ pre, pre <+: xs ∧ Jx pre W')) := by
  have mixed : Try.prog.follows Departure.mixedOrders = true := by kernel_rfl
  have HX := Lib.hid hX
  have HQ : Hid (∀ W', Below W.heap.size W W' → W'.cell? ⟨B, 0, none⟩ = some v ∧ W'.cell? ⟨B + 1, 0, none⟩ = some (.int .i64 x) ∧ W'.cell? ⟨B + 2, 0, none⟩ = some (.int .i64 y) ∧ (Instr.lookup 119 mv (.int .i64 y) false).run Try.prog W' = .ok (.slice a n c) W') := Lib.hid (fun W' hb =>
    ⟨by rw [hb.cell (p := ⟨B, 0, none⟩) (by show B < _; omega)]; exact h0, by rw [hb.cell (p := ⟨B + 1, 0, none⟩) (by show B + 1 < _; omega)]; exact h1, by rw [hb.cell (p := ⟨B + 2, 0, none⟩) hB]; exact h2, hlk W' hb⟩)
  have HR := Lib.hid hr
  have HRN := Lib.hid hrn
  have HY := Lib.hid hY
  have HJ := Lib.hid hJ
  have HJ0 := Lib.hid hJ0
  have HN := Lib.hid hn
  have HNZ := Lib.hid hnz
  clear hY hJ hB h0 h1 h2 hX hlk hr hrn hJ0 hn hnz
  refine callsIn_of_wp Try.func58 rfl trivial ?_ rfl
  simp only [Try.ntmps58, List.size_toArray, List.length_cons, List.length_nil, Nat.reduceAdd, Nat.reduceSub, Array.replicate_succ, Array.replicate_zero, List.push_toArray, List.append_toArray, List.nil_append, List.cons_append]
  refine wpIn_wide.2 ?_
  clear hv
  go_upto_region 0 with (fail)
  have hdr := below_drw W
  try simp only [List.append_eq, List.cons_append, List.nil_append]
  refine RX.wp_region_plan (fun w w' => Below w.heap.size w w') [.it (v), .it (.int .i64 x), .it (mv), .it (.int .i64 y), .it (.slice a n c), .it (.int .i64 n), .it (.int .i64 0)] (by kernel_rfl) (by kernel_rfl) (fun _ => Below.refl _ _) (fun _ _ _ => below_tr) ?_
  refine RX.seqP_value (fun _ => Below.refl _ _) _ (by first | rfl | simp) (fun w' hw' hctx => ?_) ?_
  · obtain ⟨q0, q1, q2, q3⟩ := HQ.out _ (below_tr hdr hw')
    go_simp
    try first | with_reducible rfl | simp
  simp only [Act.put, List.setIfInBounds_toArray, List.set_cons_zero, List.set_cons_succ]
  refine RX.seqP_value (fun _ => Below.refl _ _) _ (by first | rfl | simp) (fun w' hw' hctx => ?_) ?_
  · obtain ⟨q0, q1, q2, q3⟩ := HQ.out _ (below_tr hdr hw')
    go_simp
    try first | with_reducible rfl | simp
  simp only [Act.put, List.setIfInBounds_toArray, List.set_cons_zero, List.set_cons_succ]
  refine RX.seqP_call (59) #[v, .int .i64 x] (mv) (by first | rfl | simp) (fun w' hw' hctx => ?_) (fun w' hw' hctx => (HX.out _ (below_tr hdr hw')).mono (fun e w2 h => ⟨h.1, by rw [h.2]; exact Below.refl _ _⟩)) ?_
  · go_simp
  simp only [Act.put, List.setIfInBounds_toArray, List.set_cons_zero, List.set_cons_succ]
  refine RX.seqP_value (fun _ => Below.refl _ _) _ (by first | rfl | simp) (fun w' hw' hctx => ?_) ?_
  · obtain ⟨q0, q1, q2, q3⟩ := HQ.out _ (below_tr hdr hw')
    go_simp
    try first | with_reducible rfl | simp
  simp only [Act.put, List.setIfInBounds_toArray, List.set_cons_zero, List.set_cons_succ]
  refine RX.seqP_value (fun _ => Below.refl _ _) _ (by first | rfl | simp) (fun w' hw' hctx => ?_) ?_
  · obtain ⟨q0, q1, q2, q3⟩ := HQ.out _ (below_tr hdr hw')
    go_simp
    try first | with_reducible rfl | simp
  simp only [Act.put, List.setIfInBounds_toArray, List.set_cons_zero, List.set_cons_succ]
  refine RX.seqP_value (fun _ => Below.refl _ _) _ (by first | rfl | simp) (fun w' hw' hctx => by (go_simp); (try first | with_reducible rfl | simp)) ?_
  simp only [Act.put, List.setIfInBounds_toArray, List.set_cons_zero, List.set_cons_succ]
  refine RX.seqP_value (fun _ => Below.refl _ _) _ (by first | rfl | simp) (fun w' hw' hctx => by (go_simp); (try first | with_reducible rfl | simp)) ?_
  simp only [Act.put, List.setIfInBounds_toArray, List.set_cons_zero, List.set_cons_succ]
  refine RX.seqP_nil (fun v1 hR hctx _ => ?_)
  have hv1 := below_tr hdr hR
  clear hctx hR
  have HJ1 := Lib.hid (HJ.out _ _ _ hv1 HJ0.out)
  have HR1 := Lib.hid (RowF.below HR.out hv1)
  clear hv1 hdr HQ HX HR HJ0
  go_wp2_with fail
  refine (wpIn_wide (n := 5)).1 ?_
  gi_loopw [13] (fun i wr => ∃ k : Nat, i = .int .i64 k ∧ k ≤ n ∧ Hid (J (xs.take k) wr) ∧ Hid (RowI wr (.slice a n c) xs)) (fun i _ => n - (intOf i).toNat)
  case atStart => exact ⟨0, rfl, Nat.zero_le _, HJ1, HR1⟩
  case round =>
    obtain ⟨k, rfl, hkn, HJk, HRk⟩ := hrel
    clear HJ1 HR1
    by_cases hlt : k < n
    · have hltz : (k : Int) < (n : Int) := by omega
      have hk0 : (0 : Int) ≤ (k : Int) := by omega
      obtain ⟨b, c', e, hnc, hcm, hbl, hat, hfz⟩ := HRk.out.at (j := k) (by rw [HN.out]; exact hlt)
      rw [HN.out] at e
      cases e
      have ck := hat k (by rw [HN.out]; exact hlt)
      obtain ⟨u, hu⟩ : ∃ u, xs.getD k 0 = u := ⟨_, rfl⟩
      rw [hu] at ck
      obtain ⟨fn, tmps, assign, body, hy, hR⟩ := HY.out (xs.take k) u wr HJk.out (by rw [List.length_take]; have := HN.out; omega)
      have HLT := Lib.hid hlt
      have HU := Lib.hid hu
      have hbn := HRN.out b rfl
      have HBN := Lib.hid hbn
      clear hat hfz hnc hcm hkn hlt hu hbn
      have HNK := Lib.hid (And.intro HN.out HNZ.out)
      gi_wp2_with fail
      refine hR.mono ?_
      rintro e W3 (⟨rfl, hJ3, hk3⟩ | ⟨rfl, hJx3⟩)
      · have HR3 : Hid (RowI W3 (.slice (some ⟨b, 0, none⟩) n c) xs) := Lib.hid (RowF.stay (G := fun k => k < n₀) HRk.out ⟨hk3.size, fun j hj hG => hk3.block j hG⟩ (fun j hj => by have : b = j := Option.some.inj hj; have := HBN.out; omega))
        have HJ3 : Hid (J (xs.take (k + 1)) W3) := Lib.hid (by
          have hkl : k < xs.length := by have := HN.out; have := HLT.out; omega
          rw [List.take_add_one, List.getElem?_eq_getElem hkl]
          have e1 : xs[k] = u := by have := HU.out; simpa [hkl] using this
          rw [e1]
          exact hJ3)
        have HWI : Hid (wrap64 ((k : Int) + 1) = (k : Int) + 1) := Lib.hid (wrOk (by have := HLT.out; have := HNZ.out; omega))
        clear hJ3 hk3 hy hR ck HJk HRk
        gi_wp2_with fail
        go_roundw
        case rel => exact ⟨k + 1, by rw [HWI.out]; rfl, HLT.out, HJ3, HR3⟩
        case measure => rw [HWI.out]; have := HLT.out; simp [intOf]; omega
      · clear hy hR ck HJk HRk
        gi_wp2_with fail
        refine bodyPost_ret (results_none rfl _ _ _) rfl ?_
        refine ⟨⟨_, rfl⟩, .inr ⟨xs.take k ++ [u], ?_, hJx3⟩⟩
        have hkl : k < xs.length := by have := HN.out; have := HLT.out; omega
        have e1 : xs[k] = u := by have := HU.out; simpa [hkl] using this
        have hp := List.take_prefix (k + 1) xs
        rw [List.take_add_one, List.getElem?_eq_getElem hkl, e1] at hp
        exact hp
    · have hltz : ¬ (k : Int) < (n : Int) := by omega
      obtain rfl : n = k := by omega
      have HJe : Hid (J xs wr) := Lib.hid (by have := HJk.out; rwa [List.take_of_length_le (by rw [HN.out]; exact Nat.le_refl _)] at this)
      clear HJk
      gi_wp2_with fail
      go_end0
      exact ⟨⟨_, rfl⟩, .inl HJe.out⟩

theorem slotsOf_in (n : Nat) (v : Value) (hv : v = .pointer none ∨ ∃ h, v = ptrV h) (x y : Int) (w : World) : CallsIn Fence.wide n Try.prog 42 #[v, .int .i64 x, .int .i64 y] w fun e w' =>
    e = .returned (.func (.func 58) #[] #[.pointer (some ⟨w.heap.size, 0, none⟩), .pointer (some ⟨w.heap.size + 1, 0, none⟩), .pointer (some ⟨w.heap.size + 2, 0, none⟩)]) ∧ w' = ((w.alloc (.cells #[v] 25)).alloc (.cells #[.int .i64 x] 3)).alloc (.cells #[.int .i64 y] 3) := by
  refine callsIn_wide.2 ?_
  rcases hv with rfl | ⟨h, rfl⟩
  · go_enter Try.func42, Try.ntmps42
    go_wp2_with fail
    go_ret
    exact ⟨rfl, rfl⟩
  · unfold ptrV
    go_enter Try.func42, Try.ntmps42
    go_wp2_with fail
    go_ret
    exact ⟨rfl, rfl⟩

theorem it_stops (B n₀ : Nat) (v : Value) (x y : Int) (mv : Value) (a : Option Addr) (n c : Nat) (xs : List Int) (hn : xs.length = n) (hnz : n ≤ 1000000) (w : World) (hB : B + 2 < w.heap.size) (h0 : w.cell? ⟨B, 0, none⟩ = some v) (h1 : w.cell? ⟨B + 1, 0, none⟩ = some (.int .i64 x)) (h2 : w.cell? ⟨B + 2, 0, none⟩ = some (.int .i64 y)) (hX : Idx w v x mv)
    (hlk : ∀ W', Below w.heap.size w W' → (Instr.lookup 119 mv (.int .i64 y) false).run Try.prog W' = .ok (.slice a n c) W') (hr : RowI w (.slice a n c) xs) (hrn : ∀ k, Value.ownBlock (.slice a n c) = some k → k < n₀) (hv : v = .pointer none ∨ ∃ h, v = ptrV h) :
    SeqStopsK Fence.wide 5 Try.prog 58 #[.pointer (some ⟨B, 0, none⟩), .pointer (some ⟨B + 1, 0, none⟩), .pointer (some ⟨B + 2, 0, none⟩)] (fun x : Int => #[Value.int .i64 x]) (Below n₀) (fun ys => ys = xs) (fun pre => pre <+: xs) xs.length w := fun l J Jx W hW hJ _ hY hJ0 => by
  refine (it_in l B n₀ v x y mv a n c xs hn hnz J Jx hY (fun W1 W2 s hb hs => hJ s W1 W2 none hs (grown_of_below hb) (fun r e => by cases e)) W (Nat.lt_of_lt_of_le hB hW.size)
    (by rw [hW.cell (p := ⟨B, 0, none⟩) (by show B < _; omega)]; exact h0) (by rw [hW.cell (p := ⟨B + 1, 0, none⟩) (by show B + 1 < _; omega)]; exact h1) (by rw [hW.cell (p := ⟨B + 2, 0, none⟩) hB]; exact h2) (hX.below hW)
    (fun W' hb => hlk W' (below_tr hW hb)) (hr.below hW) hrn hv hJ0).mono ?_
  rintro e W' ⟨h1, h2 | ⟨pre, h3, h4⟩⟩
  · exact ⟨h1, .inl ⟨xs, rfl, h2⟩⟩
  · exact ⟨h1, .inr ⟨pre, h3, h4⟩⟩

set_option maxRecDepth 100000 in
set_option maxHeartbeats 8000000 in
/-- Slots: the row's slots, in a list of its own. -/
theorem slots_in (v : Value) (x y : Int) (mv : Value) (a : Option Addr) (n c : Nat) (xs : List Int) (hn : xs.length = n) (hnz : n ≤ 1000000) (w : World) (hX : Idx w v x mv)
    (hlk : ∀ W', Below w.heap.size w W' → (Instr.lookup 119 mv (.int .i64 y) false).run Try.prog W' = .ok (.slice a n c) W') (hr : RowI w (.slice a n c) xs) (hv : v = .pointer none ∨ ∃ h, v = ptrV h) :
    CallsIn Fence.wide 6 Try.prog 27 #[v, .int .i64 x, .int .i64 y] w fun e W' => ∃ s, e = .returned s ∧ W'.ownsRow w.heap.size 3 1 s xs.length (xs.map (Value.int .i64)) ∧ Below w.heap.size w W' := by
  obtain ⟨i0, hi, hz0, hz1, hz2⟩ := info_parts info_i
  have hrl := RowF.lt hr
  refine callsIn_of_wp_marks Try.func27 rfl trivial ?_ rfl
  simp only [Try.ntmps27, List.size_toArray, List.length_cons, List.length_nil, Nat.reduceAdd, Nat.reduceSub, Array.replicate_succ, Array.replicate_zero, List.push_toArray, List.append_toArray, List.nil_append, List.cons_append]
  obtain ⟨W4, hW4⟩ : ∃ W4, (((w.alloc (.cells #[.slice none 0 0] 35)).alloc (.cells #[v] 25)).alloc (.cells #[.int .i64 x] 3)).alloc (.cells #[.int .i64 y] 3) = W4 := ⟨_, rfl⟩
  have bO : Go.Boxed W4 w.heap.size 35 (.slice none 0 0) := by rw [← hW4]; exact (((Go.Boxed.new w 35 (.slice none 0 0)).alloc _).alloc _).alloc _
  have hs1 : (w.alloc (.cells #[.slice none 0 0] 35)).heap.size = w.heap.size + 1 := by simp
  have b0 : W4.cell? ⟨w.heap.size + 1, 0, none⟩ = some v := by rw [← hW4, ← hs1]; exact (((Go.Boxed.new (w.alloc (.cells #[.slice none 0 0] 35)) 25 v).alloc _).alloc _).cell
  have hs2 : ((w.alloc (.cells #[.slice none 0 0] 35)).alloc (.cells #[v] 25)).heap.size = w.heap.size + 1 + 1 := by simp
  have b1 : W4.cell? ⟨w.heap.size + 1 + 1, 0, none⟩ = some (.int .i64 x) := by rw [← hW4, ← hs2]; exact ((Go.Boxed.new ((w.alloc (.cells #[.slice none 0 0] 35)).alloc (.cells #[v] 25)) 3 (.int .i64 x)).alloc _).cell
  have hs3 : (((w.alloc (.cells #[.slice none 0 0] 35)).alloc (.cells #[v] 25)).alloc (.cells #[.int .i64 x] 3)).heap.size = w.heap.size + 1 + 2 := by simp
  have b2 : W4.cell? ⟨w.heap.size + 1 + 2, 0, none⟩ = some (.int .i64 y) := by rw [← hW4, ← hs3]; exact (Go.Boxed.new (((w.alloc (.cells #[.slice none 0 0] 35)).alloc (.cells #[v] 25)).alloc (.cells #[.int .i64 x] 3)) 3 (.int .i64 y)).cell
  have hsz4 : W4.heap.size = w.heap.size + 4 := by rw [← hW4]; simp
  have hB0 : Below w.heap.size w W4 := by rw [← hW4]; exact ((((Below.refl _ w).alloc (Nat.le_refl _) _).alloc (by simp) _).alloc (by simp; omega) _).alloc (by simp; omega) _
  have HW4 := Lib.hid hW4
  have HB0 := Lib.hid hB0
  have HBO := Lib.hid bO
  have HST := Lib.hid (it_stops (w.heap.size + 1) w.heap.size v x y mv a n c xs hn hnz W4 (by omega) b0 b1 b2 (hX.below hB0) (fun W' hb => hlk W' (below_tr hB0 hb)) (hr.below hB0) hrl hv)
  have HSZ := Lib.hid hsz4
  have HN := Lib.hid (And.intro hn hnz)
  clear hW4 bO hs1 b0 hs2 b1 hs3 b2 hsz4 hB0 hX hlk hr hrl hn hnz
  gi_wp2_with fail
  refine ⟨trivial, (slotsOf_in _ v hv x y _).mono ?_⟩
  rintro e w' ⟨rfl, rfl⟩
  gi_wp2_with fail
  rw [HW4.out]
  try rw [World.size_alloc]
  refine wpIn_rangeFunc_ownG rfl (by decide) (gf := 58) (lb := #[.pointer (some ⟨w.heap.size + 1, 0, none⟩), .pointer (some ⟨w.heap.size + 1 + 1, 0, none⟩), .pointer (some ⟨w.heap.size + 1 + 2, 0, none⟩)]) rfl trivial (enters_of Try.func58 (by kernel_rfl) rfl)
    HST.out belowK_t (belowK_b (by have := HSZ.out; omega)) (Below.refl _ _) (fun _ => rfl)
    (fun pre W => (∃ s, Go.Boxed W w.heap.size 35 s ∧ W.ownsRow w.heap.size 3 1 s pre.length (pre.map (Value.int .i64)) ∧ True) ∧ Below w.heap.size w W)
    (fun _ _ _ => False)
    (OwnFrom.and (Own.from (holdsRow_own w.heap.size w.heap.size 35 3 1 (fun pre : List Int => pre.length) (fun pre => pre.map (Value.int .i64)) (fun pre s => True)) _) (ownFrom_below (Nat.le_refl _) (by have := HSZ.out; omega)))
    (fun _ _ _ _ _ hs _ _ => hs)
    ⟨⟨_, HBO.out, World.ownsRow_nil _ _ _ _, trivial⟩, HB0.out⟩
    (fun u => { tmps := #[v, .int .i64 x, .int .i64 y, undef, undef, undef, .slice none 0 0, .pointer (some ⟨w.heap.size, 0, none⟩), .int .i64 u, v, .int .i64 x, .int .i64 y, .func (.func 58) #[] #[.pointer (some ⟨w.heap.size + 1, 0, none⟩), .pointer (some ⟨w.heap.size + 1 + 1, 0, none⟩), .pointer (some ⟨w.heap.size + 1 + 2, 0, none⟩)], .int .i64 u, undef, undef, undef, undef, undef], defers := [] }) ?assign ?body ?done ?stop
  case assign =>
    intro l u W K hK
    gi_wp2
    exact hK
  case body =>
    rintro l pre u W ⟨⟨s, hs, hrow, -⟩, hB⟩ hlt
    have hc := hs.cell
    have hpl : pre.length < 1000000 := by have := HN.out; omega
    gi_wp2_with (gi_at_builtin; refine wpListIn_append_own _ rfl _ _ 35 rfl w.heap.size 3 i0 (.int .i64 0) 1 8 Try.underlying35 hi hz0 hz1 hz2 rfl (by decide) _ _ _ rfl (hrow.alloc _) ⟨W.heap.size, 0, none⟩ 1 1 [.int .i64 u] rfl rfl (cell_one_new _ _ _) (by simp [Value.oneCell']) (by unfold maxLen; omega) (by omega) (by have := hB.size; simp; omega) ?_; intro v' w1 hown' hgrow _; obtain ⟨g', cap', rfl⟩ := ownsRow_succ hown'; obtain ⟨hv1, hv2, hr2, hk2, hb2⟩ := hs.appended (by decide) hrow hB.size (Nat.le_refl _) hown' hgrow; have hc1 := hv1.cell; have hf1 := hv1.frozen)
    exact ⟨hk2.from _, hb2, ⟨_, hv2, by simpa using hr2, trivial⟩, hB.trans hb2⟩
  case done =>
    rintro D ys W hD rfl ⟨⟨s, hs, hrow, -⟩, hB⟩ hK
    have hc := hs.cell
    gi_wp2
    refine ⟨by simp, .inl ⟨_, _, rfl, run_takeDeferred hK, ?_⟩⟩
    exact ⟨_, results_tmp rfl _ _ _, s, rfl, ownsRow_putObj hrow _ hK rfl, hB.trans (belowK_b (w := w) (Nat.le_refl _) W D _ _ (by have := HSZ.out; omega) hK rfl rfl)⟩
  case stop =>
    rintro D c pre W _ _ h _
    exact h.elim

/-- Slots, whatever v is, if index of it is. -/
theorem slots_is (v : Value) (x y : Int) (mv : Value) (ix : Int → List Nat) (z : Nat) (hz : z ≤ 1000000) (w : World) (hy : I64 y) (hX : Idx w v x mv) (hI : IdxAt w z mv ix) (hv : v = .pointer none ∨ ∃ h, v = ptrV h) (hlen : ∀ y, (ix y).length ≤ z) :
    Calls Try.prog 27 #[v, .int .i64 x, .int .i64 y] w fun e w' => ∃ s, e = .returned s ∧ RowI w' s (natI (ix y)) ∧ (∀ k, s.ownBlock = some k → w.heap.size ≤ k) ∧ Below w.heap.size w w' := by
  obtain ⟨a, c, hlk, hr⟩ := hI.look hy
  refine ((callsIn_wide (n := 6)).1 (slots_in v x y mv a _ c (natI (ix y)) (natI_len _) (Nat.le_trans (hlen y) hz) w hX hlk hr hv)).mono ?_
  rintro e w' ⟨s, rfl, h1, h2⟩
  exact ⟨s, rfl, RowI.of_own h1, own_ge h1, h2⟩

end Go.Proofs.Ytbgnbaogclnpgaa
