/-
  HeapNames, walked.
-/
import Derived.Test.YtkedkeelbbfmkaaHSame
namespace Go.Proofs.Ytkedkeelbbfmkaa
open Go.RowKit
set_option linter.unusedVariables false

def rowA : List Val := [⟨3, 0, 0, ⟨#[97]⟩⟩, Val.zero]
def tupA : Tup := ⟨5, 9, 1, 2, 3, 4, rowA⟩
def tupB : Tup := ⟨5, 9, 1, 2, 6, -1, rowA⟩
theorem rowA_wf : ∀ v ∈ rowA, v.wf := by
  intro v hv
  unfold rowA at hv
  rcases List.mem_cons.1 hv with rfl | hv
  · refine ⟨?_, ?_, ?_, ?_, ?_⟩ <;> first | decide | (unfold I64; decide)
  · rw [List.mem_singleton.1 hv]; refine ⟨?_, ?_, ?_, ?_, ?_⟩ <;> first | decide | (unfold I64; decide)
theorem tupA_wf : tupA.wf := ⟨by unfold I64 tupA; decide, by unfold I64 tupA; decide, by unfold I64 tupA; decide, by unfold I64 tupA; decide, by unfold I64 tupA; decide, by unfold I64 tupA; decide, rowA_wf, by decide⟩
theorem tupB_wf : tupB.wf := ⟨by unfold I64 tupB; decide, by unfold I64 tupB; decide, by unfold I64 tupB; decide, by unfold I64 tupB; decide, by unfold I64 tupB; decide, by unfold I64 tupB; decide, rowA_wf, by decide⟩

def tn1 : Ab := Ab.new
def tn2 : Ab := tn1.pt (tup2 (0) (1))
def tn3 : Ab := tn2.pt (tup2 (1) (0))
def tn4 : Ab := tn3.nx (0)
def tn5 : Ab := tn4.nx (-1)
def tn6 : Ab := tn5.nx (2147483648)
def tn7 : Ab := tn6.fe (0)
def tn8 : Ab := tn7.fe (-1)
def tn9 : Ab := tn8.nx (1)
def tn10 : Ab := tn9.pt tupA
def tn11 : Ab := tn10.pt (tup2 (2) (3))
def tn12 : Ab := tn11.kl (0) (7) (8)
def tn13 : Ab := tn12.kl (0) (0) (0)
def tn14 : Ab := tn13.kl (0) (6) (-1)
def tn15 : Ab := tn14.fe (0)
def tn16 : Ab := tn15.fe (0)
def tn17 : Ab := tn16.pt (tup2 (1) (2147483648))
def tn18 : Ab := tn17.pt (tup2 (2147483648) (1))
def tn19 : Ab := tn18.nx (5)
def tn20 : Ab := tn19.nx (2)
def tn21 : Ab := tn20.pt (tup2 (4) (2147483647))
def tn22 : Ab := tn21.nx (4)
def tn23 : Ab := tn22.nx (4)

/-- A variable that is made, and gets t. -/
theorem put_new (w : World) (t : Tup) (s : Value) : Below w.heap.size w (put7 (w.alloc (.cells #[.int .i64 0, .int .i64 0, .int .i64 0, .int .i64 0, .int .i64 0, .int .i64 0, .slice none 0 0] 28)) w.heap.size t s) ∧ Lit (put7 (w.alloc (.cells #[.int .i64 0, .int .i64 0, .int .i64 0, .int .i64 0, .int .i64 0, .int .i64 0, .slice none 0 0] 28)) w.heap.size t s) w.heap.size 28 (tupC t s) := by
  have hb := Below.allocs w (.cells #[.int .i64 0, .int .i64 0, .int .i64 0, .int .i64 0, .int .i64 0, .int .i64 0, .slice none 0 0] 28)
  have hl := Lit.new w 28 [.int .i64 0, .int .i64 0, .int .i64 0, .int .i64 0, .int .i64 0, .int .i64 0, .slice none 0 0]
  exact ⟨hb.trans ((touch_put7 _ w.heap.size t s).below (fun k hk => by omega) hb.size), lit_put7 hl t s⟩

set_option maxRecDepth 100000 in
set_option maxHeartbeats 8000000 in
theorem names_law (w : World) : Calls Try.prog 3 #[] w fun e w' => e = .returned (.bool true) ∧ Below w.heap.size w w' := by
  have HB0 : Hid (Below w.heap.size w w) := Lib.hid (Below.refl _ _)
  go_enter Try.func3, Try.ntmps3
  have hcon := tuple_is (1) (1) w
  simp only [tupV, tup2] at hcon
  go_wp2_with fail
  refine (show Calls Try.prog _ _ _ _ from hcon).mono ?_
  rintro e w1 ⟨rfl, hb1⟩
  have HB1 : Hid (Below w.heap.size w w1) := Lib.hid (bel_step HB0.out hb1)
  clear hb1 HB0
  clear hcon
  have hcon := nil_put w1 (tup2 1 1) (.slice none 0 0)
  simp only [tupV, tup2] at hcon
  go_wp2_with fail
  refine (show Calls Try.prog _ _ _ _ from hcon).mono ?_
  rintro e w2 ⟨rfl, hb2⟩
  have HB2 : Hid (Below w.heap.size w w2) := Lib.hid (bel_step HB1.out hb2)
  clear hb2 HB1
  clear hcon
  have hcon := nil_at w2 0
  simp only [tupV, tup0] at hcon
  go_wp2_with fail
  refine (show Calls Try.prog _ _ _ _ from hcon).mono ?_
  rintro e w3 ⟨rfl, hb3⟩
  have HB3 : Hid (Below w.heap.size w w3) := Lib.hid (bel_step HB2.out hb3)
  clear hb3 HB2
  clear hcon
  go_upto_region 4 with (fail)
  have hal := Below.allocs w3 (.cells #[.int .i64 0, .int .i64 0, .int .i64 0, .int .i64 0, .int .i64 0, .int .i64 0, .slice none 0 0] 28)
  obtain ⟨w4, hw4⟩ : ∃ V, w3.alloc (.cells #[.int .i64 0, .int .i64 0, .int .i64 0, .int .i64 0, .int .i64 0, .int .i64 0, .slice none 0 0] 28) = V := ⟨_, rfl⟩
  rw [hw4] at hal ⊢
  have HB4 : Hid (Below w.heap.size w w4) := Lib.hid (bel_step HB3.out hal)
  clear hal hw4 HB3
  have hcon := works_is w4
  go_wp2_with fail
  refine (show Calls Try.prog _ _ _ _ from hcon).mono ?_
  rintro e w5 ⟨rfl, hb5⟩
  have HB5 : Hid (Below w.heap.size w w5) := Lib.hid (bel_step HB4.out hb5)
  clear hb5 HB4
  clear hcon
  have hcon := nil_kill w5 0 1 1
  go_wp2_with fail
  refine (show Calls Try.prog _ _ _ _ from hcon).mono ?_
  rintro e w6 ⟨rfl, hb6⟩
  have HB6 : Hid (Below w.heap.size w w6) := Lib.hid (bel_step HB5.out hb6)
  clear hb6 HB5
  clear hcon
  have hcon := nil_free w6 0
  go_wp2_with fail
  refine (show Calls Try.prog _ _ _ _ from hcon).mono ?_
  rintro e w7 ⟨rfl, hb7⟩
  have HB7 : Hid (Below w.heap.size w w7) := Lib.hid (bel_step HB6.out hb7)
  clear hb7 HB6
  clear hcon
  have hcon := nil_next w7 1
  go_wp2_with fail
  refine (show Calls Try.prog _ _ _ _ from hcon).mono ?_
  rintro e w8 ⟨rfl, hb8⟩
  have HB8 : Hid (Below w.heap.size w w8) := Lib.hid (bel_step HB7.out hb8)
  clear hb8 HB7
  clear hcon
  have hcon := nil_slots w8 1 1 (by unfold I64; omega)
  go_wp2_with fail
  refine (show Calls Try.prog _ _ _ _ from hcon).mono ?_
  rintro e w9 ⟨a9, c9, rfl, hb9⟩
  have HB9 : Hid (Below w.heap.size w w9) := Lib.hid (bel_step HB8.out hb9)
  clear hb9 HB8
  clear hcon
  have hcon := nil_ids w9 1
  go_wp2_with fail
  refine (show Calls Try.prog _ _ _ _ from hcon).mono ?_
  rintro e w10 ⟨a10, c10, rfl, hb10⟩
  have HB10 : Hid (Below w.heap.size w w10) := Lib.hid (bel_step HB9.out hb10)
  clear hb10 HB9
  clear hcon
  have hcon := nil_tables w10
  go_wp2_with fail
  refine (show Calls Try.prog _ _ _ _ from hcon).mono ?_
  rintro e w11 ⟨rfl, hb11⟩
  have HB11 : Hid (Below w.heap.size w w11) := Lib.hid (bel_step HB10.out hb11)
  clear hb11 HB10
  clear hcon
  have hcon := nil_len w11
  go_wp2_with fail
  refine (show Calls Try.prog _ _ _ _ from hcon).mono ?_
  rintro e w12 ⟨rfl, hb12⟩
  have HB12 : Hid (Below w.heap.size w w12) := Lib.hid (bel_step HB11.out hb12)
  clear hb12 HB11
  clear hcon
  have hcon := nil_copy w12
  go_wp2_with fail
  refine (show Calls Try.prog _ _ _ _ from hcon).mono ?_
  rintro e w13 ⟨rfl, hb13⟩
  have HB13 : Hid (Below w.heap.size w w13) := Lib.hid (bel_step HB12.out hb13)
  clear hb13 HB12
  clear hcon
  have hcon := one_new (X := fun _ => False) (w0 := w) HB13.out (fun _ h => h.elim)
  go_wp2_with fail
  refine (show Calls Try.prog _ _ _ _ from hcon).mono ?_
  rintro e w14 ⟨h14, rfl, H140⟩
  have H14 : Hid (One (fun _ => False) w w14 h14 tn1 0) := Lib.hid H140
  clear H140 HB13
  clear hcon
  have hcon := tuple_is (0) (1) w14
  simp only [tupV, tup2] at hcon
  go_wp2_with fail
  refine (show Calls Try.prog _ _ _ _ from hcon).mono ?_
  rintro e w15 ⟨rfl, hb15⟩
  have H15 := Lib.hid (H14.out.below hb15)
  clear hb15 H14
  clear hcon
  have hcon := one_put (A' := tn2) (r := 0) (er := 1) H15.out (tup2 (0) (1)) (.slice none 0 0) (tup2_wf (by unfold I64; omega) (by unfold I64; omega)) (RowF.nil _ _ _ _) (by omega) rfl (by decide +kernel) (by decide +kernel)
  simp only [tupV, tup2] at hcon
  go_wp2_with fail
  refine (show Calls Try.prog _ _ _ _ from hcon).mono ?_
  rintro e w16 ⟨rfl, h16, hst16⟩
  have H16 : Hid (One (fun _ => False) w w16 h14 tn2 (0 + 3)) := Lib.hid h16
  clear h16 hst16 H15
  clear hcon
  have hcon := tuple_is (1) (0) w16
  simp only [tupV, tup2] at hcon
  go_wp2_with fail
  refine (show Calls Try.prog _ _ _ _ from hcon).mono ?_
  rintro e w17 ⟨rfl, hb17⟩
  have H17 := Lib.hid (H16.out.below hb17)
  clear hb17 H16
  clear hcon
  have hcon := one_put (A' := tn3) (r := 0) (er := 1) H17.out (tup2 (1) (0)) (.slice none 0 0) (tup2_wf (by unfold I64; omega) (by unfold I64; omega)) (RowF.nil _ _ _ _) (by omega) rfl (by decide +kernel) (by decide +kernel)
  simp only [tupV, tup2] at hcon
  go_wp2_with fail
  refine (show Calls Try.prog _ _ _ _ from hcon).mono ?_
  rintro e w18 ⟨rfl, h18, hst18⟩
  have H18 : Hid (One (fun _ => False) w w18 h14 tn3 (0 + 3 + 3)) := Lib.hid h18
  clear h18 hst18 H17
  clear hcon
  have hcon := one_at (t := tup0) (b := false) H18.out (0) (by omega) (by decide +kernel) (by decide +kernel)
  simp only [tupV, tup0] at hcon
  go_wp2_with fail
  refine (show Calls Try.prog _ _ _ _ from hcon).mono ?_
  rintro e w19 ⟨sx19, rfl, hr19, ho19, h19, hb19⟩
  have H19 := Lib.hid h19
  clear h19 hr19 ho19 hb19 H18
  clear hcon
  have hcon := one_next (A' := tn4) (r := 0) H19.out (0) (by omega) rfl (by decide +kernel)
  go_wp2_with fail
  refine (show Calls Try.prog _ _ _ _ from hcon).mono ?_
  rintro e w20 ⟨rfl, h20, hst20⟩
  have H20 : Hid (One (fun _ => False) w w20 h14 tn4 (0 + 3 + 3 + 1)) := Lib.hid h20
  clear h20 hst20 H19
  clear hcon
  have hcon := one_next (A' := tn5) (r := 0) H20.out (-1) (by omega) rfl (by decide +kernel)
  go_wp2_with fail
  refine (show Calls Try.prog _ _ _ _ from hcon).mono ?_
  rintro e w21 ⟨rfl, h21, hst21⟩
  have H21 : Hid (One (fun _ => False) w w21 h14 tn5 (0 + 3 + 3 + 1 + 1)) := Lib.hid h21
  clear h21 hst21 H20
  clear hcon
  have hcon := one_next (A' := tn6) (r := 0) H21.out (2147483648) (by omega) rfl (by decide +kernel)
  go_wp2_with fail
  refine (show Calls Try.prog _ _ _ _ from hcon).mono ?_
  rintro e w22 ⟨rfl, h22, hst22⟩
  have H22 : Hid (One (fun _ => False) w w22 h14 tn6 (0 + 3 + 3 + 1 + 1 + 1)) := Lib.hid h22
  clear h22 hst22 H21
  clear hcon
  have hcon := one_free (A' := tn7) (er := 1) H22.out (0) (by omega) rfl (by decide +kernel)
  go_wp2_with fail
  refine (show Calls Try.prog _ _ _ _ from hcon).mono ?_
  rintro e w23 ⟨rfl, h23, hst23⟩
  have H23 : Hid (One (fun _ => False) w w23 h14 tn7 (0 + 3 + 3 + 1 + 1 + 1 + 2)) := Lib.hid h23
  clear h23 hst23 H22
  clear hcon
  have hcon := one_free (A' := tn8) (er := 1) H23.out (-1) (by omega) rfl (by decide +kernel)
  go_wp2_with fail
  refine (show Calls Try.prog _ _ _ _ from hcon).mono ?_
  rintro e w24 ⟨rfl, h24, hst24⟩
  have H24 : Hid (One (fun _ => False) w w24 h14 tn8 (0 + 3 + 3 + 1 + 1 + 1 + 2 + 2)) := Lib.hid h24
  clear h24 hst24 H23
  clear hcon
  have hcon := one_len (n := 0) H24.out (by omega) (by decide +kernel)
  go_wp2_with fail
  refine (show Calls Try.prog _ _ _ _ from hcon).mono ?_
  rintro e w25 ⟨rfl, h25, hb25⟩
  have H25 := Lib.hid h25
  clear h25 hb25 H24
  clear hcon
  have hcon := one_next (A' := tn9) (r := 1) H25.out (1) (by omega) rfl (by decide +kernel)
  go_wp2_with fail
  refine (show Calls Try.prog _ _ _ _ from hcon).mono ?_
  rintro e w26 ⟨rfl, h26, hst26⟩
  have H26 : Hid (One (fun _ => False) w w26 h14 tn9 (0 + 3 + 3 + 1 + 1 + 1 + 2 + 2 + 1)) := Lib.hid h26
  clear h26 hst26 H25
  clear hcon
  obtain ⟨r, hr⟩ : ∃ g, w26.heap.size = g := ⟨_, rfl⟩
  have hal := Below.allocs w26 (.cells (flatL rowA).toArray 43)
  have hrow := lit_rowV w26 rowA 2 rfl (by unfold maxLen; omega)
  obtain ⟨V1, hV1⟩ : ∃ V, w26.alloc (.cells (flatL rowA).toArray 43) = V := ⟨_, rfl⟩
  have hs1 : V1.heap.size = r + 1 := by rw [← hV1, ← hr]; simp
  rw [hV1] at hal hrow
  rw [hr] at hrow
  have hal2 := Below.allocs V1 (.cells #[.int .i64 5, .int .i64 9, .int .i64 1, .int .i64 2, .int .i64 3, .int .i64 4, .slice (some ⟨r, 0, none⟩) 2 2] 28)
  have hlit := Lit.new V1 28 [.int .i64 5, .int .i64 9, .int .i64 1, .int .i64 2, .int .i64 3, .int .i64 4, .slice (some ⟨r, 0, none⟩) 2 2]
  obtain ⟨w27, hw27⟩ : ∃ V, V1.alloc (.cells #[.int .i64 5, .int .i64 9, .int .i64 1, .int .i64 2, .int .i64 3, .int .i64 4, .slice (some ⟨r, 0, none⟩) 2 2] 28) = V := ⟨_, rfl⟩
  have hs2 : w27.heap.size = r + 2 := by rw [← hw27]; simp [hs1]
  have HLT_0 : Hid (Lit w27 (r + 1) 28 [.int .i64 5, .int .i64 9, .int .i64 1, .int .i64 2, .int .i64 3, .int .i64 4, .slice (some ⟨r, 0, none⟩) 2 2]) := Lib.hid (by rw [← hw27, ← hs1]; exact hlit)
  rw [show V1.alloc (.cells [Value.int .i64 5, .int .i64 9, .int .i64 1, .int .i64 2, .int .i64 3, .int .i64 4, .slice (some ⟨r, 0, none⟩) 2 2].toArray 28) = w27 from hw27] at hal2
  have hbw := below_tr hal hal2
  have HRT_0 : Hid (RowV w27 (.slice (some ⟨r, 0, none⟩) 2 2) rowA) := Lib.hid (hrow.below hal2)
  have H27 : Hid (One (fun k => k = r + 1 ∨ k = r) w w27 h14 tn9 (0 + 3 + 3 + 1 + 1 + 1 + 2 + 2 + 1)) := Lib.hid (H26.out.foreign hbw _ (fun k hk => ⟨.inr (by omega), by omega⟩))
  have HRW : Hid (w.heap.size ≤ r) := Lib.hid (by rw [← hr]; exact H26.out.bel.size)
  simp only [flatL, rowA, encV, Val.zero, List.flatMap_cons, List.flatMap_nil, List.cons_append, List.nil_append, List.append_nil] at hV1
  have HV1 := Lib.hid hV1
  have HW1 := Lib.hid hw27
  have HR1 := Lib.hid hr
  have HS1 := Lib.hid hs1
  clear hV1 hw27 hr hs1 hs2 hal hal2 hrow hlit hbw H26
  go_upto_region 13 with (fail)
  rw [HR1.out]
  rw [show w26.alloc _ = V1 from HV1.out]
  try rw [HS1.out]
  rw [show V1.alloc _ = w27 from HW1.out]
  clear HV1 HW1 HR1 HS1
  have k0 := HLT_0.out.cell (o := 0) rfl
  have k1 := HLT_0.out.cell (o := 1) rfl
  have k2 := HLT_0.out.cell (o := 2) rfl
  have k3 := HLT_0.out.cell (o := 3) rfl
  have k4 := HLT_0.out.cell (o := 4) rfl
  have k5 := HLT_0.out.cell (o := 5) rfl
  have k6 := HLT_0.out.cell (o := 6) rfl
  have kl := HLT_0.out.lt
  have hcon := one_puts (A' := tn10) H27.out tupA (.slice (some ⟨r, 0, none⟩) 2 2) 0 tupA_wf HRT_0.out (by omega) rfl (by decide +kernel) (by decide +kernel)
  simp only [tupV, tupA] at hcon
  go_wp2_with fail
  refine (show Calls Try.prog _ _ _ _ from hcon).mono ?_
  rintro e w28 ⟨rfl, h28, hst28⟩
  have H28 : Hid (One (fun k => k = r + 1 ∨ k = r) w w28 h14 tn10 (0 + 3 + 3 + 1 + 1 + 1 + 2 + 2 + 1 + 3)) := Lib.hid h28
  have HLT_28 := Lib.hid ((HLT_0.out).stay hst28 (Or.inl rfl))
  clear HLT_0
  have HRT_28 := Lib.hid (RowF.stay HRT_0.out hst28 (fun k hk => Or.inr (Option.some.inj hk).symm))
  clear HRT_0
  clear h28 hst28 H27
  clear hcon
  clear k0 k1 k2 k3 k4 k5 k6 kl
  have hcon := tuple_is (2) (3) w28
  simp only [tupV, tup2] at hcon
  go_wp2_with fail
  refine (show Calls Try.prog _ _ _ _ from hcon).mono ?_
  rintro e w29 ⟨rfl, hb29⟩
  have H29 := Lib.hid (H28.out.below hb29)
  have HLT_29 := Lib.hid ((HLT_28.out).below hb29)
  clear HLT_28
  have HRT_29 := Lib.hid (RowF.below HRT_28.out hb29)
  clear HRT_28
  clear hb29 H28
  clear hcon
  have hcon := one_puts (A' := tn11) H29.out (tup2 (2) (3)) (.slice none 0 0) (1) (tup2_wf (by unfold I64; omega) (by unfold I64; omega)) (RowF.nil _ _ _ _) (by omega) rfl (by decide +kernel) (by decide +kernel)
  simp only [tupV, tup2] at hcon
  go_wp2_with fail
  refine (show Calls Try.prog _ _ _ _ from hcon).mono ?_
  rintro e w30 ⟨rfl, h30, hst30⟩
  have H30 : Hid (One (fun k => k = r + 1 ∨ k = r) w w30 h14 tn11 (0 + 3 + 3 + 1 + 1 + 1 + 2 + 2 + 1 + 3 + 3)) := Lib.hid h30
  have HLT_30 := Lib.hid ((HLT_29.out).stay hst30 (Or.inl rfl))
  clear HLT_29
  have HRT_30 := Lib.hid (RowF.stay HRT_29.out hst30 (fun k hk => Or.inr (Option.some.inj hk).symm))
  clear HRT_29
  clear h30 hst30 H29
  clear hcon
  have hcon := one_kill (A' := tn12) (er := 0) H30.out (0) (7) (8) (by unfold I64; omega) (by unfold I64; omega) (by omega) rfl (by decide +kernel)
  go_wp2_with fail
  refine (show Calls Try.prog _ _ _ _ from hcon).mono ?_
  rintro e w31 ⟨rfl, h31, hst31⟩
  have H31 : Hid (One (fun k => k = r + 1 ∨ k = r) w w31 h14 tn12 (0 + 3 + 3 + 1 + 1 + 1 + 2 + 2 + 1 + 3 + 3)) := Lib.hid h31
  have HLT_31 := Lib.hid ((HLT_30.out).stay hst31 (Or.inl rfl))
  clear HLT_30
  have HRT_31 := Lib.hid (RowF.stay HRT_30.out hst31 (fun k hk => Or.inr (Option.some.inj hk).symm))
  clear HRT_30
  clear h31 hst31 H30
  clear hcon
  have hcon := one_kill (A' := tn13) (er := 0) H31.out (0) (0) (0) (by unfold I64; omega) (by unfold I64; omega) (by omega) rfl (by decide +kernel)
  go_wp2_with fail
  refine (show Calls Try.prog _ _ _ _ from hcon).mono ?_
  rintro e w32 ⟨rfl, h32, hst32⟩
  have H32 : Hid (One (fun k => k = r + 1 ∨ k = r) w w32 h14 tn13 (0 + 3 + 3 + 1 + 1 + 1 + 2 + 2 + 1 + 3 + 3)) := Lib.hid h32
  have HLT_32 := Lib.hid ((HLT_31.out).stay hst32 (Or.inl rfl))
  clear HLT_31
  have HRT_32 := Lib.hid (RowF.stay HRT_31.out hst32 (fun k hk => Or.inr (Option.some.inj hk).symm))
  clear HRT_31
  clear h32 hst32 H31
  clear hcon
  have hcon := one_kill (A' := tn14) (er := 0) H32.out (0) (6) (-1) (by unfold I64; omega) (by unfold I64; omega) (by omega) rfl (by decide +kernel)
  go_wp2_with fail
  refine (show Calls Try.prog _ _ _ _ from hcon).mono ?_
  rintro e w33 ⟨rfl, h33, hst33⟩
  have H33 : Hid (One (fun k => k = r + 1 ∨ k = r) w w33 h14 tn14 (0 + 3 + 3 + 1 + 1 + 1 + 2 + 2 + 1 + 3 + 3)) := Lib.hid h33
  have HLT_33 := Lib.hid ((HLT_32.out).stay hst33 (Or.inl rfl))
  clear HLT_32
  have HRT_33 := Lib.hid (RowF.stay HRT_32.out hst33 (fun k hk => Or.inr (Option.some.inj hk).symm))
  clear HRT_32
  clear h33 hst33 H32
  clear hcon
  have k0 := HLT_33.out.cell (o := 0) rfl
  have k1 := HLT_33.out.cell (o := 1) rfl
  have k2 := HLT_33.out.cell (o := 2) rfl
  have k3 := HLT_33.out.cell (o := 3) rfl
  have k4 := HLT_33.out.cell (o := 4) rfl
  have k5 := HLT_33.out.cell (o := 5) rfl
  have k6 := HLT_33.out.cell (o := 6) rfl
  have kl := HLT_33.out.lt
  have f4 := HLT_33.out.fz 4
  have f5 := HLT_33.out.fz 5
  go_upto_region 16 with (fail)
  obtain ⟨w34, hw34⟩ : ∃ V, (w33.setCell ⟨r + 1, 4, none⟩ (.int .i64 6)).setCell ⟨r + 1, 5, none⟩ (.int .i64 (-1)) = V := ⟨_, rfl⟩
  rw [hw34]
  have ht : Touch (fun k => k = r + 1) w33 w34 := by rw [← hw34]; exact (Touch.setCell _ (F := fun k => k = r + 1) rfl _ _).trans (Touch.setCell _ (F := fun k => k = r + 1) rfl _ _) (fun _ _ h => h)
  have H34 := Lib.hid (H33.out.wrote ht (fun k hk => ⟨.inl hk, by have := HRW.out; omega⟩))
  have HLT_34 : Hid (Lit w34 (r + 1) 28 [.int .i64 5, .int .i64 9, .int .i64 1, .int .i64 2, .int .i64 6, .int .i64 (-1), .slice (some ⟨r, 0, none⟩) 2 2]) := Lib.hid (by rw [← hw34]; exact (HLT_33.out.set 4 _).set 5 _)
  have HRT_34 : Hid (RowV w34 (.slice (some ⟨r, 0, none⟩) 2 2) rowA) := Lib.hid (RowF.stay HRT_33.out (ht.stay (G := fun k => k ≠ r + 1) (fun k hk e => hk e)) (fun k hk => by have := Option.some.inj hk; have h9 : r = k := this; omega))
  clear hw34 ht f4 f5 H33 HLT_33 HRT_33
  clear k0 k1 k2 k3 k4 k5 k6 kl
  have hcon := one_at (t := tupB) (b := true) H34.out 0 (by omega) (by decide +kernel) (by decide +kernel)
  simp only [tupV, tupB, rowA] at hcon
  go_wp2_with fail
  refine (show Calls Try.prog _ _ _ _ from hcon).mono ?_
  rintro e w35 ⟨sx, rfl, hrx, hox, h35, hb35⟩
  obtain ⟨ax, cx, rfl, -, -⟩ := hrx.form
  have H35 := Lib.hid h35
  have HLT_35 := Lib.hid ((HLT_34.out).below hb35)
  clear HLT_34
  have HRT_35 := Lib.hid (RowF.below HRT_34.out hb35)
  clear HRT_34
  have HRX := Lib.hid hrx
  clear h35 hrx hox hb35 H34
  clear hcon
  go_upto_region 17 with (fail)
  obtain ⟨gx, hgx⟩ : ∃ g, w35.heap.size = g := ⟨_, rfl⟩
  have hal := Below.allocs w35 (.cells #[.int .i64 5, .int .i64 9, .int .i64 1, .int .i64 2, .int .i64 6, .int .i64 (-1), .slice ax 2 cx] 28)
  have hlx := Lit.new w35 28 [.int .i64 5, .int .i64 9, .int .i64 1, .int .i64 2, .int .i64 6, .int .i64 (-1), .slice ax 2 cx]
  obtain ⟨w36, hw36⟩ : ∃ V, w35.alloc (.cells #[.int .i64 5, .int .i64 9, .int .i64 1, .int .i64 2, .int .i64 6, .int .i64 (-1), .slice ax 2 cx] 28) = V := ⟨_, rfl⟩
  rw [hw36] at hal
  rw [show w35.alloc _ = w36 from hw36] at hlx
  rw [hgx] at hlx
  rw [hw36]
  try rw [hgx]
  have H36 := Lib.hid (H35.out.below hal)
  have HLT_36 := Lib.hid ((HLT_35.out).below hal)
  clear HLT_35
  have HRT_36 := Lib.hid (RowF.below HRT_35.out hal)
  clear HRT_35
  have HRX2 := Lib.hid (RowF.below HRX.out hal)
  have HLX := Lib.hid hlx
  clear hal hw36 hgx hlx HRX H35
  have k0 := HLT_36.out.cell (o := 0) rfl
  have k1 := HLT_36.out.cell (o := 1) rfl
  have k2 := HLT_36.out.cell (o := 2) rfl
  have k3 := HLT_36.out.cell (o := 3) rfl
  have k4 := HLT_36.out.cell (o := 4) rfl
  have k5 := HLT_36.out.cell (o := 5) rfl
  have k6 := HLT_36.out.cell (o := 6) rfl
  have kl := HLT_36.out.lt
  have m0 := HLX.out.cell (o := 0) rfl
  have m1 := HLX.out.cell (o := 1) rfl
  have m2 := HLX.out.cell (o := 2) rfl
  have m3 := HLX.out.cell (o := 3) rfl
  have m4 := HLX.out.cell (o := 4) rfl
  have m5 := HLX.out.cell (o := 5) rfl
  have m6 := HLX.out.cell (o := 6) rfl
  have ml := HLX.out.lt
  have hcon := hsame_is w36 tupB (.slice ax 2 cx) (.slice (some ⟨r, 0, none⟩) 2 2) tupB_wf.row HRX2.out HRT_36.out
  simp only [tupV, tupB, rowA] at hcon
  go_wp2_with fail
  refine (show Calls Try.prog _ _ _ _ from hcon).mono ?_
  rintro e w37 ⟨rfl, hb37⟩
  have H37 := Lib.hid (H36.out.below hb37)
  clear hb37 HRX2 HLX HLT_36 HRT_36 H36 m0 m1 m2 m3 m4 m5 m6 ml
  clear hcon
  clear k0 k1 k2 k3 k4 k5 k6 kl
  have hcon := one_tables_eq (l := [2, 5]) H37.out (by omega) (isTabs_of (by decide +kernel))
  go_wp2_with fail
  refine (show Calls Try.prog _ _ _ _ from hcon).mono ?_
  rintro e w38 ⟨sb, rfl, hr38, ho38, h38, hb38⟩
  have H38 := Lib.hid h38
  have HRb := Lib.hid hr38
  clear h38 hr38 ho38 hb38 H37
  clear hcon
  have hal := Below.allocs w38 (.cells (([2, 5] : List Int).map (Value.int .i64)).toArray 3)
  have hlit := lit_rowI w38 [2, 5] 2 rfl (by unfold maxLen; omega)
  have hcon := ints_is _ _ [2, 5] [2, 5] true (by decide) _ (RowF.below HRb.out hal) hlit
  simp only [List.map_cons, List.map_nil] at hcon
  go_wp2_with fail
  refine (show Calls Try.prog _ _ _ _ from hcon).mono ?_
  rintro e w39 ⟨rfl, hb39⟩
  have H39 := Lib.hid ((H38.out.below hal).below hb39)
  clear hb39 hal hlit hcon HRb H38
  have hcon := one_ids_eq (l := [9]) H39.out (5) (by unfold I64; omega) (by omega) (isIDs_of (by decide +kernel))
  go_wp2_with fail
  refine (show Calls Try.prog _ _ _ _ from hcon).mono ?_
  rintro e w40 ⟨sc, rfl, hr40, ho40, h40, hb40⟩
  have H40 := Lib.hid h40
  have HRc := Lib.hid hr40
  clear h40 hr40 ho40 hb40 H39
  clear hcon
  have hal := Below.allocs w40 (.cells (([9] : List Int).map (Value.int .i64)).toArray 3)
  have hlit := lit_rowI w40 [9] 1 rfl (by unfold maxLen; omega)
  have hcon := ints_is _ _ [9] [9] true (by decide) _ (RowF.below HRc.out hal) hlit
  simp only [List.map_cons, List.map_nil] at hcon
  go_wp2_with fail
  refine (show Calls Try.prog _ _ _ _ from hcon).mono ?_
  rintro e w41 ⟨rfl, hb41⟩
  have H41 := Lib.hid ((H40.out.below hal).below hb41)
  clear hb41 hal hlit hcon HRc H40
  have hcon := one_ids_eq (l := []) H41.out 1 (by unfold I64; omega) (by omega) (isIDs_of (by decide +kernel))
  go_wp2_with fail
  refine (show Calls Try.prog _ _ _ _ from hcon).mono ?_
  rintro e w42 ⟨sd, rfl, hrd, hod, h42, hb42⟩
  obtain ⟨ad, cd, rfl, -, -⟩ := hrd.form
  simp only [List.length_nil]
  have H42 := Lib.hid h42
  clear h42 hrd hod hb42 H41
  clear hcon
  have hcon := one_free (A' := tn15) (er := 0) H42.out (0) (by omega) rfl (by decide +kernel)
  go_wp2_with fail
  refine (show Calls Try.prog _ _ _ _ from hcon).mono ?_
  rintro e w43 ⟨rfl, h43, hst43⟩
  have H43 : Hid (One (fun k => k = r + 1 ∨ k = r) w w43 h14 tn15 (0 + 3 + 3 + 1 + 1 + 1 + 2 + 2 + 1 + 3 + 3 + 2)) := Lib.hid h43
  clear h43 hst43 H42
  clear hcon
  have hcon := one_free (A' := tn16) (er := 1) H43.out (0) (by omega) rfl (by decide +kernel)
  go_wp2_with fail
  refine (show Calls Try.prog _ _ _ _ from hcon).mono ?_
  rintro e w44 ⟨rfl, h44, hst44⟩
  have H44 : Hid (One (fun k => k = r + 1 ∨ k = r) w w44 h14 tn16 (0 + 3 + 3 + 1 + 1 + 1 + 2 + 2 + 1 + 3 + 3 + 2 + 2)) := Lib.hid h44
  clear h44 hst44 H43
  clear hcon
  have hcon := one_tables_eq (l := [2]) H44.out (by omega) (isTabs_of (by decide +kernel))
  go_wp2_with fail
  refine (show Calls Try.prog _ _ _ _ from hcon).mono ?_
  rintro e w45 ⟨se, rfl, hr45, ho45, h45, hb45⟩
  have H45 := Lib.hid h45
  have HRe := Lib.hid hr45
  clear h45 hr45 ho45 hb45 H44
  clear hcon
  have hal := Below.allocs w45 (.cells (([2] : List Int).map (Value.int .i64)).toArray 3)
  have hlit := lit_rowI w45 [2] 1 rfl (by unfold maxLen; omega)
  have hcon := ints_is _ _ [2] [2] true (by decide) _ (RowF.below HRe.out hal) hlit
  simp only [List.map_cons, List.map_nil] at hcon
  go_wp2_with fail
  refine (show Calls Try.prog _ _ _ _ from hcon).mono ?_
  rintro e w46 ⟨rfl, hb46⟩
  have H46 := Lib.hid ((H45.out.below hal).below hb46)
  clear hb46 hal hlit hcon HRe H45
  have hcon := tuple_is (1) (2147483648) w46
  simp only [tupV, tup2] at hcon
  go_wp2_with fail
  refine (show Calls Try.prog _ _ _ _ from hcon).mono ?_
  rintro e w47 ⟨rfl, hb47⟩
  have H47 := Lib.hid (H46.out.below hb47)
  clear hb47 H46
  clear hcon
  have hcon := one_put (A' := tn17) (r := 0) (er := 1) H47.out (tup2 (1) (2147483648)) (.slice none 0 0) (tup2_wf (by unfold I64; omega) (by unfold I64; omega)) (RowF.nil _ _ _ _) (by omega) rfl (by decide +kernel) (by decide +kernel)
  simp only [tupV, tup2] at hcon
  go_wp2_with fail
  refine (show Calls Try.prog _ _ _ _ from hcon).mono ?_
  rintro e w48 ⟨rfl, h48, hst48⟩
  have H48 : Hid (One (fun k => k = r + 1 ∨ k = r) w w48 h14 tn17 (0 + 3 + 3 + 1 + 1 + 1 + 2 + 2 + 1 + 3 + 3 + 2 + 2 + 3)) := Lib.hid h48
  clear h48 hst48 H47
  clear hcon
  have hcon := tuple_is (2147483648) (1) w48
  simp only [tupV, tup2] at hcon
  go_wp2_with fail
  refine (show Calls Try.prog _ _ _ _ from hcon).mono ?_
  rintro e w49 ⟨rfl, hb49⟩
  have H49 := Lib.hid (H48.out.below hb49)
  clear hb49 H48
  clear hcon
  have hcon := one_put (A' := tn18) (r := 0) (er := 1) H49.out (tup2 (2147483648) (1)) (.slice none 0 0) (tup2_wf (by unfold I64; omega) (by unfold I64; omega)) (RowF.nil _ _ _ _) (by omega) rfl (by decide +kernel) (by decide +kernel)
  simp only [tupV, tup2] at hcon
  go_wp2_with fail
  refine (show Calls Try.prog _ _ _ _ from hcon).mono ?_
  rintro e w50 ⟨rfl, h50, hst50⟩
  have H50 : Hid (One (fun k => k = r + 1 ∨ k = r) w w50 h14 tn18 (0 + 3 + 3 + 1 + 1 + 1 + 2 + 2 + 1 + 3 + 3 + 2 + 2 + 3 + 3)) := Lib.hid h50
  clear h50 hst50 H49
  clear hcon
  have hcon := one_next (A' := tn19) (r := 10) H50.out (5) (by omega) rfl (by decide +kernel)
  go_wp2_with fail
  refine (show Calls Try.prog _ _ _ _ from hcon).mono ?_
  rintro e w51 ⟨rfl, h51, hst51⟩
  have H51 : Hid (One (fun k => k = r + 1 ∨ k = r) w w51 h14 tn19 (0 + 3 + 3 + 1 + 1 + 1 + 2 + 2 + 1 + 3 + 3 + 2 + 2 + 3 + 3 + 1)) := Lib.hid h51
  clear h51 hst51 H50
  clear hcon
  have hcon := one_next (A' := tn20) (r := 4) H51.out (2) (by omega) rfl (by decide +kernel)
  go_wp2_with fail
  refine (show Calls Try.prog _ _ _ _ from hcon).mono ?_
  rintro e w52 ⟨rfl, h52, hst52⟩
  have H52 : Hid (One (fun k => k = r + 1 ∨ k = r) w w52 h14 tn20 (0 + 3 + 3 + 1 + 1 + 1 + 2 + 2 + 1 + 3 + 3 + 2 + 2 + 3 + 3 + 1 + 1)) := Lib.hid h52
  clear h52 hst52 H51
  clear hcon
  have hcon := one_len (n := 1) H52.out (by omega) (by decide +kernel)
  go_wp2_with fail
  refine (show Calls Try.prog _ _ _ _ from hcon).mono ?_
  rintro e w53 ⟨rfl, h53, hb53⟩
  have H53 := Lib.hid h53
  clear h53 hb53 H52
  clear hcon
  have hcon := tuple_is (4) (2147483647) w53
  simp only [tupV, tup2] at hcon
  go_wp2_with fail
  refine (show Calls Try.prog _ _ _ _ from hcon).mono ?_
  rintro e w54 ⟨rfl, hb54⟩
  have H54 := Lib.hid (H53.out.below hb54)
  clear hb54 H53
  clear hcon
  have hcon := one_puts (A' := tn21) H54.out (tup2 (4) (2147483647)) (.slice none 0 0) (0) (tup2_wf (by unfold I64; omega) (by unfold I64; omega)) (RowF.nil _ _ _ _) (by omega) rfl (by decide +kernel) (by decide +kernel)
  simp only [tupV, tup2] at hcon
  go_wp2_with fail
  refine (show Calls Try.prog _ _ _ _ from hcon).mono ?_
  rintro e w55 ⟨rfl, h55, hst55⟩
  have H55 : Hid (One (fun k => k = r + 1 ∨ k = r) w w55 h14 tn21 (0 + 3 + 3 + 1 + 1 + 1 + 2 + 2 + 1 + 3 + 3 + 2 + 2 + 3 + 3 + 1 + 1 + 3)) := Lib.hid h55
  clear h55 hst55 H54
  clear hcon
  have hcon := one_next (A' := tn22) (r := 0) H55.out (4) (by omega) rfl (by decide +kernel)
  go_wp2_with fail
  refine (show Calls Try.prog _ _ _ _ from hcon).mono ?_
  rintro e w56 ⟨rfl, h56, hst56⟩
  have H56 : Hid (One (fun k => k = r + 1 ∨ k = r) w w56 h14 tn22 (0 + 3 + 3 + 1 + 1 + 1 + 2 + 2 + 1 + 3 + 3 + 2 + 2 + 3 + 3 + 1 + 1 + 3 + 1)) := Lib.hid h56
  clear h56 hst56 H55
  clear hcon
  have hcon := one_next (A' := tn23) (r := 0) H56.out (4) (by omega) rfl (by decide +kernel)
  go_wp2_with fail
  refine (show Calls Try.prog _ _ _ _ from hcon).mono ?_
  rintro e w57 ⟨rfl, h57, hst57⟩
  have H57 : Hid (One (fun k => k = r + 1 ∨ k = r) w w57 h14 tn23 (0 + 3 + 3 + 1 + 1 + 1 + 2 + 2 + 1 + 3 + 3 + 2 + 2 + 3 + 3 + 1 + 1 + 3 + 1 + 1)) := Lib.hid h57
  clear h57 hst57 H56
  clear hcon
  go_wp2_with fail
  go_ret
  exact ⟨rfl, H57.out.bel⟩

end Go.Proofs.Ytkedkeelbbfmkaa
