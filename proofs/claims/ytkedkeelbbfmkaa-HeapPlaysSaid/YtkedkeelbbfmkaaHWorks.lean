/-
  works: the examples of stage 11, walked.
-/
import Derived.Test.YtkedkeelbbfmkaaHLaw
namespace Go.Proofs.Ytkedkeelbbfmkaa
open Go.RowKit
set_option linter.unusedVariables false

def ta1 : Ab := Ab.new
def ta2 : Ab := ta1.nx (1)
def ta3 : Ab := ta2.nx (1)
def ta4 : Ab := ta3.nx (2)
def ta5 : Ab := ta4.pt (tup2 (1) (2))
def ta6 : Ab := ta5.pt (tup2 (1) (2))
def ta7 : Ab := ta6.fe (0)
def ta8 : Ab := ta7.pt (tup2 (1) (2))
def ta9 : Ab := ta8.pt (tup2 (1) (7))
def ta10 : Ab := ta9.nx (1)
def ta11 : Ab := ta10.kl (5) (1) (1)

set_option maxRecDepth 100000 in
set_option maxHeartbeats 4000000 in
theorem works_is (w : World) : Calls Try.prog 13 #[] w fun e w' => e = .returned (.bool true) ∧ Below w.heap.size w w' := by
  have HB0 : Hid (Below w.heap.size w w) := Lib.hid (Below.refl _ _)
  go_enter Try.func13, Try.ntmps13
  have hcon := one_new (X := fun _ => False) (w0 := w) HB0.out (fun _ h => h.elim)
  go_wp2_with fail
  refine (show Calls Try.prog _ _ _ _ from hcon).mono ?_
  rintro e w1 ⟨h1, rfl, H10⟩
  have H1 : Hid (One (fun _ => False) w w1 h1 ta1 0) := Lib.hid H10
  clear H10 HB0
  clear hcon
  have hcon := one_next (A' := ta2) (r := 1) H1.out (1) (by omega) rfl (by decide +kernel)
  go_wp2_with fail
  refine (show Calls Try.prog _ _ _ _ from hcon).mono ?_
  rintro e w2 ⟨rfl, h2, hst2⟩
  have H2 : Hid (One (fun _ => False) w w2 h1 ta2 (0 + 1)) := Lib.hid h2
  clear h2 hst2 H1
  clear hcon
  have hcon := one_next (A' := ta3) (r := 2) H2.out (1) (by omega) rfl (by decide +kernel)
  go_wp2_with fail
  refine (show Calls Try.prog _ _ _ _ from hcon).mono ?_
  rintro e w3 ⟨rfl, h3, hst3⟩
  have H3 : Hid (One (fun _ => False) w w3 h1 ta3 (0 + 1 + 1)) := Lib.hid h3
  clear h3 hst3 H2
  clear hcon
  have hcon := one_next (A' := ta4) (r := 1) H3.out (2) (by omega) rfl (by decide +kernel)
  go_wp2_with fail
  refine (show Calls Try.prog _ _ _ _ from hcon).mono ?_
  rintro e w4 ⟨rfl, h4, hst4⟩
  have H4 : Hid (One (fun _ => False) w w4 h1 ta4 (0 + 1 + 1 + 1)) := Lib.hid h4
  clear h4 hst4 H3
  clear hcon
  have hcon := tuple_is (1) (2) w4
  simp only [tupV, tup2] at hcon
  go_wp2_with fail
  refine (show Calls Try.prog _ _ _ _ from hcon).mono ?_
  rintro e w5 ⟨rfl, hb5⟩
  have H5 := Lib.hid (H4.out.below hb5)
  clear hb5 H4
  clear hcon
  have hcon := one_puts (A' := ta5) H5.out (tup2 (1) (2)) (.slice none 0 0) (0) (tup2_wf (by unfold I64; omega) (by unfold I64; omega)) (RowF.nil _ _ _ _) (by omega) rfl (by decide +kernel) (by decide +kernel)
  simp only [tupV, tup2] at hcon
  go_wp2_with fail
  refine (show Calls Try.prog _ _ _ _ from hcon).mono ?_
  rintro e w6 ⟨rfl, h6, hst6⟩
  have H6 : Hid (One (fun _ => False) w w6 h1 ta5 (0 + 1 + 1 + 1 + 3)) := Lib.hid h6
  clear h6 hst6 H5
  clear hcon
  have hcon := tuple_is (1) (2) w6
  simp only [tupV, tup2] at hcon
  go_wp2_with fail
  refine (show Calls Try.prog _ _ _ _ from hcon).mono ?_
  rintro e w7 ⟨rfl, hb7⟩
  have H7 := Lib.hid (H6.out.below hb7)
  clear hb7 H6
  clear hcon
  have hcon := one_puts (A' := ta6) H7.out (tup2 (1) (2)) (.slice none 0 0) (1) (tup2_wf (by unfold I64; omega) (by unfold I64; omega)) (RowF.nil _ _ _ _) (by omega) rfl (by decide +kernel) (by decide +kernel)
  simp only [tupV, tup2] at hcon
  go_wp2_with fail
  refine (show Calls Try.prog _ _ _ _ from hcon).mono ?_
  rintro e w8 ⟨rfl, h8, hst8⟩
  have H8 : Hid (One (fun _ => False) w w8 h1 ta6 (0 + 1 + 1 + 1 + 3 + 3)) := Lib.hid h8
  clear h8 hst8 H7
  clear hcon
  have hcon := one_free (A' := ta7) (er := 0) H8.out (0) (by omega) rfl (by decide +kernel)
  go_wp2_with fail
  refine (show Calls Try.prog _ _ _ _ from hcon).mono ?_
  rintro e w9 ⟨rfl, h9, hst9⟩
  have H9 : Hid (One (fun _ => False) w w9 h1 ta7 (0 + 1 + 1 + 1 + 3 + 3 + 2)) := Lib.hid h9
  clear h9 hst9 H8
  clear hcon
  have hcon := tuple_is (1) (2) w9
  simp only [tupV, tup2] at hcon
  go_wp2_with fail
  refine (show Calls Try.prog _ _ _ _ from hcon).mono ?_
  rintro e w10 ⟨rfl, hb10⟩
  have H10 := Lib.hid (H9.out.below hb10)
  clear hb10 H9
  clear hcon
  have hcon := one_puts (A' := ta8) H10.out (tup2 (1) (2)) (.slice none 0 0) (0) (tup2_wf (by unfold I64; omega) (by unfold I64; omega)) (RowF.nil _ _ _ _) (by omega) rfl (by decide +kernel) (by decide +kernel)
  simp only [tupV, tup2] at hcon
  go_wp2_with fail
  refine (show Calls Try.prog _ _ _ _ from hcon).mono ?_
  rintro e w11 ⟨rfl, h11, hst11⟩
  have H11 : Hid (One (fun _ => False) w w11 h1 ta8 (0 + 1 + 1 + 1 + 3 + 3 + 2 + 3)) := Lib.hid h11
  clear h11 hst11 H10
  clear hcon
  have hcon := one_slots (l := [1, 0]) H11.out (1) (2) (by unfold I64; omega) (by unfold I64; omega) (by omega) (by decide +kernel)
  go_wp2_with fail
  refine (show Calls Try.prog _ _ _ _ from hcon).mono ?_
  rintro e w12 ⟨sa, rfl, hr12, ho12, h12, hb12⟩
  have H12 := Lib.hid h12
  have HRa := Lib.hid hr12
  clear h12 hr12 ho12 hb12 H11
  clear hcon
  have hal := Below.allocs w12 (.cells (([1, 0] : List Int).map (Value.int .i64)).toArray 3)
  have hlit := lit_rowI w12 [1, 0] 2 rfl (by unfold maxLen; omega)
  have hcon := ints_is _ _ [1, 0] [1, 0] true (by decide) _ (RowF.below HRa.out hal) hlit
  simp only [List.map_cons, List.map_nil] at hcon
  go_wp2_with fail
  refine (show Calls Try.prog _ _ _ _ from hcon).mono ?_
  rintro e w13 ⟨rfl, hb13⟩
  have H13 := Lib.hid ((H12.out.below hal).below hb13)
  clear hb13 hal hlit hcon HRa H12
  have hcon := tuple_is (1) (7) w13
  simp only [tupV, tup2] at hcon
  go_wp2_with fail
  refine (show Calls Try.prog _ _ _ _ from hcon).mono ?_
  rintro e w14 ⟨rfl, hb14⟩
  have H14 := Lib.hid (H13.out.below hb14)
  clear hb14 H13
  clear hcon
  have hcon := one_puts (A' := ta9) H14.out (tup2 (1) (7)) (.slice none 0 0) (2) (tup2_wf (by unfold I64; omega) (by unfold I64; omega)) (RowF.nil _ _ _ _) (by omega) rfl (by decide +kernel) (by decide +kernel)
  simp only [tupV, tup2] at hcon
  go_wp2_with fail
  refine (show Calls Try.prog _ _ _ _ from hcon).mono ?_
  rintro e w15 ⟨rfl, h15, hst15⟩
  have H15 : Hid (One (fun _ => False) w w15 h1 ta9 (0 + 1 + 1 + 1 + 3 + 3 + 2 + 3 + 3)) := Lib.hid h15
  clear h15 hst15 H14
  clear hcon
  have hcon := one_next (A' := ta10) (r := 8) H15.out (1) (by omega) rfl (by decide +kernel)
  go_wp2_with fail
  refine (show Calls Try.prog _ _ _ _ from hcon).mono ?_
  rintro e w16 ⟨rfl, h16, hst16⟩
  have H16 : Hid (One (fun _ => False) w w16 h1 ta10 (0 + 1 + 1 + 1 + 3 + 3 + 2 + 3 + 3 + 1)) := Lib.hid h16
  clear h16 hst16 H15
  clear hcon
  have hcon := one_kill (A' := ta11) (er := 1) H16.out (5) (1) (1) (by unfold I64; omega) (by unfold I64; omega) (by omega) rfl (by decide +kernel)
  go_wp2_with fail
  refine (show Calls Try.prog _ _ _ _ from hcon).mono ?_
  rintro e w17 ⟨rfl, h17, hst17⟩
  have H17 : Hid (One (fun _ => False) w w17 h1 ta11 (0 + 1 + 1 + 1 + 3 + 3 + 2 + 3 + 3 + 1)) := Lib.hid h17
  clear h17 hst17 H16
  clear hcon
  have hcon := one_len (n := 3) H17.out (by omega) (by decide +kernel)
  go_wp2_with fail
  refine (show Calls Try.prog _ _ _ _ from hcon).mono ?_
  rintro e w18 ⟨rfl, h18, hb18⟩
  have H18 := Lib.hid h18
  clear h18 hb18 H17
  clear hcon
  go_wp2_with fail
  go_ret
  exact ⟨rfl, H18.out.bel⟩

end Go.Proofs.Ytkedkeelbbfmkaa
