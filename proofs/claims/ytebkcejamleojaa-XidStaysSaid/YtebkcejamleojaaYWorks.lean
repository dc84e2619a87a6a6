/-
  works: what each law of stage 9 asks first.
-/
import Derived.Test.YtebkcejamleojaaYLaw
namespace Go.Proofs.Ytebkcejamleojaa
open Go.RowKit
set_option linter.unusedVariables false

def tw0 : Tb := Tb.new
def tw1 : Tb := tw0.begT 0
def tw2 : Tb := tw1.begT 1
def tw3 : Tb := tw2.begT 2
def tw4 : Tb := tw3.comT 3
def tw5 : Tb := tw4.aboT 2
def tw6 : Tb := tw5.comT 1
def tw7 : Tb := tw6.begT 0
def tw8 : Tb := tw7.comT 4

set_option maxRecDepth 100000 in
set_option maxHeartbeats 4000000 in
theorem works_is (w : World) : Calls Try.prog 11 #[] w fun e w' => e = .returned (.bool true) ∧ Below w.heap.size w w' := by
  have HB0 : Hid (Below w.heap.size w w) := Lib.hid (Below.refl _ _)
  go_enter Try.func11, Try.ntmps11
  have hcon := one_new (w0 := w) HB0.out
  go_wp2_with fail
  refine (show Calls Try.prog _ _ _ _ from hcon).mono ?_
  rintro e w1 ⟨t, F0, rfl, h1, -, -⟩
  have H1 := Lib.hid h1
  clear hcon h1 HB0
  change Hid (One w w1 t tw0 F0) at H1
  have hcon := one_begin (T' := tw1) H1.out (by decide +kernel) 0 1 0 (by unfold I64; omega) (by decide +kernel) (by decide +kernel) rfl
  go_wp2_with fail
  refine (show Calls Try.prog _ _ _ _ from hcon).mono ?_
  rintro e w2 ⟨F2, rfl, h2, -, -⟩
  have H2 := Lib.hid h2
  clear hcon h2 H1
  have hcon := one_begin (T' := tw2) H2.out (by decide +kernel) 1 2 0 (by unfold I64; omega) (by decide +kernel) (by decide +kernel) rfl
  go_wp2_with fail
  refine (show Calls Try.prog _ _ _ _ from hcon).mono ?_
  rintro e w3 ⟨F3, rfl, h3, -, -⟩
  have H3 := Lib.hid h3
  clear hcon h3 H2
  have hcon := one_begin (T' := tw3) H3.out (by decide +kernel) 2 3 0 (by unfold I64; omega) (by decide +kernel) (by decide +kernel) rfl
  go_wp2_with fail
  refine (show Calls Try.prog _ _ _ _ from hcon).mono ?_
  rintro e w4 ⟨F4, rfl, h4, -, -⟩
  have H4 := Lib.hid h4
  clear hcon h4 H3
  have hcon := one_commit (T' := tw4) H4.out (by decide +kernel) (by decide +kernel) 3 0 (by unfold I64; omega) (by decide +kernel) rfl
  go_wp2_with fail
  refine (show Calls Try.prog _ _ _ _ from hcon).mono ?_
  rintro e w5 ⟨F5, rfl, h5, -, -⟩
  have H5 := Lib.hid h5
  clear hcon h5 H4
  have hcon := one_abort (T' := tw5) H5.out (by decide +kernel) 2 0 (by unfold I64; omega) (by decide +kernel) rfl
  go_wp2_with fail
  refine (show Calls Try.prog _ _ _ _ from hcon).mono ?_
  rintro e w6 ⟨F6, rfl, h6, -, -⟩
  have H6 := Lib.hid h6
  clear hcon h6 H5
  have hcon := one_state H6.out 2 3 (by unfold I64; omega) (by decide +kernel)
  go_wp2_with fail
  refine (show Calls Try.prog _ _ _ _ from hcon).mono ?_
  rintro e w7 ⟨rfl, hb7⟩
  have H7 := Lib.hid (H6.out.below hb7)
  clear hcon hb7 H6
  have hcon := one_state H7.out 3 3 (by unfold I64; omega) (by decide +kernel)
  go_wp2_with fail
  refine (show Calls Try.prog _ _ _ _ from hcon).mono ?_
  rintro e w8 ⟨rfl, hb8⟩
  have H8 := Lib.hid (H7.out.below hb8)
  clear hcon hb8 H7
  have hcon := one_begin (T' := tw5) H8.out (by decide +kernel) 2 0 7 (by unfold I64; omega) (by decide +kernel) (by decide +kernel) (if_neg (by decide +kernel))
  go_wp2_with fail
  refine (show Calls Try.prog _ _ _ _ from hcon).mono ?_
  rintro e w9 ⟨F9, rfl, h9, -, -⟩
  have H9 := Lib.hid h9
  clear hcon h9 H8
  have hcon := one_begin (T' := tw5) H9.out (by decide +kernel) 9 0 5 (by unfold I64; omega) (by decide +kernel) (by decide +kernel) (if_neg (by decide +kernel))
  go_wp2_with fail
  refine (show Calls Try.prog _ _ _ _ from hcon).mono ?_
  rintro e w10 ⟨F10, rfl, h10, -, -⟩
  have H10 := Lib.hid h10
  clear hcon h10 H9
  have hcon := one_commit (T' := tw6) H10.out (by decide +kernel) (by decide +kernel) 1 0 (by unfold I64; omega) (by decide +kernel) rfl
  go_wp2_with fail
  refine (show Calls Try.prog _ _ _ _ from hcon).mono ?_
  rintro e w11 ⟨F11, rfl, h11, -, -⟩
  have H11 := Lib.hid h11
  clear hcon h11 H10
  have hcon := one_number H11.out (by decide +kernel) 1 1 (by unfold I64; omega) (by decide +kernel)
  go_wp2_with fail
  refine (show Calls Try.prog _ _ _ _ from hcon).mono ?_
  rintro e w12 ⟨rfl, hb12⟩
  have H12 := Lib.hid (H11.out.below hb12)
  clear hcon hb12 H11
  have hcon := one_number H12.out (by decide +kernel) 2 0 (by unfold I64; omega) (by decide +kernel)
  go_wp2_with fail
  refine (show Calls Try.prog _ _ _ _ from hcon).mono ?_
  rintro e w13 ⟨rfl, hb13⟩
  have H13 := Lib.hid (H12.out.below hb13)
  clear hcon hb13 H12
  have hcon := one_begin (T' := tw7) H13.out (by decide +kernel) 0 4 0 (by unfold I64; omega) (by decide +kernel) (by decide +kernel) rfl
  go_wp2_with fail
  refine (show Calls Try.prog _ _ _ _ from hcon).mono ?_
  rintro e w14 ⟨F14, rfl, h14, -, -⟩
  have H14 := Lib.hid h14
  clear hcon h14 H13
  have hcon := one_commit (T' := tw8) H14.out (by decide +kernel) (by decide +kernel) 4 0 (by unfold I64; omega) (by decide +kernel) rfl
  go_wp2_with fail
  refine (show Calls Try.prog _ _ _ _ from hcon).mono ?_
  rintro e w15 ⟨F15, rfl, h15, -, -⟩
  have H15 := Lib.hid h15
  clear hcon h15 H14
  have hcon := one_number H15.out (by decide +kernel) 4 2 (by unfold I64; omega) (by decide +kernel)
  go_wp2_with fail
  refine (show Calls Try.prog _ _ _ _ from hcon).mono ?_
  rintro e w16 ⟨rfl, hb16⟩
  have H16 := Lib.hid (H15.out.below hb16)
  clear hcon hb16 H15
  have hcon := one_commit (T' := tw8) H16.out (by decide +kernel) (by decide +kernel) 4 7 (by unfold I64; omega) (by decide +kernel) (if_neg (by decide +kernel))
  go_wp2_with fail
  refine (show Calls Try.prog _ _ _ _ from hcon).mono ?_
  rintro e w17 ⟨F17, rfl, h17, -, -⟩
  have H17 := Lib.hid h17
  clear hcon h17 H16
  have hcon := one_last H17.out 2 (by decide +kernel)
  go_wp2_with fail
  refine (show Calls Try.prog _ _ _ _ from hcon).mono ?_
  rintro e w18 ⟨rfl, hb18⟩
  have H18 := Lib.hid (H17.out.below hb18)
  clear hcon hb18 H17
  go_wp2_with fail
  go_ret
  exact ⟨rfl, H18.out.bel⟩

end Go.Proofs.Ytebkcejamleojaa
