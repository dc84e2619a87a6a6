/-
  ModesTell, walked (stage 13).
-/
import Derived.Test.YtdncoegdgoacnaaORef2
import Derived.Test.YtdncoegdgoacnaaOWith
namespace Go.Proofs.Ytdncoegdgoacnaa
open Go.RowKit
set_option linter.unusedVariables false

set_option maxRecDepth 100000 in
set_option maxHeartbeats 4000000 in
theorem tell_law (c h m : Int) (hm : U8 m) (hh : U16 h) (w : World) :
    Calls Try.prog 4 #[.int .u8 c, .int .u16 h, .int .u8 m] w fun e w' => e = .returned (.bool true) ∧ Below w.heap.size w w' := by
  obtain ⟨p, hp⟩ : ∃ p, mayB c m = p := ⟨_, rfl⟩
  obtain ⟨g, hg⟩ : ∃ p, goB c h m = p := ⟨_, rfl⟩
  obtain ⟨v, hv⟩ : ∃ p, covB c h m = p := ⟨_, rfl⟩
  obtain ⟨r, hr⟩ : ∃ p, withN h m = p := ⟨_, rfl⟩
  have H1 := Lib.hid fun w => may_is c m hm w p hp
  have H2 := Lib.hid fun w => rmay_is c m hm w p hp
  have H3 := Lib.hid fun w => go_is c h m hm hh w g hg
  have H4 := Lib.hid fun w => rgo_is c h m hm hh w g hg
  have H5 := Lib.hid fun w => covers_is c h m hm hh w v hv
  have H6 := Lib.hid fun w => rcov_is c h m hm hh w v hv
  have H7 := Lib.hid fun w => with_is h m hm hh w r hr
  have H8 := Lib.hid fun w => rwith_is h m hm hh w r hr
  clear hp hg hv hr hm hh
  have HB0 : Hid (Below w.heap.size w w) := Lib.hid (Below.refl _ _)
  go_enter Try.func4, Try.ntmps4
  have hcon := H1.out w
  go_wp2_with fail
  refine (show Calls Try.prog _ _ _ _ from hcon).mono ?_
  rintro e w1 ⟨rfl, hb1⟩
  have HB1 : Hid (Below w.heap.size w w1) := Lib.hid (below_tr HB0.out hb1)
  clear hcon hb1 HB0
  have hcon := H2.out w1
  go_wp2_with fail
  refine (show Calls Try.prog _ _ _ _ from hcon).mono ?_
  rintro e w2 ⟨rfl, hb2⟩
  have HB2 : Hid (Below w.heap.size w w2) := Lib.hid (below_tr HB1.out hb2)
  clear hcon hb2 HB1
  have hcon := H3.out w2
  go_wp2_with fail
  refine (show Calls Try.prog _ _ _ _ from hcon).mono ?_
  rintro e w3 ⟨rfl, hb3⟩
  have HB3 : Hid (Below w.heap.size w w3) := Lib.hid (below_tr HB2.out hb3)
  clear hcon hb3 HB2
  have hcon := H4.out w3
  go_wp2_with fail
  refine (show Calls Try.prog _ _ _ _ from hcon).mono ?_
  rintro e w4 ⟨rfl, hb4⟩
  have HB4 : Hid (Below w.heap.size w w4) := Lib.hid (below_tr HB3.out hb4)
  clear hcon hb4 HB3
  have hcon := H5.out w4
  go_wp2_with fail
  refine (show Calls Try.prog _ _ _ _ from hcon).mono ?_
  rintro e w5 ⟨rfl, hb5⟩
  have HB5 : Hid (Below w.heap.size w w5) := Lib.hid (below_tr HB4.out hb5)
  clear hcon hb5 HB4
  have hcon := H6.out w5
  go_wp2_with fail
  refine (show Calls Try.prog _ _ _ _ from hcon).mono ?_
  rintro e w6 ⟨rfl, hb6⟩
  have HB6 : Hid (Below w.heap.size w w6) := Lib.hid (below_tr HB5.out hb6)
  clear hcon hb6 HB5
  have hcon := H7.out w6
  go_wp2_with fail
  refine (show Calls Try.prog _ _ _ _ from hcon).mono ?_
  rintro e w7 ⟨rfl, hb7⟩
  have HB7 : Hid (Below w.heap.size w w7) := Lib.hid (below_tr HB6.out hb7)
  clear hcon hb7 HB6
  have hcon := H8.out w7
  go_wp2_with fail
  refine (show Calls Try.prog _ _ _ _ from hcon).mono ?_
  rintro e w8 ⟨rfl, hb8⟩
  have HB8 : Hid (Below w.heap.size w w8) := Lib.hid (below_tr HB7.out hb8)
  clear hcon hb8 HB7
  go_wp2_with fail
  go_ret
  exact ⟨by simp, HB8.out⟩

end Go.Proofs.Ytdncoegdgoacnaa
