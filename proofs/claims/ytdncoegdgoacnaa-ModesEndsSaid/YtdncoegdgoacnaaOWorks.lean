/-
  works: the examples of stage 13, walked.
-/
import Derived.Test.YtdncoegdgoacnaaOSet
namespace Go.Proofs.Ytdncoegdgoacnaa
open Go.RowKit
set_option linter.unusedVariables false

theorem set1_is (a : Int) (w : World) (ha : U8 a) (r : Int) (hr : setN [a] = r) :
    Calls Try.prog 11 #[.slice (some ⟨w.heap.size, 0, none⟩) 1 1] (w.alloc (.cells #[.int .u8 a] 5)) fun e w' => e = .returned (.int .u16 r) ∧ Below w.heap.size w w' := by
  refine (set_is w.heap.size 1 1 [a] rfl (fun x hx => by rw [List.mem_singleton.1 hx]; exact ha) (by decide) _ (fun i x hx => ?_) (by simp) r hr).mono ?_
  · match i, hx with
    | 0, hx => obtain rfl : a = x := by simpa using hx
               simp
  · rintro e w' ⟨rfl, hb⟩
    exact ⟨rfl, below_tr (Below.allocs _ _) hb⟩
theorem set2_is (a c : Int) (w : World) (ha : U8 a) (hc : U8 c) (r : Int) (hr : setN [a, c] = r) :
    Calls Try.prog 11 #[.slice (some ⟨w.heap.size, 0, none⟩) 2 2] (w.alloc (.cells #[.int .u8 a, .int .u8 c] 5)) fun e w' => e = .returned (.int .u16 r) ∧ Below w.heap.size w w' := by
  refine (set_is w.heap.size 2 2 [a, c] rfl (fun x hx => by rcases List.mem_cons.1 hx with rfl | hx; exact ha; rw [List.mem_singleton.1 hx]; exact hc) (by decide) _ (fun i x hx => ?_) (by simp) r hr).mono ?_
  · match i, hx with
    | 0, hx => obtain rfl : a = x := by simpa using hx
               simp
    | 1, hx => obtain rfl : c = x := by simpa using hx
               simp
  · rintro e w' ⟨rfl, hb⟩
    exact ⟨rfl, below_tr (Below.allocs _ _) hb⟩

set_option maxRecDepth 100000 in
set_option maxHeartbeats 4000000 in
theorem works_is (w : World) : Calls Try.prog 9 #[] w fun e w' => e = .returned (.bool true) ∧ Below w.heap.size w w' := by
  have HB0 : Hid (Below w.heap.size w w) := Lib.hid (Below.refl _ _)
  go_enter Try.func9, Try.ntmps9
  have hcon := set2_is (1) (3) w (by unfold U8; omega) (by unfold U8; omega) (10) (by decide +kernel)
  go_wp2_with fail
  refine (show Calls Try.prog _ _ _ _ from hcon).mono ?_
  rintro e w1 ⟨rfl, hb1⟩
  have HB1 : Hid (Below w.heap.size w w1) := Lib.hid (below_tr HB0.out hb1)
  clear hcon hb1 HB0
  have hcon := go_is (1) (10) (3) (by unfold U8; omega) (by unfold U16; omega) w1 true (by decide +kernel)
  go_wp2_with fail
  refine (show Calls Try.prog _ _ _ _ from hcon).mono ?_
  rintro e w2 ⟨rfl, hb2⟩
  have HB2 : Hid (Below w.heap.size w w2) := Lib.hid (below_tr HB1.out hb2)
  clear hcon hb2 HB1
  have hcon := set1_is (3) w2 (by unfold U8; omega) (8) (by decide +kernel)
  go_wp2_with fail
  refine (show Calls Try.prog _ _ _ _ from hcon).mono ?_
  rintro e w3 ⟨rfl, hb3⟩
  have HB3 : Hid (Below w.heap.size w w3) := Lib.hid (below_tr HB2.out hb3)
  clear hcon hb3 HB2
  have hcon := go_is (1) (8) (5) (by unfold U8; omega) (by unfold U16; omega) w3 false (by decide +kernel)
  go_wp2_with fail
  refine (show Calls Try.prog _ _ _ _ from hcon).mono ?_
  rintro e w4 ⟨rfl, hb4⟩
  have HB4 : Hid (Below w.heap.size w w4) := Lib.hid (below_tr HB3.out hb4)
  clear hcon hb4 HB3
  have hcon := set1_is (1) w4 (by unfold U8; omega) (2) (by decide +kernel)
  go_wp2_with fail
  refine (show Calls Try.prog _ _ _ _ from hcon).mono ?_
  rintro e w5 ⟨rfl, hb5⟩
  have HB5 : Hid (Below w.heap.size w w5) := Lib.hid (below_tr HB4.out hb5)
  clear hcon hb5 HB4
  have hcon := go_is (2) (2) (1) (by unfold U8; omega) (by unfold U16; omega) w5 true (by decide +kernel)
  go_wp2_with fail
  refine (show Calls Try.prog _ _ _ _ from hcon).mono ?_
  rintro e w6 ⟨rfl, hb6⟩
  have HB6 : Hid (Below w.heap.size w w6) := Lib.hid (below_tr HB5.out hb6)
  clear hcon hb6 HB5
  have hcon := set1_is (6) w6 (by unfold U8; omega) (64) (by decide +kernel)
  go_wp2_with fail
  refine (show Calls Try.prog _ _ _ _ from hcon).mono ?_
  rintro e w7 ⟨rfl, hb7⟩
  have HB7 : Hid (Below w.heap.size w w7) := Lib.hid (below_tr HB6.out hb7)
  clear hcon hb7 HB6
  have hcon := covers_is (1) (64) (3) (by unfold U8; omega) (by unfold U16; omega) w7 true (by decide +kernel)
  go_wp2_with fail
  refine (show Calls Try.prog _ _ _ _ from hcon).mono ?_
  rintro e w8 ⟨rfl, hb8⟩
  have HB8 : Hid (Below w.heap.size w w8) := Lib.hid (below_tr HB7.out hb8)
  clear hcon hb8 HB7
  have hcon := set1_is (3) w8 (by unfold U8; omega) (8) (by decide +kernel)
  go_wp2_with fail
  refine (show Calls Try.prog _ _ _ _ from hcon).mono ?_
  rintro e w9 ⟨rfl, hb9⟩
  have HB9 : Hid (Below w.heap.size w w9) := Lib.hid (below_tr HB8.out hb9)
  clear hcon hb9 HB8
  have hcon := covers_is (1) (8) (4) (by unfold U8; omega) (by unfold U16; omega) w9 false (by decide +kernel)
  go_wp2_with fail
  refine (show Calls Try.prog _ _ _ _ from hcon).mono ?_
  rintro e w10 ⟨rfl, hb10⟩
  have HB10 : Hid (Below w.heap.size w w10) := Lib.hid (below_tr HB9.out hb10)
  clear hcon hb10 HB9
  have hcon := set2_is (4) (5) w10 (by unfold U8; omega) (by unfold U8; omega) (48) (by decide +kernel)
  go_wp2_with fail
  refine (show Calls Try.prog _ _ _ _ from hcon).mono ?_
  rintro e w11 ⟨rfl, hb11⟩
  have HB11 : Hid (Below w.heap.size w w11) := Lib.hid (below_tr HB10.out hb11)
  clear hcon hb11 HB10
  have hcon := covers_is (1) (48) (6) (by unfold U8; omega) (by unfold U16; omega) w11 true (by decide +kernel)
  go_wp2_with fail
  refine (show Calls Try.prog _ _ _ _ from hcon).mono ?_
  rintro e w12 ⟨rfl, hb12⟩
  have HB12 : Hid (Below w.heap.size w w12) := Lib.hid (below_tr HB11.out hb12)
  clear hcon hb12 HB11
  have hcon := set1_is (1) w12 (by unfold U8; omega) (2) (by decide +kernel)
  go_wp2_with fail
  refine (show Calls Try.prog _ _ _ _ from hcon).mono ?_
  rintro e w13 ⟨rfl, hb13⟩
  have HB13 : Hid (Below w.heap.size w w13) := Lib.hid (below_tr HB12.out hb13)
  clear hcon hb13 HB12
  have hcon := with_is (2) (3) (by unfold U8; omega) (by unfold U16; omega) w13 (10) (by decide +kernel)
  go_wp2_with fail
  refine (show Calls Try.prog _ _ _ _ from hcon).mono ?_
  rintro e w14 ⟨rfl, hb14⟩
  have HB14 : Hid (Below w.heap.size w w14) := Lib.hid (below_tr HB13.out hb14)
  clear hcon hb14 HB13
  go_wp2_with fail
  go_ret
  exact ⟨rfl, HB14.out⟩

end Go.Proofs.Ytdncoegdgoacnaa
