/-
  The law QueueNames, walked.
-/
import Derived.Test.YtjjhmfpdbjflmaaPAwake
namespace Go.Proofs.Ytjjhmfpdbjflmaa
open Go.RowKit
set_option linter.unusedVariables false

set_option maxRecDepth 100000 in
set_option maxHeartbeats 8000000 in
theorem names_law (w : World) : Calls Try.prog 4 #[] w fun e w' => e = .returned (.bool true) ∧ Below w.heap.size w w' := by
  go_enter Try.func4, Try.ntmps4
  go_wp2_with fail
  refine (show Calls Try.prog _ _ _ _ from ask_nil 1 1 w).mono ?_
  rintro e w1 ⟨rfl, hb⟩
  have HB1 := Lib.hid (hb)
  clear hb
  go_wp2_with fail
  refine (show Calls Try.prog _ _ _ _ from drop_nil 1 w1).mono ?_
  rintro e w2 ⟨rfl, hb⟩
  have HB2 := Lib.hid (below_tr HB1.out hb)
  clear hb HB1
  go_wp2_with fail
  refine (show Calls Try.prog _ _ _ _ from waits_nil 1 w2).mono ?_
  rintro e w3 ⟨rfl, hb⟩
  have HB3 := Lib.hid (below_tr HB2.out hb)
  clear hb HB2
  go_wp2_with fail
  refine (show Calls Try.prog _ _ _ _ from new_bad 77 w3 (by decide)).mono ?_
  rintro e w4 ⟨rfl, hb⟩
  have HB4 := Lib.hid (below_tr HB3.out hb)
  clear hb HB3
  go_wp2_with fail
  refine (show Calls Try.prog _ _ _ _ from new_q 2 w4 (.inr rfl)).mono ?_
  rintro e w5 ⟨h, rfl, hq, hb⟩
  have HB5 := Lib.hid (below_tr HB4.out hb)
  have HQ0 := Lib.hid hq
  clear hq
  clear hb HB4
  go_wp2_with fail
  have hb : Calls Try.prog 16 #[.pointer (some ⟨h, 0, none⟩), .int .i64 0, .int .u8 1] w5 fun e w' => e = .returned (.tuple #[.bool false, .int .i64 1]) ∧ Below w5.heap.size w5 w' := ask_low 0 1 (by omega) h _
  refine hb.mono ?_
  clear hb
  rintro e w6 ⟨rfl, hb⟩
  have HB6 := Lib.hid (below_tr HB5.out hb)
  have HQ1 := Lib.hid (HQ0.out.below hb)
  clear hb HB5 HQ0
  go_wp2_with fail
  have hb : Calls Try.prog 16 #[.pointer (some ⟨h, 0, none⟩), .int .i64 1, .int .u8 3] w6 fun e w' => e = .returned (.tuple #[.bool false, .int .i64 1]) ∧ Below w6.heap.size w6 w' := (by obtain ⟨b, s, n, h1, -, -⟩ := HQ1.out.is; exact ask_mode _ h b s n (Lk.new 2) 1 3 (by omega) (by unfold U8; decide) (by decide +kernel) h1)
  refine hb.mono ?_
  clear hb
  rintro e w7 ⟨rfl, hb⟩
  have HB7 := Lib.hid (below_tr HB6.out hb)
  have HQ2 := Lib.hid (HQ1.out.below hb)
  clear hb HB6 HQ1
  go_wp2_with fail
  have hb : Calls Try.prog 16 #[.pointer (some ⟨h, 0, none⟩), .int .i64 1, .int .u8 0] w7 fun e w' => e = .returned (.tuple #[.bool false, .int .i64 1]) ∧ Below w7.heap.size w7 w' := (by obtain ⟨b, s, n, h1, -, -⟩ := HQ2.out.is; exact ask_mode _ h b s n (Lk.new 2) 1 0 (by omega) (by unfold U8; decide) (by decide +kernel) h1)
  refine hb.mono ?_
  clear hb
  rintro e w8 ⟨rfl, hb⟩
  have HB8 := Lib.hid (below_tr HB7.out hb)
  have HQ3 := Lib.hid (HQ2.out.below hb)
  clear hb HB7 HQ2
  go_wp2_with fail
  refine (show Calls Try.prog _ _ _ _ from drop_low 0 (by omega) h w8).mono ?_
  rintro e w9 ⟨rfl, hb⟩
  have HB9 := Lib.hid (below_tr HB8.out hb)
  have HQ4 := Lib.hid (HQ3.out.below hb)
  clear HQ3
  clear hb HB8
  go_wp2_with fail
  refine (show Calls Try.prog _ _ _ _ from held_nil 1 w9).mono ?_
  rintro e w10 ⟨rfl, hb⟩
  have HB10 := Lib.hid (below_tr HB9.out hb)
  have HQ5 := Lib.hid (HQ4.out.below hb)
  clear HQ4
  clear hb HB9
  go_wp2_with fail
  refine (show Calls Try.prog _ _ _ _ from for_nil 1 w10).mono ?_
  rintro e w11 ⟨rfl, hb⟩
  have HB11 := Lib.hid (below_tr HB10.out hb)
  have HQ6 := Lib.hid (HQ5.out.below hb)
  clear HQ5
  clear hb HB10
  go_wp2_with fail
  refine (show Calls Try.prog _ _ _ _ from holders_nil w11).mono ?_
  rintro e w12 ⟨rfl, hb⟩
  have HB12 := Lib.hid (below_tr HB11.out hb)
  have HQ7 := Lib.hid (HQ6.out.below hb)
  clear HQ6
  clear hb HB11
  go_wp2_with fail
  refine (show Calls Try.prog _ _ _ _ from row_nil w12).mono ?_
  rintro e w13 ⟨rfl, hb⟩
  have HB13 := Lib.hid (below_tr HB12.out hb)
  have HQ8 := Lib.hid (HQ7.out.below hb)
  clear HQ7
  clear hb HB12
  go_wp2_with fail
  refine (show Calls Try.prog _ _ _ _ from idle_nil w13).mono ?_
  rintro e w14 ⟨rfl, hb⟩
  have HB14 := Lib.hid (below_tr HB13.out hb)
  have HQ9 := Lib.hid (HQ8.out.below hb)
  clear HQ8
  clear hb HB13
  go_wp2_with fail
  refine (show Calls Try.prog _ _ _ _ from copy_nil w14).mono ?_
  rintro e w15 ⟨rfl, hb⟩
  have HB15 := Lib.hid (below_tr HB14.out hb)
  have HQ10 := Lib.hid (HQ9.out.below hb)
  clear HQ9
  clear hb HB14
  go_wp2_with fail
  refine (show Calls Try.prog _ _ _ _ from idle_q HQ10.out true (by decide +kernel)).mono ?_
  rintro e w16 ⟨rfl, hb⟩
  have HB16 := Lib.hid (below_tr HB15.out hb)
  have HQ11 := Lib.hid (HQ10.out.below hb)
  clear HQ10
  clear hb HB15
  go_wp2_with fail
  refine (show Calls Try.prog _ _ _ _ from awake_is w16).mono ?_
  rintro e w17 ⟨rfl, hb⟩
  have HB17 := Lib.hid (below_tr HB16.out hb)
  have HQ12 := Lib.hid (HQ11.out.below hb)
  clear HQ11
  clear hb HB16
  go_wp2_with fail
  go_ret
  exact ⟨rfl, HB17.out⟩

end Go.Proofs.Ytjjhmfpdbjflmaa
