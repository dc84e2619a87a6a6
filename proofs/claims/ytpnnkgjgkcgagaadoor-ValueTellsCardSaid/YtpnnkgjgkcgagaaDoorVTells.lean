/-
  The law ValueTells as a walk over this translation: it answers true, and of what was there nothing has turned.
-/
import Derived.Test.YtpnnkgjgkcgagaaDoorVRText
import Derived.Test.YtpnnkgjgkcgagaaDoorVRCmp
import Derived.Test.YtpnnkgjgkcgagaaDoorVFit
import Derived.Test.YtpnnkgjgkcgagaaDoorVBack
import Derived.Test.YtpnnkgjgkcgagaaDoorVOrder
namespace Go.Proofs.YtpnnkgjgkcgagaaDoor
open Go.RowKit

theorem rtext_is (k n hi : Int) (b1 : -9223372036854775808 ≤ n ∧ n ≤ 9223372036854775807) (b2 : -9223372036854775808 ≤ hi ∧ hi ≤ 9223372036854775807) (t tx : ByteArray) (h : textL k n hi t.data.toList = tx.data.toList) (w : World) :
    Calls Tryd.prog 21 #[.agg #[.int .u8 k, .int .i64 n, .int .i64 hi, .string t]] w fun e w' => e = .returned (.string tx) ∧ Below w.heap.size w w' :=
  (rtext_any k n hi b1.1 b1.2 b2.1 b2.2 t w).mono fun _ _ hq => by rw [h, ba_eta] at hq; exact hq

set_option maxHeartbeats 1000000 in
theorem tells_big (k n hi : Int) (t : ByteArray) (k' n' hi' : Int) (t' : ByteArray) (kind : Int) (hz : t.size ≤ 140737488351232) (hz' : t'.size ≤ 140737488351232) (hl : 5000 < t.size + t'.size) (w : World) :
    Calls Tryd.prog 4 #[.agg #[.int .u8 k, .int .i64 n, .int .i64 hi, .string t], .agg #[.int .u8 k', .int .i64 n', .int .i64 hi', .string t'], .int .u8 kind] w fun e w' => e = .returned (.bool true) ∧ Below w.heap.size w w' := by
  obtain ⟨W, hW, B0, C0, hbW⟩ := two_boxes w k n hi t k' n' hi' t' 26
  have hd : decide (5000 < (t.size : Int) + (t'.size : Int)) = true := by simp; omega
  go_enter Tryd.func4, Tryd.ntmps4
  go_wp2_with fail
  go_ret
  rw [← hW]
  exact ⟨rfl, hbW⟩

set_option maxRecDepth 100000 in
set_option maxHeartbeats 4000000 in
theorem tells_small (k n hi : Int) (t : ByteArray) (k' n' hi' : Int) (t' : ByteArray) (kind : Int) (b1 : -9223372036854775808 ≤ n ∧ n ≤ 9223372036854775807) (b2 : -9223372036854775808 ≤ hi ∧ hi ≤ 9223372036854775807) (hl : t.size + t'.size ≤ 5000) (w : World) (hg : GoodT w) :
    Calls Tryd.prog 4 #[.agg #[.int .u8 k, .int .i64 n, .int .i64 hi, .string t], .agg #[.int .u8 k', .int .i64 n', .int .i64 hi', .string t'], .int .u8 kind] w fun e w' => e = .returned (.bool true) ∧ Below w.heap.size w w' := by
  obtain ⟨W, hW, B0, C0, hbW⟩ := two_boxes w k n hi t k' n' hi' t' 26
  have hgW := hg.below hbW
  obtain ⟨g, hgg⟩ : ∃ g, w.heap.size = g := ⟨_, rfl⟩
  rw [hgg] at B0 C0
  obtain ⟨m, hm⟩ : ∃ m, mayB k n hi t.data.toList = m := ⟨_, rfl⟩
  obtain ⟨f, hf⟩ : ∃ f, fitsB k n hi t.data.toList kind = f := ⟨_, rfl⟩
  obtain ⟨c, hc⟩ : ∃ c, cmpV k n hi t k' n' hi' t' = c := ⟨_, rfl⟩
  obtain ⟨x, hx⟩ : ∃ x : ByteArray, textL k n hi t.data.toList = x.data.toList := ⟨⟨(textL k n hi t.data.toList).toArray⟩, rfl⟩
  have HM := Lib.hid hm
  have HF := Lib.hid hf
  have HC := Lib.hid hc
  have HX := Lib.hid hx
  clear hm hf hc hx
  have hd : decide (5000 < (t.size : Int) + (t'.size : Int)) = false := by simp; omega
  go_enter Tryd.func4, Tryd.ntmps4
  go_wp2_with fail
  rw [← hW]
  have hWd : Below W.heap.size W W.drew := (Below.refl _ _).drew
  refine wp_region_plan (fun w w' => Below w.heap.size w w') [.it (.agg #[.int .u8 k, .int .i64 n, .int .i64 hi, .string t]), .it (.bool m), .it (.agg #[.int .u8 k, .int .i64 n, .int .i64 hi, .string t]), .it (.bool m), .it (.bool true), .it (.bool true), .it (.agg #[.int .u8 k, .int .i64 n, .int .i64 hi, .string t]), .it (.int .u8 kind), .it (.bool f), .it (.agg #[.int .u8 k, .int .i64 n, .int .i64 hi, .string t]), .it (.int .u8 kind), .it (.bool f), .it (.bool true), .it (.bool true), .it (.bool true), .it (.agg #[.int .u8 k, .int .i64 n, .int .i64 hi, .string t]), .it (.agg #[.int .u8 k', .int .i64 n', .int .i64 hi', .string t']), .it (.int .i64 c), .it (.agg #[.int .u8 k, .int .i64 n, .int .i64 hi, .string t]), .it (.agg #[.int .u8 k', .int .i64 n', .int .i64 hi', .string t']), .it (.int .i64 c), .it (.bool true), .it (.bool true), .it (.bool true), .it (.agg #[.int .u8 k, .int .i64 n, .int .i64 hi, .string t]), .it (.string x), .it (.agg #[.int .u8 k, .int .i64 n, .int .i64 hi, .string t]), .it (.string x), .it (.bool true), .it (.bool true), .it (.bool true)] (by kernel_rfl) (by kernel_rfl) (fun w => Below.refl _ _) (fun _ _ _ => below_tr) ?_
  refine seqP_value (fun w => Below.refl _ _) _ (by first | rfl | simp) (fun w' hw' hctx => ?_) ?_
  · have hb := below_tr hWd hw'
    obtain ⟨c0, c1, c2, c3, c4⟩ := B0.below hb
    obtain ⟨d0, d1, d2, d3, d4⟩ := C0.below hb
    go_simp
    try first | with_reducible rfl | simp
  simp only [Act.put, List.setIfInBounds_toArray, List.set_cons_zero, List.set_cons_succ]
  refine seqP_call 14 #[.agg #[.int .u8 k, .int .i64 n, .int .i64 hi, .string t]] (.bool m) (by first | rfl | simp) (fun w' hw' hctx => ?_) (fun w' hw' hctx => may_is k n hi t w' m HM.out) ?_
  · go_simp
  simp only [Act.put, List.setIfInBounds_toArray, List.set_cons_zero, List.set_cons_succ]
  refine seqP_value (fun w => Below.refl _ _) _ (by first | rfl | simp) (fun w' hw' hctx => ?_) ?_
  · have hb := below_tr hWd hw'
    obtain ⟨c0, c1, c2, c3, c4⟩ := B0.below hb
    obtain ⟨d0, d1, d2, d3, d4⟩ := C0.below hb
    go_simp
    try first | with_reducible rfl | simp
  simp only [Act.put, List.setIfInBounds_toArray, List.set_cons_zero, List.set_cons_succ]
  refine seqP_call 17 #[.agg #[.int .u8 k, .int .i64 n, .int .i64 hi, .string t]] (.bool m) (by first | rfl | simp) (fun w' hw' hctx => ?_) (fun w' hw' hctx => rmay_is k n hi t w' m HM.out) ?_
  · go_simp
  simp only [Act.put, List.setIfInBounds_toArray, List.set_cons_zero, List.set_cons_succ]
  refine seqP_value (fun w => Below.refl _ _) _ (by first | rfl | simp) (fun w' hw' hctx => ?_) ?_
  · go_simp
    try first | with_reducible rfl | simp
  simp only [Act.put, List.setIfInBounds_toArray, List.set_cons_zero, List.set_cons_succ]
  refine seqP_value (fun w => Below.refl _ _) _ (by first | rfl | simp) (fun w' hw' hctx => ?_) ?_
  · go_simp
    try first | with_reducible rfl | simp
  simp only [Act.put, List.setIfInBounds_toArray, List.set_cons_zero, List.set_cons_succ]
  refine seqP_value (fun w => Below.refl _ _) _ (by first | rfl | simp) (fun w' hw' hctx => ?_) ?_
  · have hb := below_tr hWd hw'
    obtain ⟨c0, c1, c2, c3, c4⟩ := B0.below hb
    obtain ⟨d0, d1, d2, d3, d4⟩ := C0.below hb
    go_simp
    try first | with_reducible rfl | simp
  simp only [Act.put, List.setIfInBounds_toArray, List.set_cons_zero, List.set_cons_succ]
  refine seqP_value (fun w => Below.refl _ _) _ (by first | rfl | simp) (fun w' hw' hctx => ?_) ?_
  · go_simp
    try first | with_reducible rfl | simp
  simp only [Act.put, List.setIfInBounds_toArray, List.set_cons_zero, List.set_cons_succ]
  refine seqP_call 16 #[.agg #[.int .u8 k, .int .i64 n, .int .i64 hi, .string t], .int .u8 kind] (.bool f) (by first | rfl | simp) (fun w' hw' hctx => ?_) (fun w' hw' hctx => fits_is k n hi t kind f HF.out w') ?_
  · go_simp
  simp only [Act.put, List.setIfInBounds_toArray, List.set_cons_zero, List.set_cons_succ]
  refine seqP_value (fun w => Below.refl _ _) _ (by first | rfl | simp) (fun w' hw' hctx => ?_) ?_
  · have hb := below_tr hWd hw'
    obtain ⟨c0, c1, c2, c3, c4⟩ := B0.below hb
    obtain ⟨d0, d1, d2, d3, d4⟩ := C0.below hb
    go_simp
    try first | with_reducible rfl | simp
  simp only [Act.put, List.setIfInBounds_toArray, List.set_cons_zero, List.set_cons_succ]
  refine seqP_value (fun w => Below.refl _ _) _ (by first | rfl | simp) (fun w' hw' hctx => ?_) ?_
  · go_simp
    try first | with_reducible rfl | simp
  simp only [Act.put, List.setIfInBounds_toArray, List.set_cons_zero, List.set_cons_succ]
  refine seqP_call 18 #[.agg #[.int .u8 k, .int .i64 n, .int .i64 hi, .string t], .int .u8 kind] (.bool f) (by first | rfl | simp) (fun w' hw' hctx => ?_) (fun w' hw' hctx => rfits_is k n hi t kind f HF.out w') ?_
  · go_simp
  simp only [Act.put, List.setIfInBounds_toArray, List.set_cons_zero, List.set_cons_succ]
  refine seqP_value (fun w => Below.refl _ _) _ (by first | rfl | simp) (fun w' hw' hctx => ?_) ?_
  · go_simp
    try first | with_reducible rfl | simp
  simp only [Act.put, List.setIfInBounds_toArray, List.set_cons_zero, List.set_cons_succ]
  refine seqP_value (fun w => Below.refl _ _) _ (by first | rfl | simp) (fun w' hw' hctx => ?_) ?_
  · go_simp
    try first | with_reducible rfl | simp
  simp only [Act.put, List.setIfInBounds_toArray, List.set_cons_zero, List.set_cons_succ]
  refine seqP_value (fun w => Below.refl _ _) _ (by first | rfl | simp) (fun w' hw' hctx => ?_) ?_
  · go_simp
    try first | with_reducible rfl | simp
  simp only [Act.put, List.setIfInBounds_toArray, List.set_cons_zero, List.set_cons_succ]
  refine seqP_value (fun w => Below.refl _ _) _ (by first | rfl | simp) (fun w' hw' hctx => ?_) ?_
  · have hb := below_tr hWd hw'
    obtain ⟨c0, c1, c2, c3, c4⟩ := B0.below hb
    obtain ⟨d0, d1, d2, d3, d4⟩ := C0.below hb
    go_simp
    try first | with_reducible rfl | simp
  simp only [Act.put, List.setIfInBounds_toArray, List.set_cons_zero, List.set_cons_succ]
  refine seqP_value (fun w => Below.refl _ _) _ (by first | rfl | simp) (fun w' hw' hctx => ?_) ?_
  · have hb := below_tr hWd hw'
    obtain ⟨c0, c1, c2, c3, c4⟩ := B0.below hb
    obtain ⟨d0, d1, d2, d3, d4⟩ := C0.below hb
    go_simp
    try first | with_reducible rfl | simp
  simp only [Act.put, List.setIfInBounds_toArray, List.set_cons_zero, List.set_cons_succ]
  refine seqP_call 19 #[.agg #[.int .u8 k, .int .i64 n, .int .i64 hi, .string t], .agg #[.int .u8 k', .int .i64 n', .int .i64 hi', .string t']] (.int .i64 c) (by first | rfl | simp) (fun w' hw' hctx => ?_) (fun w' hw' hctx => compare_is k n hi t k' n' hi' t' w' c HC.out) ?_
  · go_simp
  simp only [Act.put, List.setIfInBounds_toArray, List.set_cons_zero, List.set_cons_succ]
  refine seqP_value (fun w => Below.refl _ _) _ (by first | rfl | simp) (fun w' hw' hctx => ?_) ?_
  · have hb := below_tr hWd hw'
    obtain ⟨c0, c1, c2, c3, c4⟩ := B0.below hb
    obtain ⟨d0, d1, d2, d3, d4⟩ := C0.below hb
    go_simp
    try first | with_reducible rfl | simp
  simp only [Act.put, List.setIfInBounds_toArray, List.set_cons_zero, List.set_cons_succ]
  refine seqP_value (fun w => Below.refl _ _) _ (by first | rfl | simp) (fun w' hw' hctx => ?_) ?_
  · have hb := below_tr hWd hw'
    obtain ⟨c0, c1, c2, c3, c4⟩ := B0.below hb
    obtain ⟨d0, d1, d2, d3, d4⟩ := C0.below hb
    go_simp
    try first | with_reducible rfl | simp
  simp only [Act.put, List.setIfInBounds_toArray, List.set_cons_zero, List.set_cons_succ]
  refine seqP_call 20 #[.agg #[.int .u8 k, .int .i64 n, .int .i64 hi, .string t], .agg #[.int .u8 k', .int .i64 n', .int .i64 hi', .string t']] (.int .i64 c) (by first | rfl | simp) (fun w' hw' hctx => ?_) (fun w' hw' hctx => rcompare_is k n hi t k' n' hi' t' (by omega) (by omega) c HC.out w') ?_
  · go_simp
  simp only [Act.put, List.setIfInBounds_toArray, List.set_cons_zero, List.set_cons_succ]
  refine seqP_value (fun w => Below.refl _ _) _ (by first | rfl | simp) (fun w' hw' hctx => ?_) ?_
  · go_simp
    try first | with_reducible rfl | simp
  simp only [Act.put, List.setIfInBounds_toArray, List.set_cons_zero, List.set_cons_succ]
  refine seqP_value (fun w => Below.refl _ _) _ (by first | rfl | simp) (fun w' hw' hctx => ?_) ?_
  · go_simp
    try first | with_reducible rfl | simp
  simp only [Act.put, List.setIfInBounds_toArray, List.set_cons_zero, List.set_cons_succ]
  refine seqP_value (fun w => Below.refl _ _) _ (by first | rfl | simp) (fun w' hw' hctx => ?_) ?_
  · go_simp
    try first | with_reducible rfl | simp
  simp only [Act.put, List.setIfInBounds_toArray, List.set_cons_zero, List.set_cons_succ]
  refine seqP_value (fun w => Below.refl _ _) _ (by first | rfl | simp) (fun w' hw' hctx => ?_) ?_
  · have hb := below_tr hWd hw'
    obtain ⟨c0, c1, c2, c3, c4⟩ := B0.below hb
    obtain ⟨d0, d1, d2, d3, d4⟩ := C0.below hb
    go_simp
    try first | with_reducible rfl | simp
  simp only [Act.put, List.setIfInBounds_toArray, List.set_cons_zero, List.set_cons_succ]
  refine seqP_call 15 #[.agg #[.int .u8 k, .int .i64 n, .int .i64 hi, .string t]] (.string x) (by first | rfl | simp) (fun w' hw' hctx => ?_) (fun w' hw' hctx => text_is k n hi b1 b2 t x HX.out w' (hgW.below (below_tr hWd hw'))) ?_
  · go_simp
  simp only [Act.put, List.setIfInBounds_toArray, List.set_cons_zero, List.set_cons_succ]
  refine seqP_value (fun w => Below.refl _ _) _ (by first | rfl | simp) (fun w' hw' hctx => ?_) ?_
  · have hb := below_tr hWd hw'
    obtain ⟨c0, c1, c2, c3, c4⟩ := B0.below hb
    obtain ⟨d0, d1, d2, d3, d4⟩ := C0.below hb
    go_simp
    try first | with_reducible rfl | simp
  simp only [Act.put, List.setIfInBounds_toArray, List.set_cons_zero, List.set_cons_succ]
  refine seqP_call 21 #[.agg #[.int .u8 k, .int .i64 n, .int .i64 hi, .string t]] (.string x) (by first | rfl | simp) (fun w' hw' hctx => ?_) (fun w' hw' hctx => rtext_is k n hi b1 b2 t x HX.out w') ?_
  · go_simp
  simp only [Act.put, List.setIfInBounds_toArray, List.set_cons_zero, List.set_cons_succ]
  refine seqP_value (fun w => Below.refl _ _) _ (by first | rfl | simp) (fun w' hw' hctx => ?_) ?_
  · go_simp
    try first | with_reducible rfl | simp
  simp only [Act.put, List.setIfInBounds_toArray, List.set_cons_zero, List.set_cons_succ]
  refine seqP_value (fun w => Below.refl _ _) _ (by first | rfl | simp) (fun w' hw' hctx => ?_) ?_
  · go_simp
    try first | with_reducible rfl | simp
  simp only [Act.put, List.setIfInBounds_toArray, List.set_cons_zero, List.set_cons_succ]
  refine seqP_value (fun w => Below.refl _ _) _ (by first | rfl | simp) (fun w' hw' hctx => ?_) ?_
  · go_simp
    try first | with_reducible rfl | simp
  simp only [Act.put, List.setIfInBounds_toArray, List.set_cons_zero, List.set_cons_succ]
  refine seqP_nil fun w' hw' _ => ?_
  go_wp2_with fail
  go_ret
  exact ⟨rfl, hgg ▸ below_tr hbW (below_tr hWd hw')⟩

theorem tells_any (k n hi : Int) (t : ByteArray) (k' n' hi' : Int) (t' : ByteArray) (kind : Int) (b1 : -9223372036854775808 ≤ n ∧ n ≤ 9223372036854775807) (b2 : -9223372036854775808 ≤ hi ∧ hi ≤ 9223372036854775807) (hz : t.size ≤ 140737488351232) (hz' : t'.size ≤ 140737488351232) (w : World) (hg : GoodT w) :
    Calls Tryd.prog 4 #[.agg #[.int .u8 k, .int .i64 n, .int .i64 hi, .string t], .agg #[.int .u8 k', .int .i64 n', .int .i64 hi', .string t'], .int .u8 kind] w fun e w' => e = .returned (.bool true) ∧ Below w.heap.size w w' := by
  by_cases hl : t.size + t'.size ≤ 5000
  · exact tells_small k n hi t k' n' hi' t' kind b1 b2 hl w hg
  · exact tells_big k n hi t k' n' hi' t' kind hz hz' (by omega) w
end Go.Proofs.YtpnnkgjgkcgagaaDoor
