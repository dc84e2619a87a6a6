/-
  The example of the laws that ask no document's answer: walked (stage 12).
-/
import Derived.Test.YtbgnbaogclnpgaaMWr
namespace Go.Proofs.Ytbgnbaogclnpgaa
open Go.RowKit
set_option linter.unusedVariables false

def ta1 : Tb := Tb.new.begT 0
def ta2 : Tb := ta1.begT 0
def aa1 : Ab := wrA ta2 Ab.new 1 1 1 10
def ta3 : Tb := ta2.comT 1
def aa2 : Ab := wrA ta3 aa1 2 2 1 20
def ta4 : Tb := ta3.comT 2

theorem aa2_one : ∀ p ∈ aa2.pl, p.2.row.length = 1 := by decide +kernel

set_option maxRecDepth 100000 in
set_option maxHeartbeats 8000000 in
theorem awake_is (w : World) : Calls Try.prog 6 #[] w fun e w' => e = .returned (.bool true) ∧ Below w.heap.size w w' := by
  have mixed : Try.prog.follows Departure.mixedOrders = true := by kernel_rfl
  have HB0 := Lib.hid (Below.refl w.heap.size w)
  go_enter Try.func6, Try.ntmps6
  have hcon := heap_new (w0 := w) (fun _ => False) HB0.out (fun _ h => h.elim)
  go_wp2_with fail
  refine (show Calls Try.prog _ _ _ _ from hcon).mono ?_
  rintro e w1 ⟨h, rfl, Fh, h1, h2, h3, hb1⟩
  have HH := Lib.hid (And.intro h1 (And.intro h2 (And.intro h3 hb1)))
  clear hcon h1 h2 h3 hb1
  have hcon := duo_new (w0 := w) (fun _ => False) HH.out.1 HH.out.2.1 HH.out.2.2.1 HH.out.2.2.2 (fun _ h => h.elim)
  go_wp2_with fail
  refine (show Calls Try.prog _ _ _ _ from hcon).mono ?_
  rintro e w2 ⟨t, rfl, hd, -⟩
  have HD1 := Lib.hid hd
  clear hcon hd HH HB0
  obtain ⟨W3, hW3⟩ : ∃ W3, w2.alloc (.cells #[.pointer (some ⟨h, 0, none⟩), .pointer (some ⟨t, 0, none⟩), .slice none 0 0] 31) = W3 := ⟨_, rfl⟩
  obtain ⟨gw, hgw⟩ : ∃ g, w2.heap.size = g := ⟨_, rfl⟩
  have hl3 : Lit W3 gw 31 (wriC h t) := by rw [← hW3, ← hgw]; exact Lit.new w2 _ (wriC h t)
  have hb3 : Below w2.heap.size w2 W3 := by rw [← hW3]; exact Below.allocs _ _
  have HD := Lib.hid (HD1.out.apart (X' := fun k => k = gw) hb3 (fun k hk => .inr ⟨by have h1 : k = gw := hk; omega, by have h1 : k = gw := hk; have := hl3.lt; omega⟩))
  have HWR : Hid (Lit W3 gw 31 [.pointer (some ⟨h, 0, none⟩), .pointer (some ⟨t, 0, none⟩), .slice none 0 0]) := Lib.hid hl3
  clear hl3 hb3 HD1
  go_upto_region 2 with (fail)
  clear hW3 hgw
  have q0 := HWR.out.cell (o := 0) rfl
  have q1 := HWR.out.cell (o := 1) rfl
  have ql := HWR.out.lt
  have hcon := duo_begin (T' := ta1) (a := 1) (b := 0) HD.out (by decide +kernel) 0 i64_0 (by decide +kernel) (by decide +kernel) rfl
  go_wp2_with fail
  refine (show Calls Try.prog _ _ _ _ from hcon).mono ?_
  rintro e w4 ⟨rfl, hd, hs⟩
  have HWR2 := Lib.hid (HWR.out.stay hs rfl)
  have HD2 := Lib.hid hd
  clear hcon hd hs q0 q1 ql HD HWR
  have HD := HD2
  have HWR := HWR2
  clear HD2 HWR2
  have q0 := HWR.out.cell (o := 0) rfl
  have q1 := HWR.out.cell (o := 1) rfl
  have ql := HWR.out.lt
  have hcon := duo_begin (T' := ta2) (a := 2) (b := 0) HD.out (by decide +kernel) 0 i64_0 (by decide +kernel) (by decide +kernel) rfl
  go_wp2_with fail
  refine (show Calls Try.prog _ _ _ _ from hcon).mono ?_
  rintro e w5 ⟨rfl, hd, hs⟩
  have HWR2 := Lib.hid (HWR.out.stay hs rfl)
  have HD2 := Lib.hid hd
  clear hcon hd hs q0 q1 ql HD HWR
  have HD := HD2
  have HWR := HWR2
  clear HD2 HWR2
  have q0 := HWR.out.cell (o := 0) rfl
  have q1 := HWR.out.cell (o := 1) rfl
  have ql := HWR.out.lt
  have hcon := write_is (A' := aa1) HD.out (by decide +kernel) (by omega) gw rfl HWR.out 1 1 1 10 i64_1 i64_1 (by decide +kernel) (by decide +kernel) true (by decide +kernel) rfl
  go_wp2_with fail
  refine (show Calls Try.prog _ _ _ _ from hcon).mono ?_
  rintro e w6 ⟨rfl, hd, hs⟩
  have HWR2 := Lib.hid (HWR.out.stay hs rfl)
  have HD2 := Lib.hid hd
  clear hcon hd hs q0 q1 ql HD HWR
  have HD := HD2
  have HWR := HWR2
  clear HD2 HWR2
  have q0 := HWR.out.cell (o := 0) rfl
  have q1 := HWR.out.cell (o := 1) rfl
  have ql := HWR.out.lt
  have hcon := duo_commit (T' := ta3) (b := 0) HD.out (by decide +kernel) (by decide +kernel) 1 i64_1 (by decide +kernel) rfl
  go_wp2_with fail
  refine (show Calls Try.prog _ _ _ _ from hcon).mono ?_
  rintro e w6b ⟨rfl, hd, hs⟩
  have HWR2 := Lib.hid (HWR.out.stay hs rfl)
  have HD2 := Lib.hid hd
  clear hcon hd hs q0 q1 ql HD HWR
  have HD := HD2
  have HWR := HWR2
  clear HD2 HWR2
  have q0 := HWR.out.cell (o := 0) rfl
  have q1 := HWR.out.cell (o := 1) rfl
  have ql := HWR.out.lt
  have hcon := write_is (A' := aa2) HD.out (by decide +kernel) (by omega) gw rfl HWR.out 2 2 1 20 (by decide +kernel) (by decide +kernel) (by decide +kernel) (by decide +kernel) true (by decide +kernel) rfl
  go_wp2_with fail
  refine (show Calls Try.prog _ _ _ _ from hcon).mono ?_
  rintro e w6c ⟨rfl, hd, hs⟩
  have HWR2 := Lib.hid (HWR.out.stay hs rfl)
  have HD2 := Lib.hid hd
  clear hcon hd hs q0 q1 ql HD HWR
  have HD := HD2
  have HWR := HWR2
  clear HD2 HWR2
  have q0 := HWR.out.cell (o := 0) rfl
  have q1 := HWR.out.cell (o := 1) rfl
  have ql := HWR.out.lt
  have hcon := duo_now HD.out (by decide +kernel) 0 1 (by decide +kernel)
  go_wp2_with fail
  refine (show Calls Try.prog _ _ _ _ from hcon).mono ?_
  rintro e w6d ⟨rfl, hb⟩
  have HWR2 := Lib.hid (HWR.out.below hb)
  have HD2 := Lib.hid (HD.out.below hb)
  clear hcon hb q0 q1 ql HD HWR
  have HD := HD2
  have HWR := HWR2
  clear HD2 HWR2
  obtain ⟨wq, hwq⟩ : ∃ W, w6d.alloc (.cells #[.int .i64 1, .int .i64 0] 34) = W := ⟨_, rfl⟩
  obtain ⟨go, hgo⟩ : ∃ g, w6d.heap.size = g := ⟨_, rfl⟩
  have hlo : Lit wq go 34 [.int .i64 1, .int .i64 0] := by rw [← hwq, ← hgo]; exact Lit.new w6d _ _
  have hbo : Below w6d.heap.size w6d wq := by rw [← hwq]; exact Below.allocs _ _
  have HD2 := Lib.hid (HD.out.apart (X' := fun k => k = gw ∨ k = go) hbo (fun k hk => hk.imp id (fun h1 => ⟨by omega, by have := hlo.lt; omega⟩)))
  have HWR2 := Lib.hid (HWR.out.below hbo)
  have HOL := Lib.hid hlo
  clear hlo hbo HD HWR
  have HD := HD2
  have HWR := HWR2
  clear HD2 HWR2
  have HWQ := Lib.hid hwq
  have HGO := Lib.hid hgo
  clear hwq hgo
  go_upto_region 7 with (fail)
  rw [HWQ.out, HGO.out]
  clear HWQ HGO
  have hdr := below_drw wq
  try simp only [List.append_eq, List.cons_append, List.nil_append]
  refine RX.wp_region_planG 34 (fun w w' => Below w.heap.size w w') [.it (.pointer (some ⟨gw, 0, none⟩)), .it (.agg #[.int .i64 1, .int .i64 0]), .it (.int .i64 10), .it (.bool false), .it (.bool false), .it (.pointer (some ⟨gw, 0, none⟩)), .it (.pointer (some ⟨gw, 0, none⟩)), .it (.pointer (some ⟨gw, 0, none⟩)), .it (.pointer (some ⟨gw, 1, none⟩)), .it (.pointer (some ⟨t, 0, none⟩)), .it (.int .i64 2), .it (.agg #[.int .i64 1, .int .i64 2]), .it (.int .i64 20), .it (.bool false), .it (.bool false), .it (.bool false), .it (.pointer (some ⟨gw, 0, none⟩)), .it (.pointer (some ⟨gw, 0, none⟩)), .it (.pointer (some ⟨gw, 0, none⟩)), .it (.pointer (some ⟨h, 0, none⟩)), .it (.pointer (some ⟨gw, 0, none⟩)), .it (.pointer (some ⟨gw, 0, none⟩)), .it (.pointer (some ⟨gw, 1, none⟩)), .it (.pointer (some ⟨t, 0, none⟩)), .it (.agg #[.int .i64 1, .int .i64 0]), .it (.bool true), .it (.bool false), .it (.bool false), .it (.bool false), .it (.pointer (some ⟨gw, 0, none⟩)), .it (.pointer (some ⟨gw, 0, none⟩)), .it (.pointer (some ⟨gw, 1, none⟩)), .it (.pointer (some ⟨t, 0, none⟩)), .it (.int .i64 2)] mixed (by kernel_rfl) (fun _ => Below.refl _ _) (fun _ _ _ => below_tr) ?_
  simp only [List.take_succ_cons, List.take_zero, List.drop_succ_cons, List.drop_zero]
  refine RX.seqP_value (fun _ => Below.refl _ _) _ (by first | rfl | simp) (fun w' hw' hctx => by (go_simp); (try first | with_reducible rfl | simp)) ?_
  simp only [Act.put, List.setIfInBounds_toArray, List.set_cons_zero, List.set_cons_succ]
  refine RX.seqP_value (fun _ => Below.refl _ _) _ (by first | rfl | simp) (fun w' hw' hctx => ?_) ?_
  · have o0 := (HOL.out.below (below_tr hdr hw')).cell (o := 0) rfl
    have o1 := (HOL.out.below (below_tr hdr hw')).cell (o := 1) rfl
    have ol := (HOL.out.below (below_tr hdr hw')).lt
    go_simp
    try first | with_reducible rfl | simp
  simp only [Act.put, List.setIfInBounds_toArray, List.set_cons_zero, List.set_cons_succ]
  refine RX.seqP_call (14) #[.pointer (some ⟨gw, 0, none⟩), .agg #[.int .i64 1, .int .i64 0], .int .i64 1] (.int .i64 10) (by first | rfl | simp) (fun w' hw' hctx => ?_) (fun w' hw' hctx => wseen_is (HD.out.below (below_tr hdr hw')) (by decide +kernel) (by omega) gw (HWR.out.below (below_tr hdr hw')) 1 0 1 10 i64_1 (by decide +kernel) aa2_one) ?_
  · go_simp
  simp only [Act.put, List.setIfInBounds_toArray, List.set_cons_zero, List.set_cons_succ]
  refine RX.seqP_value (fun _ => Below.refl _ _) _ (by first | rfl | simp) (fun w' hw' hctx => by (go_simp); (try first | with_reducible rfl | simp)) ?_
  simp only [Act.put, List.setIfInBounds_toArray, List.set_cons_zero, List.set_cons_succ]
  refine RX.seqP_value (fun _ => Below.refl _ _) _ (by first | rfl | simp) (fun w' hw' hctx => by (go_simp); (try first | with_reducible rfl | simp)) ?_
  simp only [Act.put, List.setIfInBounds_toArray, List.set_cons_zero, List.set_cons_succ]
  refine RX.seqP_value (fun _ => Below.refl _ _) _ (by first | rfl | simp) (fun w' hw' hctx => by (go_simp); (try first | with_reducible rfl | simp)) ?_
  simp only [Act.put, List.setIfInBounds_toArray, List.set_cons_zero, List.set_cons_succ]
  refine RX.seqP_value (fun _ => Below.refl _ _) _ (by first | rfl | simp) (fun w' hw' hctx => by (go_simp); (try first | with_reducible rfl | simp)) ?_
  simp only [Act.put, List.setIfInBounds_toArray, List.set_cons_zero, List.set_cons_succ]
  refine RX.seqP_value (fun _ => Below.refl _ _) _ (by first | rfl | simp) (fun w' hw' hctx => by (go_simp); (try first | with_reducible rfl | simp)) ?_
  simp only [Act.put, List.setIfInBounds_toArray, List.set_cons_zero, List.set_cons_succ]
  refine RX.seqP_value (fun _ => Below.refl _ _) _ (by first | rfl | simp) (fun w' hw' hctx => by (go_simp); (try first | with_reducible rfl | simp)) ?_
  simp only [Act.put, List.setIfInBounds_toArray, List.set_cons_zero, List.set_cons_succ]
  refine RX.seqP_value (fun _ => Below.refl _ _) _ (by first | rfl | simp) (fun w' hw' hctx => ?_) ?_
  · have q1 := (HWR.out.below (below_tr hdr hw')).cell (o := 1) rfl
    have ql := (HWR.out.below (below_tr hdr hw')).lt
    go_simp
    try first | with_reducible rfl | simp
  simp only [Act.put, List.setIfInBounds_toArray, List.set_cons_zero, List.set_cons_succ]
  refine RX.seqP_value (fun _ => Below.refl _ _) _ (by first | rfl | simp) (fun w' hw' hctx => by (go_simp); (try first | with_reducible rfl | simp)) ?_
  simp only [Act.put, List.setIfInBounds_toArray, List.set_cons_zero, List.set_cons_succ]
  refine RX.seqP_call (9) #[.pointer (some ⟨t, 0, none⟩), .int .i64 2] (.agg #[.int .i64 1, .int .i64 2]) (by first | rfl | simp) (fun w' hw' hctx => ?_) (fun w' hw' hctx => duo_now (HD.out.below (below_tr hdr hw')) (by decide +kernel) 2 1 (by decide +kernel)) ?_
  · go_simp
  simp only [Act.put, List.setIfInBounds_toArray, List.set_cons_zero, List.set_cons_succ]
  refine RX.seqP_call (14) #[.pointer (some ⟨gw, 0, none⟩), .agg #[.int .i64 1, .int .i64 2], .int .i64 1] (.int .i64 20) (by first | rfl | simp) (fun w' hw' hctx => ?_) (fun w' hw' hctx => wseen_is (HD.out.below (below_tr hdr hw')) (by decide +kernel) (by omega) gw (HWR.out.below (below_tr hdr hw')) 1 2 1 20 i64_1 (by decide +kernel) aa2_one) ?_
  · go_simp
  simp only [Act.put, List.setIfInBounds_toArray, List.set_cons_zero, List.set_cons_succ]
  refine RX.seqP_value (fun _ => Below.refl _ _) _ (by first | rfl | simp) (fun w' hw' hctx => by (go_simp); (try first | with_reducible rfl | simp)) ?_
  simp only [Act.put, List.setIfInBounds_toArray, List.set_cons_zero, List.set_cons_succ]
  refine RX.seqP_value (fun _ => Below.refl _ _) _ (by first | rfl | simp) (fun w' hw' hctx => by (go_simp); (try first | with_reducible rfl | simp)) ?_
  simp only [Act.put, List.setIfInBounds_toArray, List.set_cons_zero, List.set_cons_succ]
  refine RX.seqP_value (fun _ => Below.refl _ _) _ (by first | rfl | simp) (fun w' hw' hctx => by (go_simp); (try first | with_reducible rfl | simp)) ?_
  simp only [Act.put, List.setIfInBounds_toArray, List.set_cons_zero, List.set_cons_succ]
  refine RX.seqP_value (fun _ => Below.refl _ _) _ (by first | rfl | simp) (fun w' hw' hctx => by (go_simp); (try first | with_reducible rfl | simp)) ?_
  simp only [Act.put, List.setIfInBounds_toArray, List.set_cons_zero, List.set_cons_succ]
  refine RX.seqP_value (fun _ => Below.refl _ _) _ (by first | rfl | simp) (fun w' hw' hctx => by (go_simp); (try first | with_reducible rfl | simp)) ?_
  simp only [Act.put, List.setIfInBounds_toArray, List.set_cons_zero, List.set_cons_succ]
  refine RX.seqP_value (fun _ => Below.refl _ _) _ (by first | rfl | simp) (fun w' hw' hctx => by (go_simp); (try first | with_reducible rfl | simp)) ?_
  simp only [Act.put, List.setIfInBounds_toArray, List.set_cons_zero, List.set_cons_succ]
  refine RX.seqP_value (fun _ => Below.refl _ _) _ (by first | rfl | simp) (fun w' hw' hctx => ?_) ?_
  · have q0 := (HWR.out.below (below_tr hdr hw')).cell (o := 0) rfl
    have ql := (HWR.out.below (below_tr hdr hw')).lt
    go_simp
    try first | with_reducible rfl | simp
  simp only [Act.put, List.setIfInBounds_toArray, List.set_cons_zero, List.set_cons_succ]
  refine RX.seqP_value (fun _ => Below.refl _ _) _ (by first | rfl | simp) (fun w' hw' hctx => by (go_simp); (try first | with_reducible rfl | simp)) ?_
  simp only [Act.put, List.setIfInBounds_toArray, List.set_cons_zero, List.set_cons_succ]
  refine RX.seqP_value (fun _ => Below.refl _ _) _ (by first | rfl | simp) (fun w' hw' hctx => by (go_simp); (try first | with_reducible rfl | simp)) ?_
  simp only [Act.put, List.setIfInBounds_toArray, List.set_cons_zero, List.set_cons_succ]
  refine RX.seqP_value (fun _ => Below.refl _ _) _ (by first | rfl | simp) (fun w' hw' hctx => by (go_simp); (try first | with_reducible rfl | simp)) ?_
  simp only [Act.put, List.setIfInBounds_toArray, List.set_cons_zero, List.set_cons_succ]
  refine RX.seqP_value (fun _ => Below.refl _ _) _ (by first | rfl | simp) (fun w' hw' hctx => ?_) ?_
  · have q1 := (HWR.out.below (below_tr hdr hw')).cell (o := 1) rfl
    have ql := (HWR.out.below (below_tr hdr hw')).lt
    go_simp
    try first | with_reducible rfl | simp
  simp only [Act.put, List.setIfInBounds_toArray, List.set_cons_zero, List.set_cons_succ]
  refine RX.seqP_value (fun _ => Below.refl _ _) _ (by first | rfl | simp) (fun w' hw' hctx => ?_) ?_
  · have o0 := (HOL.out.below (below_tr hdr hw')).cell (o := 0) rfl
    have o1 := (HOL.out.below (below_tr hdr hw')).cell (o := 1) rfl
    have ol := (HOL.out.below (below_tr hdr hw')).lt
    go_simp
    try first | with_reducible rfl | simp
  simp only [Act.put, List.setIfInBounds_toArray, List.set_cons_zero, List.set_cons_succ]
  refine RX.seqP_call (20) #[.pointer (some ⟨h, 0, none⟩), .pointer (some ⟨t, 0, none⟩), .agg #[.int .i64 1, .int .i64 0], .int .i64 1, .int .i64 1] (.bool true) (by first | rfl | simp) (fun w' hw' hctx => ?_) (fun w' hw' hctx => duo_fresh (HD.out.below (below_tr hdr hw')) (by decide +kernel) (by omega) 1 0 1 1 i64_1 i64_1 true (by decide +kernel)) ?_
  · go_simp
  simp only [Act.put, List.setIfInBounds_toArray, List.set_cons_zero, List.set_cons_succ]
  refine RX.seqP_value (fun _ => Below.refl _ _) _ (by first | rfl | simp) (fun w' hw' hctx => by (go_simp); (try first | with_reducible rfl | simp)) ?_
  simp only [Act.put, List.setIfInBounds_toArray, List.set_cons_zero, List.set_cons_succ]
  refine RX.seqP_value (fun _ => Below.refl _ _) _ (by first | rfl | simp) (fun w' hw' hctx => by (go_simp); (try first | with_reducible rfl | simp)) ?_
  simp only [Act.put, List.setIfInBounds_toArray, List.set_cons_zero, List.set_cons_succ]
  refine RX.seqP_value (fun _ => Below.refl _ _) _ (by first | rfl | simp) (fun w' hw' hctx => by (go_simp); (try first | with_reducible rfl | simp)) ?_
  simp only [Act.put, List.setIfInBounds_toArray, List.set_cons_zero, List.set_cons_succ]
  refine RX.seqP_value (fun _ => Below.refl _ _) _ (by first | rfl | simp) (fun w' hw' hctx => by (go_simp); (try first | with_reducible rfl | simp)) ?_
  simp only [Act.put, List.setIfInBounds_toArray, List.set_cons_zero, List.set_cons_succ]
  refine RX.seqP_value (fun _ => Below.refl _ _) _ (by first | rfl | simp) (fun w' hw' hctx => by (go_simp); (try first | with_reducible rfl | simp)) ?_
  simp only [Act.put, List.setIfInBounds_toArray, List.set_cons_zero, List.set_cons_succ]
  refine RX.seqP_value (fun _ => Below.refl _ _) _ (by first | rfl | simp) (fun w' hw' hctx => by (go_simp); (try first | with_reducible rfl | simp)) ?_
  simp only [Act.put, List.setIfInBounds_toArray, List.set_cons_zero, List.set_cons_succ]
  refine RX.seqP_value (fun _ => Below.refl _ _) _ (by first | rfl | simp) (fun w' hw' hctx => ?_) ?_
  · have q1 := (HWR.out.below (below_tr hdr hw')).cell (o := 1) rfl
    have ql := (HWR.out.below (below_tr hdr hw')).lt
    go_simp
    try first | with_reducible rfl | simp
  simp only [Act.put, List.setIfInBounds_toArray, List.set_cons_zero, List.set_cons_succ]
  refine RX.seqP_value (fun _ => Below.refl _ _) _ (by first | rfl | simp) (fun w' hw' hctx => by (go_simp); (try first | with_reducible rfl | simp)) ?_
  simp only [Act.put, List.setIfInBounds_toArray, List.set_cons_zero, List.set_cons_succ]
  refine RX.seqP_nil (fun w7 hR hctx _ => ?_)
  have hb7 := below_tr hdr hR
  have HB7 := Lib.hid hb7
  have HD2 := Lib.hid (HD.out.below hb7)
  have HWR2 := Lib.hid (HWR.out.below hb7)
  have HOL2 := Lib.hid (HOL.out.below hb7)
  clear hctx hR hb7 hdr HD HWR HOL HB7
  have HD := HD2
  have HWR := HWR2
  have HOL := HOL2
  clear HD2 HWR2 HOL2
  unfold RX.lastQ
  have hcon := duo_commit (T' := ta4) (b := 0) HD.out (by decide +kernel) (by decide +kernel) 2 (by decide +kernel) (by decide +kernel) rfl
  go_wp2_with fail
  refine (show Calls Try.prog _ _ _ _ from hcon).mono ?_
  rintro e wq2 ⟨rfl, hd, hs⟩
  have HWR2 := Lib.hid (HWR.out.stay hs (.inl rfl))
  have HOL2 := Lib.hid (HOL.out.stay hs (.inr rfl))
  have HD2 := Lib.hid hd
  clear hcon hd hs HD HWR HOL
  have HD := HD2
  have HWR := HWR2
  have HOL := HOL2
  clear HD2 HWR2 HOL2
  obtain ⟨wq, rfl⟩ : ∃ wq, wq = wq2 := ⟨_, rfl⟩
  go_upto_region 9 with (fail)
  have hdr := below_drw wq
  try simp only [List.append_eq, List.cons_append, List.nil_append]
  refine RX.wp_region_plan (fun w w' => Below w.heap.size w w') [.it (.pointer (some ⟨gw, 0, none⟩)), .it (.agg #[.int .i64 1, .int .i64 0]), .it (.int .i64 10), .it (.bool true), .it (.bool true), .it (.pointer (some ⟨gw, 0, none⟩)), .it (.pointer (some ⟨gw, 0, none⟩)), .it (.pointer (some ⟨gw, 0, none⟩)), .it (.pointer (some ⟨gw, 1, none⟩)), .it (.pointer (some ⟨t, 0, none⟩)), .it (.agg #[.int .i64 2, .int .i64 0]), .it (.int .i64 20), .it (.bool true), .it (.bool true), .it (.bool true), .it (.pointer (some ⟨gw, 0, none⟩)), .it (.pointer (some ⟨gw, 0, none⟩)), .it (.pointer (some ⟨gw, 0, none⟩)), .it (.pointer (some ⟨h, 0, none⟩)), .it (.pointer (some ⟨gw, 0, none⟩)), .it (.pointer (some ⟨gw, 0, none⟩)), .it (.pointer (some ⟨gw, 1, none⟩)), .it (.pointer (some ⟨t, 0, none⟩)), .it (.agg #[.int .i64 1, .int .i64 0]), .it (.bool false), .it (.bool true), .it (.bool true), .it (.bool true)] (by kernel_rfl) (by kernel_rfl) (fun _ => Below.refl _ _) (fun _ _ _ => below_tr) ?_
  refine RX.seqP_value (fun _ => Below.refl _ _) _ (by first | rfl | simp) (fun w' hw' hctx => by (go_simp); (try first | with_reducible rfl | simp)) ?_
  simp only [Act.put, List.setIfInBounds_toArray, List.set_cons_zero, List.set_cons_succ]
  refine RX.seqP_value (fun _ => Below.refl _ _) _ (by first | rfl | simp) (fun w' hw' hctx => ?_) ?_
  · have o0 := (HOL.out.below (below_tr hdr hw')).cell (o := 0) rfl
    have o1 := (HOL.out.below (below_tr hdr hw')).cell (o := 1) rfl
    have ol := (HOL.out.below (below_tr hdr hw')).lt
    go_simp
    try first | with_reducible rfl | simp
  simp only [Act.put, List.setIfInBounds_toArray, List.set_cons_zero, List.set_cons_succ]
  refine RX.seqP_call (14) #[.pointer (some ⟨gw, 0, none⟩), .agg #[.int .i64 1, .int .i64 0], .int .i64 1] (.int .i64 10) (by first | rfl | simp) (fun w' hw' hctx => ?_) (fun w' hw' hctx => wseen_is (HD.out.below (below_tr hdr hw')) (by decide +kernel) (by omega) gw (HWR.out.below (below_tr hdr hw')) 1 0 1 10 i64_1 (by decide +kernel) aa2_one) ?_
  · go_simp
  simp only [Act.put, List.setIfInBounds_toArray, List.set_cons_zero, List.set_cons_succ]
  refine RX.seqP_value (fun _ => Below.refl _ _) _ (by first | rfl | simp) (fun w' hw' hctx => by (go_simp); (try first | with_reducible rfl | simp)) ?_
  simp only [Act.put, List.setIfInBounds_toArray, List.set_cons_zero, List.set_cons_succ]
  refine RX.seqP_value (fun _ => Below.refl _ _) _ (by first | rfl | simp) (fun w' hw' hctx => by (go_simp); (try first | with_reducible rfl | simp)) ?_
  simp only [Act.put, List.setIfInBounds_toArray, List.set_cons_zero, List.set_cons_succ]
  refine RX.seqP_value (fun _ => Below.refl _ _) _ (by first | rfl | simp) (fun w' hw' hctx => by (go_simp); (try first | with_reducible rfl | simp)) ?_
  simp only [Act.put, List.setIfInBounds_toArray, List.set_cons_zero, List.set_cons_succ]
  refine RX.seqP_value (fun _ => Below.refl _ _) _ (by first | rfl | simp) (fun w' hw' hctx => by (go_simp); (try first | with_reducible rfl | simp)) ?_
  simp only [Act.put, List.setIfInBounds_toArray, List.set_cons_zero, List.set_cons_succ]
  refine RX.seqP_value (fun _ => Below.refl _ _) _ (by first | rfl | simp) (fun w' hw' hctx => by (go_simp); (try first | with_reducible rfl | simp)) ?_
  simp only [Act.put, List.setIfInBounds_toArray, List.set_cons_zero, List.set_cons_succ]
  refine RX.seqP_value (fun _ => Below.refl _ _) _ (by first | rfl | simp) (fun w' hw' hctx => by (go_simp); (try first | with_reducible rfl | simp)) ?_
  simp only [Act.put, List.setIfInBounds_toArray, List.set_cons_zero, List.set_cons_succ]
  refine RX.seqP_value (fun _ => Below.refl _ _) _ (by first | rfl | simp) (fun w' hw' hctx => ?_) ?_
  · have q1 := (HWR.out.below (below_tr hdr hw')).cell (o := 1) rfl
    have ql := (HWR.out.below (below_tr hdr hw')).lt
    go_simp
    try first | with_reducible rfl | simp
  simp only [Act.put, List.setIfInBounds_toArray, List.set_cons_zero, List.set_cons_succ]
  refine RX.seqP_call (9) #[.pointer (some ⟨t, 0, none⟩), .int .i64 0] (.agg #[.int .i64 2, .int .i64 0]) (by first | rfl | simp) (fun w' hw' hctx => ?_) (fun w' hw' hctx => duo_now (HD.out.below (below_tr hdr hw')) (by decide +kernel) 0 2 (by decide +kernel)) ?_
  · go_simp
  simp only [Act.put, List.setIfInBounds_toArray, List.set_cons_zero, List.set_cons_succ]
  refine RX.seqP_call (14) #[.pointer (some ⟨gw, 0, none⟩), .agg #[.int .i64 2, .int .i64 0], .int .i64 1] (.int .i64 20) (by first | rfl | simp) (fun w' hw' hctx => ?_) (fun w' hw' hctx => wseen_is (HD.out.below (below_tr hdr hw')) (by decide +kernel) (by omega) gw (HWR.out.below (below_tr hdr hw')) 2 0 1 20 i64_1 (by decide +kernel) aa2_one) ?_
  · go_simp
  simp only [Act.put, List.setIfInBounds_toArray, List.set_cons_zero, List.set_cons_succ]
  refine RX.seqP_value (fun _ => Below.refl _ _) _ (by first | rfl | simp) (fun w' hw' hctx => by (go_simp); (try first | with_reducible rfl | simp)) ?_
  simp only [Act.put, List.setIfInBounds_toArray, List.set_cons_zero, List.set_cons_succ]
  refine RX.seqP_value (fun _ => Below.refl _ _) _ (by first | rfl | simp) (fun w' hw' hctx => by (go_simp); (try first | with_reducible rfl | simp)) ?_
  simp only [Act.put, List.setIfInBounds_toArray, List.set_cons_zero, List.set_cons_succ]
  refine RX.seqP_value (fun _ => Below.refl _ _) _ (by first | rfl | simp) (fun w' hw' hctx => by (go_simp); (try first | with_reducible rfl | simp)) ?_
  simp only [Act.put, List.setIfInBounds_toArray, List.set_cons_zero, List.set_cons_succ]
  refine RX.seqP_value (fun _ => Below.refl _ _) _ (by first | rfl | simp) (fun w' hw' hctx => by (go_simp); (try first | with_reducible rfl | simp)) ?_
  simp only [Act.put, List.setIfInBounds_toArray, List.set_cons_zero, List.set_cons_succ]
  refine RX.seqP_value (fun _ => Below.refl _ _) _ (by first | rfl | simp) (fun w' hw' hctx => by (go_simp); (try first | with_reducible rfl | simp)) ?_
  simp only [Act.put, List.setIfInBounds_toArray, List.set_cons_zero, List.set_cons_succ]
  refine RX.seqP_value (fun _ => Below.refl _ _) _ (by first | rfl | simp) (fun w' hw' hctx => by (go_simp); (try first | with_reducible rfl | simp)) ?_
  simp only [Act.put, List.setIfInBounds_toArray, List.set_cons_zero, List.set_cons_succ]
  refine RX.seqP_value (fun _ => Below.refl _ _) _ (by first | rfl | simp) (fun w' hw' hctx => ?_) ?_
  · have q0 := (HWR.out.below (below_tr hdr hw')).cell (o := 0) rfl
    have ql := (HWR.out.below (below_tr hdr hw')).lt
    go_simp
    try first | with_reducible rfl | simp
  simp only [Act.put, List.setIfInBounds_toArray, List.set_cons_zero, List.set_cons_succ]
  refine RX.seqP_value (fun _ => Below.refl _ _) _ (by first | rfl | simp) (fun w' hw' hctx => by (go_simp); (try first | with_reducible rfl | simp)) ?_
  simp only [Act.put, List.setIfInBounds_toArray, List.set_cons_zero, List.set_cons_succ]
  refine RX.seqP_value (fun _ => Below.refl _ _) _ (by first | rfl | simp) (fun w' hw' hctx => by (go_simp); (try first | with_reducible rfl | simp)) ?_
  simp only [Act.put, List.setIfInBounds_toArray, List.set_cons_zero, List.set_cons_succ]
  refine RX.seqP_value (fun _ => Below.refl _ _) _ (by first | rfl | simp) (fun w' hw' hctx => by (go_simp); (try first | with_reducible rfl | simp)) ?_
  simp only [Act.put, List.setIfInBounds_toArray, List.set_cons_zero, List.set_cons_succ]
  refine RX.seqP_value (fun _ => Below.refl _ _) _ (by first | rfl | simp) (fun w' hw' hctx => ?_) ?_
  · have q1 := (HWR.out.below (below_tr hdr hw')).cell (o := 1) rfl
    have ql := (HWR.out.below (below_tr hdr hw')).lt
    go_simp
    try first | with_reducible rfl | simp
  simp only [Act.put, List.setIfInBounds_toArray, List.set_cons_zero, List.set_cons_succ]
  refine RX.seqP_value (fun _ => Below.refl _ _) _ (by first | rfl | simp) (fun w' hw' hctx => ?_) ?_
  · have o0 := (HOL.out.below (below_tr hdr hw')).cell (o := 0) rfl
    have o1 := (HOL.out.below (below_tr hdr hw')).cell (o := 1) rfl
    have ol := (HOL.out.below (below_tr hdr hw')).lt
    go_simp
    try first | with_reducible rfl | simp
  simp only [Act.put, List.setIfInBounds_toArray, List.set_cons_zero, List.set_cons_succ]
  refine RX.seqP_call (20) #[.pointer (some ⟨h, 0, none⟩), .pointer (some ⟨t, 0, none⟩), .agg #[.int .i64 1, .int .i64 0], .int .i64 1, .int .i64 1] (.bool false) (by first | rfl | simp) (fun w' hw' hctx => ?_) (fun w' hw' hctx => duo_fresh (HD.out.below (below_tr hdr hw')) (by decide +kernel) (by omega) 1 0 1 1 i64_1 i64_1 false (by decide +kernel)) ?_
  · go_simp
  simp only [Act.put, List.setIfInBounds_toArray, List.set_cons_zero, List.set_cons_succ]
  refine RX.seqP_value (fun _ => Below.refl _ _) _ (by first | rfl | simp) (fun w' hw' hctx => by (go_simp); (try first | with_reducible rfl | simp)) ?_
  simp only [Act.put, List.setIfInBounds_toArray, List.set_cons_zero, List.set_cons_succ]
  refine RX.seqP_value (fun _ => Below.refl _ _) _ (by first | rfl | simp) (fun w' hw' hctx => by (go_simp); (try first | with_reducible rfl | simp)) ?_
  simp only [Act.put, List.setIfInBounds_toArray, List.set_cons_zero, List.set_cons_succ]
  refine RX.seqP_value (fun _ => Below.refl _ _) _ (by first | rfl | simp) (fun w' hw' hctx => by (go_simp); (try first | with_reducible rfl | simp)) ?_
  simp only [Act.put, List.setIfInBounds_toArray, List.set_cons_zero]
  refine RX.seqP_nil (fun w9 hR hctx _ => ?_)
  have hb9 := below_tr hdr hR
  clear hctx hR
  have HE := Lib.hid (HD.out.below hb9).bel
  clear hb9 hdr
  go_wp2_with fail
  go_ret
  exact ⟨rfl, HE.out⟩

end Go.Proofs.Ytbgnbaogclnpgaa
