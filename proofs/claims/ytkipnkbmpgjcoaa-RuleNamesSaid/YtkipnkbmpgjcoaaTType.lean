/-
  expr.Type (stage 8): the type of an expression over columns.
-/
import Derived.Test.YtkipnkbmpgjcoaaTWork
import Derived.Test.YtkipnkbmpgjcoaaTMay
namespace Go.Proofs.Ytkipnkbmpgjcoaa
open Go.RowKit

/-- What Type answers for an expression over columns of these types. -/
def typeR (l : List Int) (e : Ex) : Int × Int := if validB mayV (hasBelow l.length) e = true then foldT l e else (0, 4)

/-- The world behind Type's first step. -/
theorem boxEC (w : World) (e : Ex) (a : Option Addr) (n c : Nat) : ∃ W g, w.heap.size = g ∧ (w.alloc (.cells #[.int .u8 e.op, .int .u8 e.v.k, .int .i64 e.v.n, .int .i64 e.v.u, .string e.v.t, .int .i64 e.m, .slice e.a e.len e.cap] 27)).alloc (.cells #[.slice a n c] 30) = W ∧
    BoxE W g e ∧ W.cell? ⟨g + 1, 0, none⟩ = some (.slice a n c) ∧ Below w.heap.size w W ∧ W.heap.size = g + 1 + 1 := by
  refine ⟨_, _, rfl, rfl, ⟨?_, ?_, ?_, ?_, ?_, ?_, ?_, by simp <;> omega⟩, ?_, ((Below.refl _ w).alloc (Nat.le_refl _) _).alloc (by simp) _, by simp⟩ <;> go_simp

/-- The check of a column, as a value. -/
def BelowV (n : Nat) (w : World) (v : Value) : Prop := ∃ g, v = .func (.func 94) #[] #[.pointer (some ⟨g, 0, none⟩)] ∧ g < w.heap.size ∧ w.cell? ⟨g, 0, none⟩ = some (.int .i64 n)
theorem BelowV.below {n : Nat} {w w' : World} {v : Value} (hb : Below w.heap.size w w') (h : BelowV n w v) : BelowV n w' v := by
  obtain ⟨g, e, hg, hc⟩ := h
  exact ⟨g, e, Nat.lt_of_lt_of_le hg hb.size, by rw [hb.cell hg]; exact hc⟩

theorem below_of (n : Nat) (w : World) : Calls Try.prog 79 #[.int .i64 n] w fun e w' => ∃ v, e = .returned v ∧ Below w.heap.size w w' ∧ BelowV n w' v :=
  (belowf_is n w).mono fun _ _ ⟨⟨g, h1, h2, _, h3⟩, hb⟩ => ⟨_, h1, hb, g, rfl, h2, h3⟩

/-- expr.valid, handed a check that expr.below has made. -/
theorem valid_of (e : Ex) (n : Nat) (v : Value) (w : World) (hin : e.In w) (hv : BelowV n w v) (b : Bool) (hb : validB mayV (hasBelow n) e = b) :
    Calls Try.prog 78 #[.agg #[.int .u8 e.op, .int .u8 e.v.k, .int .i64 e.v.n, .int .i64 e.v.u, .string e.v.t, .int .i64 e.m, .slice e.a e.len e.cap], v] w fun x w' => x = .returned (.bool b) ∧ Below w.heap.size w w' := by
  obtain ⟨g, rfl, hg, hc⟩ := hv
  exact valid_is e _ _ _ w hin (below_is w g n hg hc) b hb

set_option maxRecDepth 100000 in
set_option maxHeartbeats 2000000 in
theorem type_bad (e : Ex) (a : Option Addr) (n c : Nat) (l : List Col) (hn : l.length = n) (w : World) (hin : e.In w) (hrin : SlC w a c l) (hv : validB mayV (hasBelow n) e = false) :
    Calls Try.prog 64 #[.agg #[.int .u8 e.op, .int .u8 e.v.k, .int .i64 e.v.n, .int .i64 e.v.u, .string e.v.t, .int .i64 e.m, .slice e.a e.len e.cap], .slice a n c] w fun x w' => x = .returned (.tuple #[.int .u8 0, .int .i64 4]) ∧ Below w.heap.size w w' := by
  obtain ⟨W, g, hg, hW, B, hc, hb, hs⟩ := boxEC w e a n c
  have HG := Lib.hid hg
  have HE := Lib.hid B
  have HC := Lib.hid hc
  have HB := Lib.hid hb
  have HV := Lib.hid hv
  have HN := Lib.hid hn
  have HIN := Lib.hid (hin.below hb)
  have HRIN := Lib.hid (hrin.below hb)
  have hlt : g + 1 < W.heap.size := by omega
  clear hb hs hv B hc hin hrin hn
  go_enter Try.func64, Try.ntmps64
  go_wp2_with fail
  have hdr := below_drw W
  refine RX.wp_region_plan (fun w w' => Below w.heap.size w w') [.it (.agg #[.int .u8 e.op, .int .u8 e.v.k, .int .i64 e.v.n, .int .i64 e.v.u, .string e.v.t, .int .i64 e.m, .slice e.a e.len e.cap]), .it (.slice a n c), .it (.int .i64 n), .of (BelowV n), .it (.bool false), .it (.bool true)] (by kernel_rfl) (by kernel_rfl) (fun _ => Below.refl _ _) (fun _ _ _ => below_tr) ?_
  refine RX.seqP_value (fun _ => Below.refl _ _) _ (by first | rfl | simp) (fun w' hw' hctx => ?_) ?_
  · obtain ⟨c0, c1, c2, c3, c4, c5, c6, c7⟩ := HE.out.below (below_tr hdr hw')
    go_simp
    try first | with_reducible rfl | simp
  simp only [Act.put, List.setIfInBounds_toArray, List.set_cons_zero, List.set_cons_succ]
  refine RX.seqP_value (fun _ => Below.refl _ _) _ (by first | rfl | simp) (fun w' hw' hctx => ?_) ?_
  · have c0 : w'.cell? ⟨g + 1, 0, none⟩ = some (.slice a n c) := by rw [(below_tr hdr hw').cell hlt]; exact HC.out
    go_simp
    try first | with_reducible rfl | simp
  simp only [Act.put, List.setIfInBounds_toArray, List.set_cons_zero, List.set_cons_succ]
  refine RX.seqP_value (fun _ => Below.refl _ _) _ (by first | rfl | simp) (fun w' hw' hctx => by (go_simp); (try first | with_reducible rfl | simp)) ?_
  simp only [Act.put, List.setIfInBounds_toArray, List.set_cons_zero, List.set_cons_succ]
  refine RX.seqP_callOf (79) #[.int .i64 n] (BelowV n) (fun w w' v hb h => h.below hb) (by first | rfl | simp) (fun w' hw' hctx => ?_) (fun w' hw' hctx => below_of n w') (fun u3 => ?_)
  · go_simp
  simp only [Act.put, List.setIfInBounds_toArray, List.set_cons_zero, List.set_cons_succ]
  refine RX.seqP_call (78) #[.agg #[.int .u8 e.op, .int .u8 e.v.k, .int .i64 e.v.n, .int .i64 e.v.u, .string e.v.t, .int .i64 e.m, .slice e.a e.len e.cap], u3] (.bool false) (by first | rfl | simp) (fun w' hw' hctx => ?_) (fun w' hw' hctx => valid_of e n u3 w' (HIN.out.below (below_tr hdr hw')) hctx.1 false HV.out) ?_
  · go_simp
  simp only [Act.put, List.setIfInBounds_toArray, List.set_cons_zero, List.set_cons_succ]
  refine RX.seqP_value (fun _ => Below.refl _ _) _ (by first | rfl | simp) (fun w' hw' hctx => by (go_simp); (try first | with_reducible rfl | simp)) ?_
  simp only [Act.put, List.setIfInBounds_toArray, List.set_cons_zero, List.set_cons_succ]
  refine RX.seqP_nil (fun v1 hR hctx _ => ?_)
  have hv1 := below_tr hdr hR
  clear hctx hR
  have HB1 := Lib.hid (below_tr HB.out hv1)
  have HIN1 := Lib.hid (HIN.out.below hv1)
  have HRIN1 := Lib.hid (HRIN.out.below hv1)
  have HE1 := Lib.hid (HE.out.below hv1)
  have hc1 : v1.cell? ⟨g + 1, 0, none⟩ = some (.slice a n c) := by rw [hv1.cell hlt]; exact HC.out
  have hl1 : g + 1 < v1.heap.size := Nat.lt_of_lt_of_le hlt hv1.size
  clear hv1 hdr
  go_wp2_with fail
  go_ret2
  first | exact ⟨rfl, HB1.out⟩ | exact ⟨rfl, HG.out ▸ HB1.out⟩

set_option maxRecDepth 100000 in
set_option maxHeartbeats 2000000 in
theorem type_good (e : Ex) (a : Option Addr) (n c : Nat) (l : List Col) (hn : l.length = n) (w : World) (hin : e.In w) (hrin : SlC w a c l) (hv : validB mayV (hasBelow n) e = true) (v f : Int) (hr : foldT (tys l) e = (v, f)) :
    Calls Try.prog 64 #[.agg #[.int .u8 e.op, .int .u8 e.v.k, .int .i64 e.v.n, .int .i64 e.v.u, .string e.v.t, .int .i64 e.m, .slice e.a e.len e.cap], .slice a n c] w fun x w' => x = .returned (.tuple #[.int .u8 v, .int .i64 f]) ∧ Below w.heap.size w w' := by
  obtain ⟨W, g, hg, hW, B, hc, hb, hs⟩ := boxEC w e a n c
  have HG := Lib.hid hg
  have HE := Lib.hid B
  have HC := Lib.hid hc
  have HB := Lib.hid hb
  have HV := Lib.hid hv
  have HN := Lib.hid hn
  have HIN := Lib.hid (hin.below hb)
  have HRIN := Lib.hid (hrin.below hb)
  have hlt : g + 1 < W.heap.size := by omega
  clear hb hs hv B hc hin hrin hn
  go_enter Try.func64, Try.ntmps64
  go_wp2_with fail
  have hdr := below_drw W
  refine RX.wp_region_plan (fun w w' => Below w.heap.size w w') [.it (.agg #[.int .u8 e.op, .int .u8 e.v.k, .int .i64 e.v.n, .int .i64 e.v.u, .string e.v.t, .int .i64 e.m, .slice e.a e.len e.cap]), .it (.slice a n c), .it (.int .i64 n), .of (BelowV n), .it (.bool true), .it (.bool false)] (by kernel_rfl) (by kernel_rfl) (fun _ => Below.refl _ _) (fun _ _ _ => below_tr) ?_
  refine RX.seqP_value (fun _ => Below.refl _ _) _ (by first | rfl | simp) (fun w' hw' hctx => ?_) ?_
  · obtain ⟨c0, c1, c2, c3, c4, c5, c6, c7⟩ := HE.out.below (below_tr hdr hw')
    go_simp
    try first | with_reducible rfl | simp
  simp only [Act.put, List.setIfInBounds_toArray, List.set_cons_zero, List.set_cons_succ]
  refine RX.seqP_value (fun _ => Below.refl _ _) _ (by first | rfl | simp) (fun w' hw' hctx => ?_) ?_
  · have c0 : w'.cell? ⟨g + 1, 0, none⟩ = some (.slice a n c) := by rw [(below_tr hdr hw').cell hlt]; exact HC.out
    go_simp
    try first | with_reducible rfl | simp
  simp only [Act.put, List.setIfInBounds_toArray, List.set_cons_zero, List.set_cons_succ]
  refine RX.seqP_value (fun _ => Below.refl _ _) _ (by first | rfl | simp) (fun w' hw' hctx => by (go_simp); (try first | with_reducible rfl | simp)) ?_
  simp only [Act.put, List.setIfInBounds_toArray, List.set_cons_zero, List.set_cons_succ]
  refine RX.seqP_callOf (79) #[.int .i64 n] (BelowV n) (fun w w' v hb h => h.below hb) (by first | rfl | simp) (fun w' hw' hctx => ?_) (fun w' hw' hctx => below_of n w') (fun u3 => ?_)
  · go_simp
  simp only [Act.put, List.setIfInBounds_toArray, List.set_cons_zero, List.set_cons_succ]
  refine RX.seqP_call (78) #[.agg #[.int .u8 e.op, .int .u8 e.v.k, .int .i64 e.v.n, .int .i64 e.v.u, .string e.v.t, .int .i64 e.m, .slice e.a e.len e.cap], u3] (.bool true) (by first | rfl | simp) (fun w' hw' hctx => ?_) (fun w' hw' hctx => valid_of e n u3 w' (HIN.out.below (below_tr hdr hw')) hctx.1 true HV.out) ?_
  · go_simp
  simp only [Act.put, List.setIfInBounds_toArray, List.set_cons_zero, List.set_cons_succ]
  refine RX.seqP_value (fun _ => Below.refl _ _) _ (by first | rfl | simp) (fun w' hw' hctx => by (go_simp); (try first | with_reducible rfl | simp)) ?_
  simp only [Act.put, List.setIfInBounds_toArray, List.set_cons_zero, List.set_cons_succ]
  refine RX.seqP_nil (fun v1 hR hctx _ => ?_)
  have hv1 := below_tr hdr hR
  clear hctx hR
  have HB1 := Lib.hid (below_tr HB.out hv1)
  have HIN1 := Lib.hid (HIN.out.below hv1)
  have HRIN1 := Lib.hid (HRIN.out.below hv1)
  have HE1 := Lib.hid (HE.out.below hv1)
  have hc1 : v1.cell? ⟨g + 1, 0, none⟩ = some (.slice a n c) := by rw [hv1.cell hlt]; exact HC.out
  have hl1 : g + 1 < v1.heap.size := Nat.lt_of_lt_of_le hlt hv1.size
  clear hv1 hdr
  have hok : okB mayV (hasBelow n) e = true := by
    have := HV.out
    unfold validB at this
    simp only [Bool.and_eq_true] at this
    exact this.2.2
  have hcon := foldt_is e (g + 1) a n c l HN.out v1 hl1 hc1 HRIN1.out hok HIN1.out v f hr
  obtain ⟨e0, e1, e2, e3, e4, e5, e6, e7⟩ := HE1.out
  clear hc1 hl1 hok hr hlt
  go_wp2_with fail
  refine hcon.mono ?_
  rintro x w2 ⟨rfl, hb2⟩
  have HB2 := Lib.hid (below_tr HB1.out hb2)
  clear hb2 hcon e0 e1 e2 e3 e4 e5 e6 e7
  go_wp2_with fail
  go_ret2
  first | exact ⟨rfl, HB2.out⟩ | exact ⟨rfl, HG.out ▸ HB2.out⟩

theorem type_is (e : Ex) (a : Option Addr) (n c : Nat) (l : List Col) (hn : l.length = n) (w : World) (hin : e.In w) (hrin : SlC w a c l) (v f : Int) (hr : typeR (tys l) e = (v, f)) :
    Calls Try.prog 64 #[.agg #[.int .u8 e.op, .int .u8 e.v.k, .int .i64 e.v.n, .int .i64 e.v.u, .string e.v.t, .int .i64 e.m, .slice e.a e.len e.cap], .slice a n c] w fun x w' => x = .returned (.tuple #[.int .u8 v, .int .i64 f]) ∧ Below w.heap.size w w' := by
  unfold typeR at hr
  rw [show (tys l).length = n by simp [tys, hn]] at hr
  cases hv : validB mayV (hasBelow n) e
  · rw [hv, if_neg (by simp)] at hr
    cases hr
    exact type_bad e a n c l hn w hin hrin hv
  · rw [hv, if_pos rfl] at hr
    exact type_good e a n c l hn w hin hrin hv v f hr
end Go.Proofs.Ytkipnkbmpgjcoaa
