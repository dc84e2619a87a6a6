/-
  ExprPut: the walk of the law.
-/
import Derived.Test.YtflclkmhdngmaaaEWorks
import Derived.Test.YtflclkmhdngmaaaESize
import Derived.Test.YtflclkmhdngmaaaEPut
namespace Go.Proofs.Ytflclkmhdngmaaa
open Go.RowKit

set_option maxRecDepth 100000 in
set_option maxHeartbeats 8000000 in
theorem put_law_1 (e : Ex) (r : Rw) (w : World) (hin : e.In w) (hr : r.In w) (hla : decide (500 < e.sz) = true) :
    Calls Try.prog 6 #[.agg #[.int .u8 e.op, .int .u8 e.v.k, .int .i64 e.v.n, .int .i64 e.v.u, .string e.v.t, .int .i64 e.m, .slice e.a e.len e.cap], .slice r.a r.len r.cap] w fun x w' => x = .returned (.bool true) ∧ Below w.heap.size w w' := by
  obtain ⟨W, g, hW, hg, BA, hb⟩ := boxE' w e
  have HA := Lib.hid BA
  have HW := Lib.hid hb
  have HIA := Lib.hid (hin.below hb)
  have HR := Lib.hid (hr.below hb)
  have HLA := Lib.hid hla
  clear hin hr hb BA hla
  go_enter Try.func6, Try.ntmps6
  go_wp2_with fail
  refine (works_is _).mono ?_
  rintro _ v0 ⟨rfl, hv0⟩
  obtain ⟨c0, c1, c2, c3, c4, c5, c6, c7⟩ := HA.out.below hv0
  have HI0 := Lib.hid (HIA.out.below hv0)
  have HV0 := Lib.hid hv0
  clear hv0 hW
  go_wp2_with fail
  clear c0 c1 c2 c3 c4 c5 c6 c7
  refine (large_is e _ HI0.out true HLA.out).mono ?_
  rintro _ v1 ⟨rfl, hv1'⟩
  have hv1 := below_tr HV0.out hv1'
  clear hv1' HV0 HI0
  have HF := Lib.hid (below_tr HW.out hv1)
  clear hv1
  go_wp2_with fail
  refine (works_is _).mono ?_
  rintro _ v2 ⟨rfl, hv2⟩
  have HF2 := Lib.hid (below_tr HF.out hv2)
  clear hv2
  go_wp2_with fail
  go_ret
  exact ⟨rfl, HF2.out⟩

set_option maxRecDepth 100000 in
set_option maxHeartbeats 8000000 in
theorem put_law_2 (e : Ex) (r : Rw) (w : World) (hin : e.In w) (hr : r.In w) (hla : decide (500 < e.sz) = false) (hlr : decide (500 < r.len) = true) :
    Calls Try.prog 6 #[.agg #[.int .u8 e.op, .int .u8 e.v.k, .int .i64 e.v.n, .int .i64 e.v.u, .string e.v.t, .int .i64 e.m, .slice e.a e.len e.cap], .slice r.a r.len r.cap] w fun x w' => x = .returned (.bool true) ∧ Below w.heap.size w w' := by
  obtain ⟨W, g, hW, hg, BA, hb⟩ := boxE' w e
  have HA := Lib.hid BA
  have HW := Lib.hid hb
  have HIA := Lib.hid (hin.below hb)
  have HR := Lib.hid (hr.below hb)
  have HLA := Lib.hid hla
  have HLR := Lib.hid hlr
  have hlr1 : decide ((500 : Int) < (r.len : Int)) = true := by rw [← HLR.out, decide_eq_decide]; omega
  clear hin hr hb BA hla hlr
  go_enter Try.func6, Try.ntmps6
  go_wp2_with fail
  refine (works_is _).mono ?_
  rintro _ v0 ⟨rfl, hv0⟩
  obtain ⟨c0, c1, c2, c3, c4, c5, c6, c7⟩ := HA.out.below hv0
  have HI0 := Lib.hid (HIA.out.below hv0)
  have HV0 := Lib.hid hv0
  clear hv0 hW
  go_wp2_with fail
  clear c0 c1 c2 c3 c4 c5 c6 c7
  refine (large_is e _ HI0.out false HLA.out).mono ?_
  rintro _ v1 ⟨rfl, hv1'⟩
  have hv1 := below_tr HV0.out hv1'
  clear hv1' HV0 HI0
  have HF := Lib.hid (below_tr HW.out hv1)
  clear hv1
  go_wp2_with fail
  refine (works_is _).mono ?_
  rintro _ v2 ⟨rfl, hv2⟩
  have HF2 := Lib.hid (below_tr HF.out hv2)
  clear hv2
  go_wp2_with fail
  go_ret
  exact ⟨rfl, HF2.out⟩

set_option maxRecDepth 100000 in
set_option maxHeartbeats 8000000 in
theorem put_law_3 (e : Ex) (r : Rw) (w : World) (hin : e.In w) (hr : r.In w) (hla : decide (500 < e.sz) = false) (hlr : decide (500 < r.len) = false) (v : Val) (f : Int) (he : evalR r e = (v, f)) :
    Calls Try.prog 6 #[.agg #[.int .u8 e.op, .int .u8 e.v.k, .int .i64 e.v.n, .int .i64 e.v.u, .string e.v.t, .int .i64 e.m, .slice e.a e.len e.cap], .slice r.a r.len r.cap] w fun x w' => x = .returned (.bool true) ∧ Below w.heap.size w w' := by
  have HEV := Lib.hid he
  clear he
  have hsz : e.sz ≤ 500 := by have := hla; simp only [decide_eq_false_iff_not] at this; omega
  have HSZ := Lib.hid hsz
  clear hsz
  obtain ⟨W, g, hW, hg, BA, hb⟩ := boxE' w e
  have HA := Lib.hid BA
  have HW := Lib.hid hb
  have HIA := Lib.hid (hin.below hb)
  have HR := Lib.hid (hr.below hb)
  have HLA := Lib.hid hla
  have HLR := Lib.hid hlr
  have hlr1 : decide ((500 : Int) < (r.len : Int)) = false := by rw [← HLR.out, decide_eq_decide]; omega
  clear hin hr hb BA hla hlr
  go_enter Try.func6, Try.ntmps6
  go_wp2_with fail
  refine (works_is _).mono ?_
  rintro _ v0 ⟨rfl, hv0⟩
  obtain ⟨c0, c1, c2, c3, c4, c5, c6, c7⟩ := HA.out.below hv0
  have HI0 := Lib.hid (HIA.out.below hv0)
  have HV0 := Lib.hid hv0
  clear hv0 hW
  go_wp2_with fail
  clear c0 c1 c2 c3 c4 c5 c6 c7
  refine (large_is e _ HI0.out false HLA.out).mono ?_
  rintro _ v1 ⟨rfl, hv1'⟩
  have hv1 := below_tr HV0.out hv1'
  clear hv1' HV0 HI0
  have HA1 := Lib.hid (HA.out.below hv1)
  have HI1 := Lib.hid (HIA.out.below hv1)
  have HR1 := Lib.hid (HR.out.below hv1)
  have HW1 := Lib.hid (below_tr HW.out hv1)
  clear hv1 HA HIA HR HW
  obtain ⟨c0, c1, c2, c3, c4, c5, c6, c7⟩ := HA1.out
  go_wp2_with fail
  clear c0 c1 c2 c3 c4 c5 c6 c7
  refine (eval_is e r _ HI1.out HR1.out v f HEV.out).mono ?_
  rintro _ U1 ⟨rfl, hU1⟩
  obtain ⟨V1, g1, hV1, hg1, BV1, hbV1⟩ := boxX U1 v
  have hUV := below_tr hU1 hbV1
  have HA2 := Lib.hid (HA1.out.below hUV)
  have HI2 := Lib.hid (HI1.out.below hUV)
  have HR2 := Lib.hid (HR1.out.below hUV)
  have HW2 := Lib.hid (below_tr HW1.out hUV)
  have HX2 := Lib.hid BV1
  clear hU1 hbV1 hUV HA1 HI1 HR1 HW1 BV1
  obtain ⟨c0, c1, c2, c3, c4, c5, c6, c7⟩ := HA2.out
  go_wp2_with fail
  clear c0 c1 c2 c3 c4 c5 c6 c7 hV1
  refine (put_is r e HSZ.out _ HI2.out HR2.out).mono ?_
  rintro _ U2 ⟨e', rfl, hU2, hin', hpo, -⟩
  have HR3 := Lib.hid (HR2.out.below hU2)
  have HW3 := Lib.hid (below_tr HW2.out hU2)
  have HX3 := Lib.hid (HX2.out.below hU2)
  have HI3 := Lib.hid hin'
  have HPE := Lib.hid (putOf_eval hpo)
  clear hU2 hin' hpo HR2 HW2 HX2 HI2 HA2
  obtain ⟨v', f', hvf⟩ : ∃ v' f', evalR r e' = (v', f') := ⟨_, _, rfl⟩
  have HVF := Lib.hid hvf
  clear hvf
  go_wp2_with fail
  refine (eval_is e' r _ HI3.out HR3.out v' f' HVF.out).mono ?_
  rintro _ U4 ⟨rfl, hU4⟩
  obtain ⟨V4, g4, hV4, hg4, BV4, hbV4⟩ := boxX U4 v'
  have hUV4 := below_tr hU4 hbV4
  have HW4 := Lib.hid (below_tr HW3.out hUV4)
  obtain ⟨x0, x1, x2, x3, x4⟩ := HX3.out.below hUV4
  obtain ⟨y0, y1, y2, y3, y4⟩ := BV4
  clear hU4 hbV4 hUV4 HX3 HR3 HW3
  have hm := HPE.out
  rw [HEV.out, HVF.out] at hm
  by_cases hf : f = 4
  · have t1 : (f == 4) = true := by simpa using hf
    clear hm hf
    go_wp2_with fail
    go_ret
    exact ⟨rfl, HW4.out⟩
  · have t1 : (f == 4) = false := by simpa using hf
    rcases hm with hm | hm
    · exact absurd hm hf
    · cases hm
      have hq := fun w => eql_is v v true (eqB_iff.2 rfl) w
      clear hf
      go_wp2_with fail
      go_ret
      exact ⟨rfl, HW4.out⟩

/-- ExprPut answers true for any expression and any row. -/
theorem put_law (e : Ex) (r : Rw) (w : World) (hin : e.In w) (hr : r.In w) :
    Calls Try.prog 6 #[.agg #[.int .u8 e.op, .int .u8 e.v.k, .int .i64 e.v.n, .int .i64 e.v.u, .string e.v.t, .int .i64 e.m, .slice e.a e.len e.cap], .slice r.a r.len r.cap] w fun x w' => x = .returned (.bool true) ∧ Below w.heap.size w w' := by
  cases hla : decide (500 < e.sz)
  · cases hlr : decide (500 < r.len)
    · exact put_law_3 e r w hin hr hla hlr _ _ rfl
    · exact put_law_2 e r w hin hr hla hlr
  · exact put_law_1 e r w hin hr hla
end Go.Proofs.Ytflclkmhdngmaaa
