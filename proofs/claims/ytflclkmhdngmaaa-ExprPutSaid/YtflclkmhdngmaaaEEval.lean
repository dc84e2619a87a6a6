/-
  expr.Eval: the result of an expression over a row.
-/
import Derived.Test.YtflclkmhdngmaaaEFold
import Derived.Test.YtflclkmhdngmaaaERX
import Derived.Test.YtflclkmhdngmaaaShelf
namespace Go.Proofs.Ytflclkmhdngmaaa
open Go.RowKit

/-- What Eval answers. -/
def evalR (r : Rw) (e : Ex) : Val × Int := if validB mayV (hasBelow r.len) e = true then foldV r e else (Val.zero, 4)

theorem foldV_t (r : Rw) (hr : ∀ i, i < r.len → (r.vals i).wf) : ∀ (e : Ex), okB mayV (hasBelow r.len) e = true → (foldV r e).1.t.size ≤ 140737488351232 := by
  intro e
  induction e using Ex.ind with
  | h e ih =>
    intro hok
    have hok2 := hok
    unfold okB at hok2
    rw [Ex.allB_eq, Bool.and_eq_true, allTo_iff] at hok2
    obtain ⟨hf, hk⟩ := hok2
    unfold formedB at hf
    rw [Bool.and_eq_true, decide_eq_true_eq] at hf
    obtain ⟨hl, hf⟩ := hf
    have ihk := fun i (hi : i < e.len) => ih i hi (hk i hi)
    have a2 := arity_le e.op
    have z : ∀ x y, (appV e.op x y).1.t.size ≤ 140737488351232 := fun x y => by show (⟨#[]⟩ : ByteArray).size ≤ _; decide
    rw [foldV_eq]
    by_cases h0 : arity e.op = 0
    · rw [if_pos h0]
      show (leafV r e).t.size ≤ _
      unfold leafV
      by_cases h2 : e.op = 2
      · rw [if_pos h2]
        rw [if_neg (by omega), if_pos h2, Bool.and_eq_true] at hf
        have := hf.2
        simp only [hasBelow, Bool.and_eq_true, decide_eq_true_eq] at this
        exact (hr _ (by omega)).t
      · rw [if_neg h2]
        by_cases h1 : e.op = 1
        · rw [if_pos h1, Bool.and_eq_true] at hf
          have hm : mayP e.v.k e.v.n e.v.u e.v.t.data.toList := of_decide_eq_true hf.2
          unfold mayP at hm
          have hs : e.v.t.size = e.v.t.data.toList.length := rfl
          rw [hs]
          rcases hm with ⟨_, _, _, h⟩ | ⟨_, _, h⟩ | ⟨_, _, _, h⟩ | ⟨_, _, _, h⟩ | ⟨_, _, h⟩
          all_goals first | (rw [h]; decide) | omega
        · rw [if_neg h1, if_neg h2, Bool.and_eq_true, decide_eq_true_eq] at hf
          omega
    · rw [if_neg h0]
      split
      · exact ihk 0 (by omega)
      · split
        · exact z _ _
        · split
          · exact ihk 1 (by omega)
          · exact z _ _

/-- The world behind Eval's first step. -/
theorem boxERow (w : World) (e : Ex) (r : Rw) : ∃ W g, w.heap.size = g ∧ ((w.alloc (.cells #[.int .u8 e.op, .int .u8 e.v.k, .int .i64 e.v.n, .int .i64 e.v.u, .string e.v.t, .int .i64 e.m, .slice e.a e.len e.cap] 26)).alloc (.cells #[.slice r.a r.len r.cap] 28)).alloc (.cells #[.int .u8 0, .int .i64 0, .int .i64 0, .string ⟨#[]⟩] 23) = W ∧
    BoxE W g e ∧ W.cell? ⟨g + 1, 0, none⟩ = some (.slice r.a r.len r.cap) ∧ Boxed W (g + 1 + 1) 0 0 0 ⟨#[]⟩ ∧ Soft W (g + 1 + 1) ∧ Below w.heap.size w W ∧ W.heap.size = g + 1 + 1 + 1 := by
  refine ⟨_, _, rfl, rfl, ⟨?_, ?_, ?_, ?_, ?_, ?_, ?_, by simp <;> omega⟩, ?_, ⟨?_, ?_, ?_, ?_, by simp⟩, ⟨?_, ?_, ?_, ?_, by simp⟩, (((Below.refl _ w).alloc (Nat.le_refl _) _).alloc (by simp) _).alloc (by simp <;> omega) _, by simp⟩ <;> go_simp

theorem clone_is (s : ByteArray) (w : World) (hs : s.size ≤ 281474976710656) : Calls Try.prog 37 #[.string s] w fun e w' => e = .returned (.string s) ∧ Below w.heap.size w w' := by
  go_enter Try.func37, Try.ntmps37
  go_wp2_with fail
  refine (Try.stringslite_Clone s _ hs).mono ?_
  rintro e w' ⟨rfl, hb⟩
  go_wp2_with fail
  go_ret
  exact ⟨rfl, hb⟩

/-- A value's text is written over by itself. -/
theorem set_text {U : World} {m : Nat} {v : Val} (hB : Boxed U m v.k v.n v.u v.t) : ∃ Z, U.setCell ⟨m, 3, none⟩ (.string v.t) = Z ∧ Boxed Z m v.k v.n v.u v.t ∧ But m U Z := by
  obtain ⟨a0, a1, a2, a3, a4⟩ := hB
  refine ⟨_, rfl, ⟨?_, ?_, ?_, ?_, by simpa [World.setCell] using a4⟩, ⟨rfl, rfl, rfl, by simp [World.setCell], fun k _ hk => Below.heap_setCell _ _ _ _ hk⟩⟩ <;> go_simp

/-- The check of a column, as a value. -/
def BelowV (n : Nat) (w : World) (v : Value) : Prop := ∃ g, v = .func (.func 47) #[] #[.pointer (some ⟨g, 0, none⟩)] ∧ g < w.heap.size ∧ w.cell? ⟨g, 0, none⟩ = some (.int .i64 n)
theorem BelowV.below {n : Nat} {w w' : World} {v : Value} (hb : Below w.heap.size w w') (h : BelowV n w v) : BelowV n w' v := by
  obtain ⟨g, e, hg, hc⟩ := h
  exact ⟨g, e, Nat.lt_of_lt_of_le hg hb.size, by rw [hb.cell hg]; exact hc⟩

theorem below_of (n : Nat) (w : World) : Calls Try.prog 30 #[.int .i64 n] w fun e w' => ∃ v, e = .returned v ∧ Below w.heap.size w w' ∧ BelowV n w' v :=
  (belowf_is n w).mono fun _ _ ⟨⟨g, h1, h2, _, h3⟩, hb⟩ => ⟨_, h1, hb, g, rfl, h2, h3⟩

/-- expr.valid, handed a check that expr.below has made. -/
theorem valid_of (e : Ex) (n : Nat) (v : Value) (w : World) (hin : e.In w) (hv : BelowV n w v) (b : Bool) (hb : validB mayV (hasBelow n) e = b) :
    Calls Try.prog 29 #[.agg #[.int .u8 e.op, .int .u8 e.v.k, .int .i64 e.v.n, .int .i64 e.v.u, .string e.v.t, .int .i64 e.m, .slice e.a e.len e.cap], v] w fun x w' => x = .returned (.bool b) ∧ Below w.heap.size w w' := by
  obtain ⟨g, rfl, hg, hc⟩ := hv
  exact valid_is e _ _ _ w hin (below_is w g n hg hc) b hb

set_option maxRecDepth 100000 in
set_option maxHeartbeats 2000000 in
theorem eval_bad (e : Ex) (r : Rw) (w : World) (hin : e.In w) (hrin : r.In w) (hv : validB mayV (hasBelow r.len) e = false) :
    Calls Try.prog 12 #[.agg #[.int .u8 e.op, .int .u8 e.v.k, .int .i64 e.v.n, .int .i64 e.v.u, .string e.v.t, .int .i64 e.m, .slice e.a e.len e.cap], .slice r.a r.len r.cap] w fun x w' => x = .returned (.tuple #[.agg #[.int .u8 0, .int .i64 0, .int .i64 0, .string ⟨#[]⟩], .int .i64 4]) ∧ Below w.heap.size w w' := by
  obtain ⟨W, g, hg, hW, B, hc, R, S, hb, hs⟩ := boxERow w e r
  have HG := Lib.hid hg
  have HE := Lib.hid B
  have HC := Lib.hid hc
  have HR := Lib.hid R
  have HS := Lib.hid S
  have HB := Lib.hid hb
  have HV := Lib.hid hv
  have HIN := Lib.hid (hin.below hb)
  have HRIN := Lib.hid (hrin.below hb)
  have hlt : g + 1 < W.heap.size := by omega
  clear hb hs hv B hc R S hin hrin
  go_enter Try.func12, Try.ntmps12
  go_wp2_with fail
  have hdr := below_drw W
  refine RX.wp_region_plan (fun w w' => Below w.heap.size w w') [.it (.agg #[.int .u8 e.op, .int .u8 e.v.k, .int .i64 e.v.n, .int .i64 e.v.u, .string e.v.t, .int .i64 e.m, .slice e.a e.len e.cap]), .it (.slice r.a r.len r.cap), .it (.int .i64 r.len), .of (BelowV r.len), .it (.bool false), .it (.bool true)] (by kernel_rfl) (by kernel_rfl) (fun _ => Below.refl _ _) (fun _ _ _ => below_tr) ?_
  refine RX.seqP_value (fun _ => Below.refl _ _) _ (by first | rfl | simp) (fun w' hw' hctx => ?_) ?_
  · obtain ⟨c0, c1, c2, c3, c4, c5, c6, c7⟩ := HE.out.below (below_tr hdr hw')
    go_simp
    try first | with_reducible rfl | simp
  simp only [Act.put, List.setIfInBounds_toArray, List.set_cons_zero, List.set_cons_succ]
  refine RX.seqP_value (fun _ => Below.refl _ _) _ (by first | rfl | simp) (fun w' hw' hctx => ?_) ?_
  · have c0 : w'.cell? ⟨g + 1, 0, none⟩ = some (.slice r.a r.len r.cap) := by rw [(below_tr hdr hw').cell hlt]; exact HC.out
    go_simp
    try first | with_reducible rfl | simp
  simp only [Act.put, List.setIfInBounds_toArray, List.set_cons_zero, List.set_cons_succ]
  refine RX.seqP_value (fun _ => Below.refl _ _) _ (by first | rfl | simp) (fun w' hw' hctx => by (go_simp); (try first | with_reducible rfl | simp)) ?_
  simp only [Act.put, List.setIfInBounds_toArray, List.set_cons_zero, List.set_cons_succ]
  refine RX.seqP_callOf (30) #[.int .i64 r.len] (BelowV r.len) (fun w w' v hb h => h.below hb) (by first | rfl | simp) (fun w' hw' hctx => ?_) (fun w' hw' hctx => below_of r.len w') (fun vb => ?_)
  · go_simp
  simp only [Act.put, List.setIfInBounds_toArray, List.set_cons_zero, List.set_cons_succ]
  refine RX.seqP_call (29) #[.agg #[.int .u8 e.op, .int .u8 e.v.k, .int .i64 e.v.n, .int .i64 e.v.u, .string e.v.t, .int .i64 e.m, .slice e.a e.len e.cap], vb] (.bool false) (by first | rfl | simp) (fun w' hw' hctx => ?_) (fun w' hw' hctx => valid_of e r.len vb w' (HIN.out.below (below_tr hdr hw')) hctx.1 false HV.out) ?_
  · go_simp
  simp only [Act.put, List.setIfInBounds_toArray, List.set_cons_zero, List.set_cons_succ]
  refine RX.seqP_value (fun _ => Below.refl _ _) _ (by first | rfl | simp) (fun w' hw' hctx => by (go_simp); (try first | with_reducible rfl | simp)) ?_
  simp only [Act.put, List.setIfInBounds_toArray, List.set_cons_zero, List.set_cons_succ]
  refine RX.seqP_nil (fun v1 hR hctx _ => ?_)
  have hv1 := below_tr hdr hR
  clear hctx hR hdr
  have HB1 := Lib.hid (below_tr HB.out hv1)
  have HIN1 := Lib.hid (HIN.out.below hv1)
  have HRIN1 := Lib.hid (HRIN.out.below hv1)
  have HR1 := Lib.hid (HR.out.below hv1)
  have HS1 := Lib.hid (HS.out.below hv1)
  have hc1 : v1.cell? ⟨g + 1, 0, none⟩ = some (.slice r.a r.len r.cap) := by rw [hv1.cell hlt]; exact HC.out
  have hlt1 : g + 1 < v1.heap.size := Nat.lt_of_lt_of_le hlt hv1.size
  obtain ⟨c0, c1, c2, c3, c4, c5, c6, c7⟩ := HE.out.below hv1
  obtain ⟨r0, r1, r2, r3, r4⟩ := HR1.out
  obtain ⟨s0, s1, s2, s3, s4⟩ := HS1.out
  clear hv1 hW hlt
  go_wp2_with fail
  have hwz := below_put4 HB1.out (by have := HG.out; omega : w.heap.size ≤ g + 1 + 1) 0 0 0 ⟨#[]⟩
  obtain ⟨q0, q1, q2, q3, q4⟩ := boxed_put4 HR1.out 0 0 0 ⟨#[]⟩
  exact bodyPost_ret (w := put4 v1 (g + 1 + 1) 0 0 0 ⟨#[]⟩) (v := .tuple #[.agg #[.int .u8 0, .int .i64 0, .int .i64 0, .string ⟨#[]⟩], .int .i64 4]) (by simp [results, Try.results12, go_sem, q0, q1, q2, q3]) rfl ⟨rfl, hwz⟩

set_option maxRecDepth 100000 in
set_option maxHeartbeats 4000000 in
theorem eval_good (e : Ex) (r : Rw) (w : World) (hin : e.In w) (hrin : r.In w) (hv : validB mayV (hasBelow r.len) e = true) (v : Val) (f : Int) (hf : foldV r e = (v, f)) :
    Calls Try.prog 12 #[.agg #[.int .u8 e.op, .int .u8 e.v.k, .int .i64 e.v.n, .int .i64 e.v.u, .string e.v.t, .int .i64 e.m, .slice e.a e.len e.cap], .slice r.a r.len r.cap] w fun x w' => x = .returned (.tuple #[.agg #[.int .u8 v.k, .int .i64 v.n, .int .i64 v.u, .string v.t], .int .i64 f]) ∧ Below w.heap.size w w' := by
  have hok : okB mayV (hasBelow r.len) e = true := by
    have := hv
    unfold validB at this
    rw [Bool.and_eq_true, Bool.and_eq_true] at this
    exact this.2.2
  have HT : Hid (v.t.size ≤ 281474976710656) := Lib.hid (by have := foldV_t r hrin.wf e hok; rw [hf] at this; dsimp only at this; omega)
  have HOK := Lib.hid hok
  have HF := Lib.hid hf
  clear hok hf
  obtain ⟨W, g, hg, hW, B, hc, R, S, hb, hs⟩ := boxERow w e r
  have HG := Lib.hid hg
  have HE := Lib.hid B
  have HC := Lib.hid hc
  have HR := Lib.hid R
  have HS := Lib.hid S
  have HB := Lib.hid hb
  have HV := Lib.hid hv
  have HIN := Lib.hid (hin.below hb)
  have HRIN := Lib.hid (hrin.below hb)
  have hlt : g + 1 < W.heap.size := by omega
  clear hb hs hv B hc R S hin hrin
  go_enter Try.func12, Try.ntmps12
  go_wp2_with fail
  have hdr := below_drw W
  refine RX.wp_region_plan (fun w w' => Below w.heap.size w w') [.it (.agg #[.int .u8 e.op, .int .u8 e.v.k, .int .i64 e.v.n, .int .i64 e.v.u, .string e.v.t, .int .i64 e.m, .slice e.a e.len e.cap]), .it (.slice r.a r.len r.cap), .it (.int .i64 r.len), .of (BelowV r.len), .it (.bool true), .it (.bool false)] (by kernel_rfl) (by kernel_rfl) (fun _ => Below.refl _ _) (fun _ _ _ => below_tr) ?_
  refine RX.seqP_value (fun _ => Below.refl _ _) _ (by first | rfl | simp) (fun w' hw' hctx => ?_) ?_
  · obtain ⟨c0, c1, c2, c3, c4, c5, c6, c7⟩ := HE.out.below (below_tr hdr hw')
    go_simp
    try first | with_reducible rfl | simp
  simp only [Act.put, List.setIfInBounds_toArray, List.set_cons_zero, List.set_cons_succ]
  refine RX.seqP_value (fun _ => Below.refl _ _) _ (by first | rfl | simp) (fun w' hw' hctx => ?_) ?_
  · have c0 : w'.cell? ⟨g + 1, 0, none⟩ = some (.slice r.a r.len r.cap) := by rw [(below_tr hdr hw').cell hlt]; exact HC.out
    go_simp
    try first | with_reducible rfl | simp
  simp only [Act.put, List.setIfInBounds_toArray, List.set_cons_zero, List.set_cons_succ]
  refine RX.seqP_value (fun _ => Below.refl _ _) _ (by first | rfl | simp) (fun w' hw' hctx => by (go_simp); (try first | with_reducible rfl | simp)) ?_
  simp only [Act.put, List.setIfInBounds_toArray, List.set_cons_zero, List.set_cons_succ]
  refine RX.seqP_callOf (30) #[.int .i64 r.len] (BelowV r.len) (fun w w' v hb h => h.below hb) (by first | rfl | simp) (fun w' hw' hctx => ?_) (fun w' hw' hctx => below_of r.len w') (fun vb => ?_)
  · go_simp
  simp only [Act.put, List.setIfInBounds_toArray, List.set_cons_zero, List.set_cons_succ]
  refine RX.seqP_call (29) #[.agg #[.int .u8 e.op, .int .u8 e.v.k, .int .i64 e.v.n, .int .i64 e.v.u, .string e.v.t, .int .i64 e.m, .slice e.a e.len e.cap], vb] (.bool true) (by first | rfl | simp) (fun w' hw' hctx => ?_) (fun w' hw' hctx => valid_of e r.len vb w' (HIN.out.below (below_tr hdr hw')) hctx.1 true HV.out) ?_
  · go_simp
  simp only [Act.put, List.setIfInBounds_toArray, List.set_cons_zero, List.set_cons_succ]
  refine RX.seqP_value (fun _ => Below.refl _ _) _ (by first | rfl | simp) (fun w' hw' hctx => by (go_simp); (try first | with_reducible rfl | simp)) ?_
  simp only [Act.put, List.setIfInBounds_toArray, List.set_cons_zero, List.set_cons_succ]
  refine RX.seqP_nil (fun v1 hR hctx _ => ?_)
  have hv1 := below_tr hdr hR
  clear hctx hR hdr
  have HB1 := Lib.hid (below_tr HB.out hv1)
  have HIN1 := Lib.hid (HIN.out.below hv1)
  have HRIN1 := Lib.hid (HRIN.out.below hv1)
  have HR1 := Lib.hid (HR.out.below hv1)
  have HS1 := Lib.hid (HS.out.below hv1)
  have hc1 : v1.cell? ⟨g + 1, 0, none⟩ = some (.slice r.a r.len r.cap) := by rw [hv1.cell hlt]; exact HC.out
  have hlt1 : g + 1 < v1.heap.size := Nat.lt_of_lt_of_le hlt hv1.size
  obtain ⟨c0, c1, c2, c3, c4, c5, c6, c7⟩ := HE.out.below hv1
  obtain ⟨r0, r1, r2, r3, r4⟩ := HR1.out
  obtain ⟨s0, s1, s2, s3, s4⟩ := HS1.out
  clear hv1 hW hlt
  go_wp2_with fail
  refine (fold_is e (g + 1) r v1 hlt1 hc1 HRIN1.out HOK.out HIN1.out v f HF.out).mono ?_
  rintro _ U ⟨rfl, hbU⟩
  obtain ⟨U1, m, hU1, hm, BU, hbU1⟩ := boxX U v
  have SU := Soft.new U v.k v.n v.u v.t 23
  rw [hU1, hm] at SU
  have hmg : w.heap.size ≤ m := by have := HB1.out.size; have := hbU.size; omega
  have HMG := Lib.hid hmg
  have hb2 := below_tr hbU hbU1
  have HB2 := Lib.hid (below_tr HB1.out hb2)
  have HR2 := Lib.hid (HR1.out.below hb2)
  have HS2 := Lib.hid (HS1.out.below hb2)
  have hne : g + 1 + 1 ≠ m := by have := r4; have := hbU.size; omega
  have HBU := Lib.hid BU
  have HSU := Lib.hid SU
  obtain ⟨k0, k1, k2, k3, k4⟩ := BU
  clear c0 c1 c2 c3 c4 c5 c6 c7 r0 r1 r2 r3 r4 s0 s1 s2 s3 s4 hbU hbU1 hb2 SU hmg hc1 hlt1
  go_wp2_with fail
  refine (clone_is v.t _ HT.out).mono ?_
  rintro _ U3 ⟨rfl, hb3⟩
  have B3 := HBU.out.below hb3
  have S3 := HSU.out.below hb3
  have R3 := HR2.out.below hb3
  have T3 := HS2.out.below hb3
  have hmU : m < U3.heap.size := B3.2.2.2.2
  obtain ⟨Z, hZ, BZ, hbut3⟩ := set_text B3
  have RZ : Boxed Z (g + 1 + 1) 0 0 0 ⟨#[]⟩ := by
    obtain ⟨a0, a1, a2, a3, a4⟩ := R3
    exact ⟨by rw [hbut3.cell a4 hne]; exact a0, by rw [hbut3.cell a4 hne]; exact a1, by rw [hbut3.cell a4 hne]; exact a2, by rw [hbut3.cell a4 hne]; exact a3, Nat.lt_of_lt_of_le a4 hbut3.size⟩
  have SZ : Soft Z (g + 1 + 1) := by
    obtain ⟨a0, a1, a2, a3, a4⟩ := T3
    exact ⟨by rw [hbut3.frozen a4 hne]; exact a0, by rw [hbut3.frozen a4 hne]; exact a1, by rw [hbut3.frozen a4 hne]; exact a2, by rw [hbut3.frozen a4 hne]; exact a3, Nat.lt_of_lt_of_le a4 hbut3.size⟩
  have HBZ := Lib.hid ((below_tr HB2.out hb3).trans (hbut3.below HMG.out (by have := HB2.out.size; have := hb3.size; omega)))
  have HRZ := Lib.hid RZ
  obtain ⟨x0, x1, x2, x3, x4⟩ := B3
  obtain ⟨y0, y1, y2, y3, y4⟩ := S3
  obtain ⟨k0, k1, k2, k3, k4⟩ := BZ
  obtain ⟨r0, r1, r2, r3, r4⟩ := RZ
  obtain ⟨s0, s1, s2, s3, s4⟩ := SZ
  clear hb3 hbut3 R3 T3 hU1
  go_wp2_with fail
  have hwz := below_put4 HBZ.out (by have := HG.out; omega : w.heap.size ≤ g + 1 + 1) v.k v.n v.u v.t
  obtain ⟨q0, q1, q2, q3, q4⟩ := boxed_put4 HRZ.out v.k v.n v.u v.t
  exact bodyPost_ret (w := put4 Z (g + 1 + 1) v.k v.n v.u v.t) (v := .tuple #[.agg #[.int .u8 v.k, .int .i64 v.n, .int .i64 v.u, .string v.t], .int .i64 f]) (by simp [results, Try.results12, go_sem, q0, q1, q2, q3]) rfl ⟨rfl, hwz⟩

/-- What Eval answers, for any expression and any row. -/
theorem eval_is (e : Ex) (r : Rw) (w : World) (hin : e.In w) (hrin : r.In w) (v : Val) (f : Int) (hf : evalR r e = (v, f)) :
    Calls Try.prog 12 #[.agg #[.int .u8 e.op, .int .u8 e.v.k, .int .i64 e.v.n, .int .i64 e.v.u, .string e.v.t, .int .i64 e.m, .slice e.a e.len e.cap], .slice r.a r.len r.cap] w fun x w' => x = .returned (.tuple #[.agg #[.int .u8 v.k, .int .i64 v.n, .int .i64 v.u, .string v.t], .int .i64 f]) ∧ Below w.heap.size w w' := by
  unfold evalR at hf
  cases hv : validB mayV (hasBelow r.len) e
  · rw [hv, if_neg (by decide)] at hf
    cases hf
    exact eval_bad e r w hin hrin hv
  · rw [hv, if_pos rfl] at hf
    exact eval_good e r w hin hrin hv v f hf
end Go.Proofs.Ytflclkmhdngmaaa
