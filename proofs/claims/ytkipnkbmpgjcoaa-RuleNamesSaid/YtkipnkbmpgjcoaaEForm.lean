/-
  expr.formed: what has what its Op names, and nothing else.
-/
import Derived.Test.YtkipnkbmpgjcoaaEEql
import Derived.Test.YtkipnkbmpgjcoaaRegX
namespace Go.Proofs.Ytkipnkbmpgjcoaa
open Go.RowKit

/-- The world behind the first step of formed: the expression's own block. -/
theorem boxE (w : World) (e : Ex) : ∃ W g, w.alloc (.cells #[.int .u8 e.op, .int .u8 e.v.k, .int .i64 e.v.n, .int .i64 e.v.u, .string e.v.t, .int .i64 e.m, .slice e.a e.len e.cap] 27) = W ∧ w.heap.size = g ∧ BoxE W g e ∧ Below w.heap.size w W ∧ W.heap.size = g + 1 :=
  ⟨_, _, rfl, rfl, BoxE.new w e, Below.allocs w _, by simp⟩

theorem eql_zero {v : Val} (h : zeroB v = true) : v.k = 0 ∧ v.n = 0 ∧ v.u = 0 ∧ v.t = ⟨#[]⟩ := by
  rw [zeroB_iff] at h; subst h; exact ⟨rfl, rfl, rfl, rfl⟩

set_option maxRecDepth 100000 in
set_option maxHeartbeats 1000000 in
theorem formed_arity (e : Ex) (f : FuncId) (cap : Array Value) (w : World) (hl : (e.len : Int) ≠ (arity e.op : Int)) :
    Calls Try.prog 93 #[.agg #[.int .u8 e.op, .int .u8 e.v.k, .int .i64 e.v.n, .int .i64 e.v.u, .string e.v.t, .int .i64 e.m, .slice e.a e.len e.cap], .func (.func f) #[] cap] w fun x w' => x = .returned (.bool false) ∧ Below w.heap.size w w' := by
  obtain ⟨a, ha⟩ : ∃ a : Int, (arity e.op : Int) = a := ⟨_, rfl⟩
  rw [ha] at hl
  have hd : ((e.len : Int) != a) = true := by simpa using hl
  have HA := Lib.hid ha
  clear ha hl
  obtain ⟨W, g, hW, hg, B0, hb0, hs⟩ := boxE w e
  have HS := Lib.hid hs
  clear hs
  go_enter Try.func93, Try.ntmps93
  go_wp2_with fail
  have hdr := below_drw W
  refine RX.wp_region_plan (fun w w' => Below w.heap.size w w') [.it (.pointer (some ⟨g, 6, none⟩)), .it (.slice e.a e.len e.cap), .it (.int .i64 e.len), .it (.pointer (some ⟨g, 0, none⟩)), .it (.int .u8 e.op), .it (.int .i64 a), .it (.bool true)] (by kernel_rfl) (by kernel_rfl) (fun _ => Below.refl _ _) (fun _ _ _ => below_tr) ?_
  refine RX.seqP_value (fun _ => Below.refl _ _) _ (by first | rfl | simp) (fun w' hw' hctx => by (go_simp); (try first | with_reducible rfl | simp)) ?_
  simp only [Act.put, List.setIfInBounds_toArray, List.set_cons_zero, List.set_cons_succ]
  refine RX.seqP_value (fun _ => Below.refl _ _) _ (by first | rfl | simp) (fun w' hw' hctx => ?_) ?_
  · obtain ⟨c0, c1, c2, c3, c4, c5, c6, c7⟩ := B0.below (below_tr hdr hw')
    go_simp
    try first | with_reducible rfl | simp
  simp only [Act.put, List.setIfInBounds_toArray, List.set_cons_zero, List.set_cons_succ]
  refine RX.seqP_value (fun _ => Below.refl _ _) _ (by first | rfl | simp) (fun w' hw' hctx => by (go_simp); (try first | with_reducible rfl | simp)) ?_
  simp only [Act.put, List.setIfInBounds_toArray, List.set_cons_zero, List.set_cons_succ]
  refine RX.seqP_value (fun _ => Below.refl _ _) _ (by first | rfl | simp) (fun w' hw' hctx => by (go_simp); (try first | with_reducible rfl | simp)) ?_
  simp only [Act.put, List.setIfInBounds_toArray, List.set_cons_zero, List.set_cons_succ]
  refine RX.seqP_value (fun _ => Below.refl _ _) _ (by first | rfl | simp) (fun w' hw' hctx => ?_) ?_
  · obtain ⟨c0, c1, c2, c3, c4, c5, c6, c7⟩ := B0.below (below_tr hdr hw')
    go_simp
    try first | with_reducible rfl | simp
  simp only [Act.put, List.setIfInBounds_toArray, List.set_cons_zero, List.set_cons_succ]
  refine RX.seqP_call (96) #[.int .u8 e.op] (.int .i64 a) (by first | rfl | simp) (fun w' hw' hctx => ?_) (fun w' hw' hctx => (arity_is e.op a HA.out w').mono fun x w2 ⟨he, hb⟩ => ⟨he, hb ▸ Below.refl _ _⟩) ?_
  · go_simp
  simp only [Act.put, List.setIfInBounds_toArray, List.set_cons_zero, List.set_cons_succ]
  refine RX.seqP_value (fun _ => Below.refl _ _) _ (by first | rfl | simp) (fun w' hw' hctx => by (go_simp); (try first | with_reducible rfl | simp)) ?_
  simp only [Act.put, List.setIfInBounds_toArray, List.set_cons_zero, List.set_cons_succ]
  refine RX.seqP_nil (fun v1 hR hctx _ => ?_)
  have hv1 := below_tr hdr hR
  clear hctx hR
  have B1 := B0.below hv1
  have hw1 := below_tr hb0 hv1
  clear B0 hv1 hdr
  obtain ⟨c0, c1, c2, c3, c4, c5, c6, c7⟩ := B1
  go_wp2_with fail
  go_ret
  exact ⟨rfl, hw1⟩

set_option maxRecDepth 100000 in
set_option maxHeartbeats 1000000 in
theorem formed_lit_m (e : Ex) (f : FuncId) (cap : Array Value) (w : World) (hl : (e.len : Int) = (arity e.op : Int)) (ho : e.op = 1) (hm : e.m ≠ 0) :
    Calls Try.prog 93 #[.agg #[.int .u8 e.op, .int .u8 e.v.k, .int .i64 e.v.n, .int .i64 e.v.u, .string e.v.t, .int .i64 e.m, .slice e.a e.len e.cap], .func (.func f) #[] cap] w fun x w' => x = .returned (.bool false) ∧ Below w.heap.size w w' := by
  obtain ⟨a, ha⟩ : ∃ a : Int, (arity e.op : Int) = a := ⟨_, rfl⟩
  rw [ha] at hl
  have hd : ((e.len : Int) != a) = false := by simpa using hl
  have HA := Lib.hid ha
  clear ha hl
  have o1 : (e.op == 1) = true := by simpa using ho
  clear ho
  have m1 : (e.m == 0) = false := by simpa using hm
  clear hm
  obtain ⟨W, g, hW, hg, B0, hb0, hs⟩ := boxE w e
  have HS := Lib.hid hs
  clear hs
  go_enter Try.func93, Try.ntmps93
  go_wp2_with fail
  have hdr := below_drw W
  refine RX.wp_region_plan (fun w w' => Below w.heap.size w w') [.it (.pointer (some ⟨g, 6, none⟩)), .it (.slice e.a e.len e.cap), .it (.int .i64 e.len), .it (.pointer (some ⟨g, 0, none⟩)), .it (.int .u8 e.op), .it (.int .i64 a), .it (.bool false)] (by kernel_rfl) (by kernel_rfl) (fun _ => Below.refl _ _) (fun _ _ _ => below_tr) ?_
  refine RX.seqP_value (fun _ => Below.refl _ _) _ (by first | rfl | simp) (fun w' hw' hctx => by (go_simp); (try first | with_reducible rfl | simp)) ?_
  simp only [Act.put, List.setIfInBounds_toArray, List.set_cons_zero, List.set_cons_succ]
  refine RX.seqP_value (fun _ => Below.refl _ _) _ (by first | rfl | simp) (fun w' hw' hctx => ?_) ?_
  · obtain ⟨c0, c1, c2, c3, c4, c5, c6, c7⟩ := B0.below (below_tr hdr hw')
    go_simp
    try first | with_reducible rfl | simp
  simp only [Act.put, List.setIfInBounds_toArray, List.set_cons_zero, List.set_cons_succ]
  refine RX.seqP_value (fun _ => Below.refl _ _) _ (by first | rfl | simp) (fun w' hw' hctx => by (go_simp); (try first | with_reducible rfl | simp)) ?_
  simp only [Act.put, List.setIfInBounds_toArray, List.set_cons_zero, List.set_cons_succ]
  refine RX.seqP_value (fun _ => Below.refl _ _) _ (by first | rfl | simp) (fun w' hw' hctx => by (go_simp); (try first | with_reducible rfl | simp)) ?_
  simp only [Act.put, List.setIfInBounds_toArray, List.set_cons_zero, List.set_cons_succ]
  refine RX.seqP_value (fun _ => Below.refl _ _) _ (by first | rfl | simp) (fun w' hw' hctx => ?_) ?_
  · obtain ⟨c0, c1, c2, c3, c4, c5, c6, c7⟩ := B0.below (below_tr hdr hw')
    go_simp
    try first | with_reducible rfl | simp
  simp only [Act.put, List.setIfInBounds_toArray, List.set_cons_zero, List.set_cons_succ]
  refine RX.seqP_call (96) #[.int .u8 e.op] (.int .i64 a) (by first | rfl | simp) (fun w' hw' hctx => ?_) (fun w' hw' hctx => (arity_is e.op a HA.out w').mono fun x w2 ⟨he, hb⟩ => ⟨he, hb ▸ Below.refl _ _⟩) ?_
  · go_simp
  simp only [Act.put, List.setIfInBounds_toArray, List.set_cons_zero, List.set_cons_succ]
  refine RX.seqP_value (fun _ => Below.refl _ _) _ (by first | rfl | simp) (fun w' hw' hctx => by (go_simp); (try first | with_reducible rfl | simp)) ?_
  simp only [Act.put, List.setIfInBounds_toArray, List.set_cons_zero, List.set_cons_succ]
  refine RX.seqP_nil (fun v1 hR hctx _ => ?_)
  have hv1 := below_tr hdr hR
  clear hctx hR
  have B1 := B0.below hv1
  have hw1 := below_tr hb0 hv1
  clear B0 hv1 hdr
  obtain ⟨c0, c1, c2, c3, c4, c5, c6, c7⟩ := B1
  go_wp2_with fail
  go_ret
  exact ⟨rfl, hw1⟩

set_option maxRecDepth 100000 in
set_option maxHeartbeats 1000000 in
theorem formed_lit (e : Ex) (f : FuncId) (cap : Array Value) (w : World) (hl : (e.len : Int) = (arity e.op : Int)) (ho : e.op = 1) (hm : e.m = 0) (b : Bool) (hv : mayV e.v = b) :
    Calls Try.prog 93 #[.agg #[.int .u8 e.op, .int .u8 e.v.k, .int .i64 e.v.n, .int .i64 e.v.u, .string e.v.t, .int .i64 e.m, .slice e.a e.len e.cap], .func (.func f) #[] cap] w fun x w' => x = .returned (.bool b) ∧ Below w.heap.size w w' := by
  obtain ⟨a, ha⟩ : ∃ a : Int, (arity e.op : Int) = a := ⟨_, rfl⟩
  rw [ha] at hl
  have hd : ((e.len : Int) != a) = false := by simpa using hl
  have HA := Lib.hid ha
  clear ha hl
  have o1 : (e.op == 1) = true := by simpa using ho
  clear ho
  have m1 : (e.m == 0) = true := by simpa using hm
  clear hm
  have HV := Lib.hid hv
  clear hv
  obtain ⟨W, g, hW, hg, B0, hb0, hs⟩ := boxE w e
  have HS := Lib.hid hs
  clear hs
  go_enter Try.func93, Try.ntmps93
  go_wp2_with fail
  have hdr := below_drw W
  refine RX.wp_region_plan (fun w w' => Below w.heap.size w w') [.it (.pointer (some ⟨g, 6, none⟩)), .it (.slice e.a e.len e.cap), .it (.int .i64 e.len), .it (.pointer (some ⟨g, 0, none⟩)), .it (.int .u8 e.op), .it (.int .i64 a), .it (.bool false)] (by kernel_rfl) (by kernel_rfl) (fun _ => Below.refl _ _) (fun _ _ _ => below_tr) ?_
  refine RX.seqP_value (fun _ => Below.refl _ _) _ (by first | rfl | simp) (fun w' hw' hctx => by (go_simp); (try first | with_reducible rfl | simp)) ?_
  simp only [Act.put, List.setIfInBounds_toArray, List.set_cons_zero, List.set_cons_succ]
  refine RX.seqP_value (fun _ => Below.refl _ _) _ (by first | rfl | simp) (fun w' hw' hctx => ?_) ?_
  · obtain ⟨c0, c1, c2, c3, c4, c5, c6, c7⟩ := B0.below (below_tr hdr hw')
    go_simp
    try first | with_reducible rfl | simp
  simp only [Act.put, List.setIfInBounds_toArray, List.set_cons_zero, List.set_cons_succ]
  refine RX.seqP_value (fun _ => Below.refl _ _) _ (by first | rfl | simp) (fun w' hw' hctx => by (go_simp); (try first | with_reducible rfl | simp)) ?_
  simp only [Act.put, List.setIfInBounds_toArray, List.set_cons_zero, List.set_cons_succ]
  refine RX.seqP_value (fun _ => Below.refl _ _) _ (by first | rfl | simp) (fun w' hw' hctx => by (go_simp); (try first | with_reducible rfl | simp)) ?_
  simp only [Act.put, List.setIfInBounds_toArray, List.set_cons_zero, List.set_cons_succ]
  refine RX.seqP_value (fun _ => Below.refl _ _) _ (by first | rfl | simp) (fun w' hw' hctx => ?_) ?_
  · obtain ⟨c0, c1, c2, c3, c4, c5, c6, c7⟩ := B0.below (below_tr hdr hw')
    go_simp
    try first | with_reducible rfl | simp
  simp only [Act.put, List.setIfInBounds_toArray, List.set_cons_zero, List.set_cons_succ]
  refine RX.seqP_call (96) #[.int .u8 e.op] (.int .i64 a) (by first | rfl | simp) (fun w' hw' hctx => ?_) (fun w' hw' hctx => (arity_is e.op a HA.out w').mono fun x w2 ⟨he, hb⟩ => ⟨he, hb ▸ Below.refl _ _⟩) ?_
  · go_simp
  simp only [Act.put, List.setIfInBounds_toArray, List.set_cons_zero, List.set_cons_succ]
  refine RX.seqP_value (fun _ => Below.refl _ _) _ (by first | rfl | simp) (fun w' hw' hctx => by (go_simp); (try first | with_reducible rfl | simp)) ?_
  simp only [Act.put, List.setIfInBounds_toArray, List.set_cons_zero, List.set_cons_succ]
  refine RX.seqP_nil (fun v1 hR hctx _ => ?_)
  have hv1 := below_tr hdr hR
  clear hctx hR
  have B1 := B0.below hv1
  have hw1 := below_tr hb0 hv1
  clear B0 hv1 hdr
  obtain ⟨c0, c1, c2, c3, c4, c5, c6, c7⟩ := B1
  go_wp2_with fail
  refine (mayv_is e.v b HV.out _).mono ?_
  rintro x v2 ⟨rfl, hv2⟩
  go_wp2_with fail
  go_ret
  exact ⟨rfl, below_tr hw1 hv2⟩

set_option maxRecDepth 100000 in
set_option maxHeartbeats 1000000 in
theorem formed_col_z (e : Ex) (f : FuncId) (cap : Array Value) (w : World) (hl : (e.len : Int) = (arity e.op : Int)) (ho : e.op = 2) (hz : zeroB e.v = false) :
    Calls Try.prog 93 #[.agg #[.int .u8 e.op, .int .u8 e.v.k, .int .i64 e.v.n, .int .i64 e.v.u, .string e.v.t, .int .i64 e.m, .slice e.a e.len e.cap], .func (.func f) #[] cap] w fun x w' => x = .returned (.bool false) ∧ Below w.heap.size w w' := by
  obtain ⟨a, ha⟩ : ∃ a : Int, (arity e.op : Int) = a := ⟨_, rfl⟩
  rw [ha] at hl
  have hd : ((e.len : Int) != a) = false := by simpa using hl
  have HA := Lib.hid ha
  clear ha hl
  have o1 : (e.op == 1) = false := by rw [ho]; rfl
  have o2 : (e.op == 2) = true := by simpa using ho
  clear ho
  have HZ := Lib.hid hz
  clear hz
  obtain ⟨W, g, hW, hg, B0, hb0, hs⟩ := boxE w e
  have HS := Lib.hid hs
  clear hs
  go_enter Try.func93, Try.ntmps93
  go_wp2_with fail
  have hdr := below_drw W
  refine RX.wp_region_plan (fun w w' => Below w.heap.size w w') [.it (.pointer (some ⟨g, 6, none⟩)), .it (.slice e.a e.len e.cap), .it (.int .i64 e.len), .it (.pointer (some ⟨g, 0, none⟩)), .it (.int .u8 e.op), .it (.int .i64 a), .it (.bool false)] (by kernel_rfl) (by kernel_rfl) (fun _ => Below.refl _ _) (fun _ _ _ => below_tr) ?_
  refine RX.seqP_value (fun _ => Below.refl _ _) _ (by first | rfl | simp) (fun w' hw' hctx => by (go_simp); (try first | with_reducible rfl | simp)) ?_
  simp only [Act.put, List.setIfInBounds_toArray, List.set_cons_zero, List.set_cons_succ]
  refine RX.seqP_value (fun _ => Below.refl _ _) _ (by first | rfl | simp) (fun w' hw' hctx => ?_) ?_
  · obtain ⟨c0, c1, c2, c3, c4, c5, c6, c7⟩ := B0.below (below_tr hdr hw')
    go_simp
    try first | with_reducible rfl | simp
  simp only [Act.put, List.setIfInBounds_toArray, List.set_cons_zero, List.set_cons_succ]
  refine RX.seqP_value (fun _ => Below.refl _ _) _ (by first | rfl | simp) (fun w' hw' hctx => by (go_simp); (try first | with_reducible rfl | simp)) ?_
  simp only [Act.put, List.setIfInBounds_toArray, List.set_cons_zero, List.set_cons_succ]
  refine RX.seqP_value (fun _ => Below.refl _ _) _ (by first | rfl | simp) (fun w' hw' hctx => by (go_simp); (try first | with_reducible rfl | simp)) ?_
  simp only [Act.put, List.setIfInBounds_toArray, List.set_cons_zero, List.set_cons_succ]
  refine RX.seqP_value (fun _ => Below.refl _ _) _ (by first | rfl | simp) (fun w' hw' hctx => ?_) ?_
  · obtain ⟨c0, c1, c2, c3, c4, c5, c6, c7⟩ := B0.below (below_tr hdr hw')
    go_simp
    try first | with_reducible rfl | simp
  simp only [Act.put, List.setIfInBounds_toArray, List.set_cons_zero, List.set_cons_succ]
  refine RX.seqP_call (96) #[.int .u8 e.op] (.int .i64 a) (by first | rfl | simp) (fun w' hw' hctx => ?_) (fun w' hw' hctx => (arity_is e.op a HA.out w').mono fun x w2 ⟨he, hb⟩ => ⟨he, hb ▸ Below.refl _ _⟩) ?_
  · go_simp
  simp only [Act.put, List.setIfInBounds_toArray, List.set_cons_zero, List.set_cons_succ]
  refine RX.seqP_value (fun _ => Below.refl _ _) _ (by first | rfl | simp) (fun w' hw' hctx => by (go_simp); (try first | with_reducible rfl | simp)) ?_
  simp only [Act.put, List.setIfInBounds_toArray, List.set_cons_zero, List.set_cons_succ]
  refine RX.seqP_nil (fun v1 hR hctx _ => ?_)
  have hv1 := below_tr hdr hR
  clear hctx hR
  have B1 := B0.below hv1
  have hw1 := below_tr hb0 hv1
  clear B0 hv1 hdr
  obtain ⟨c0, c1, c2, c3, c4, c5, c6, c7⟩ := B1
  have hq := fun w => eql_z e.v false HZ.out w
  go_wp2_with fail
  go_ret
  exact ⟨rfl, hw1⟩

set_option maxRecDepth 100000 in
set_option maxHeartbeats 1000000 in
theorem formed_col (e : Ex) (f : FuncId) (cap : Array Value) (w : World) (hl : (e.len : Int) = (arity e.op : Int)) (ho : e.op = 2) (hz : zeroB e.v = true) (has : Int → Bool) (hm : I64 e.m) (hh : HasC w f cap has) (b : Bool) (hb : has e.m = b) :
    Calls Try.prog 93 #[.agg #[.int .u8 e.op, .int .u8 e.v.k, .int .i64 e.v.n, .int .i64 e.v.u, .string e.v.t, .int .i64 e.m, .slice e.a e.len e.cap], .func (.func f) #[] cap] w fun x w' => x = .returned (.bool b) ∧ Below w.heap.size w w' := by
  obtain ⟨a, ha⟩ : ∃ a : Int, (arity e.op : Int) = a := ⟨_, rfl⟩
  rw [ha] at hl
  have hd : ((e.len : Int) != a) = false := by simpa using hl
  have HA := Lib.hid ha
  clear ha hl
  have o1 : (e.op == 1) = false := by rw [ho]; rfl
  have o2 : (e.op == 2) = true := by simpa using ho
  clear ho
  have HZ := Lib.hid (eql_zero hz)
  clear hz
  have HB := Lib.hid hb
  clear hb
  have HH := Lib.hid hh
  clear hh
  have HM := Lib.hid hm
  clear hm
  obtain ⟨W, g, hW, hg, B0, hb0, hs⟩ := boxE w e
  have HS := Lib.hid hs
  clear hs
  go_enter Try.func93, Try.ntmps93
  go_wp2_with fail
  have hdr := below_drw W
  refine RX.wp_region_plan (fun w w' => Below w.heap.size w w') [.it (.pointer (some ⟨g, 6, none⟩)), .it (.slice e.a e.len e.cap), .it (.int .i64 e.len), .it (.pointer (some ⟨g, 0, none⟩)), .it (.int .u8 e.op), .it (.int .i64 a), .it (.bool false)] (by kernel_rfl) (by kernel_rfl) (fun _ => Below.refl _ _) (fun _ _ _ => below_tr) ?_
  refine RX.seqP_value (fun _ => Below.refl _ _) _ (by first | rfl | simp) (fun w' hw' hctx => by (go_simp); (try first | with_reducible rfl | simp)) ?_
  simp only [Act.put, List.setIfInBounds_toArray, List.set_cons_zero, List.set_cons_succ]
  refine RX.seqP_value (fun _ => Below.refl _ _) _ (by first | rfl | simp) (fun w' hw' hctx => ?_) ?_
  · obtain ⟨c0, c1, c2, c3, c4, c5, c6, c7⟩ := B0.below (below_tr hdr hw')
    go_simp
    try first | with_reducible rfl | simp
  simp only [Act.put, List.setIfInBounds_toArray, List.set_cons_zero, List.set_cons_succ]
  refine RX.seqP_value (fun _ => Below.refl _ _) _ (by first | rfl | simp) (fun w' hw' hctx => by (go_simp); (try first | with_reducible rfl | simp)) ?_
  simp only [Act.put, List.setIfInBounds_toArray, List.set_cons_zero, List.set_cons_succ]
  refine RX.seqP_value (fun _ => Below.refl _ _) _ (by first | rfl | simp) (fun w' hw' hctx => by (go_simp); (try first | with_reducible rfl | simp)) ?_
  simp only [Act.put, List.setIfInBounds_toArray, List.set_cons_zero, List.set_cons_succ]
  refine RX.seqP_value (fun _ => Below.refl _ _) _ (by first | rfl | simp) (fun w' hw' hctx => ?_) ?_
  · obtain ⟨c0, c1, c2, c3, c4, c5, c6, c7⟩ := B0.below (below_tr hdr hw')
    go_simp
    try first | with_reducible rfl | simp
  simp only [Act.put, List.setIfInBounds_toArray, List.set_cons_zero, List.set_cons_succ]
  refine RX.seqP_call (96) #[.int .u8 e.op] (.int .i64 a) (by first | rfl | simp) (fun w' hw' hctx => ?_) (fun w' hw' hctx => (arity_is e.op a HA.out w').mono fun x w2 ⟨he, hb⟩ => ⟨he, hb ▸ Below.refl _ _⟩) ?_
  · go_simp
  simp only [Act.put, List.setIfInBounds_toArray, List.set_cons_zero, List.set_cons_succ]
  refine RX.seqP_value (fun _ => Below.refl _ _) _ (by first | rfl | simp) (fun w' hw' hctx => by (go_simp); (try first | with_reducible rfl | simp)) ?_
  simp only [Act.put, List.setIfInBounds_toArray, List.set_cons_zero, List.set_cons_succ]
  refine RX.seqP_nil (fun v1 hR hctx _ => ?_)
  have hv1 := below_tr hdr hR
  clear hctx hR
  have B1 := B0.below hv1
  have hw1 := below_tr hb0 hv1
  clear B0 hv1 hdr
  obtain ⟨c0, c1, c2, c3, c4, c5, c6, c7⟩ := B1
  obtain ⟨z0, z1, z2, z3⟩ := HZ.out
  rw [z0] at c1
  rw [z1] at c2
  rw [z2] at c3
  rw [z3] at c4
  have hen := HH.out.enter
  go_wp2_with fail
  have hc := (HH.out.calls _ hw1 e.m HM.out)
  rw [HB.out] at hc
  refine hc.mono ?_
  rintro x v2 ⟨rfl, hv2⟩
  go_wp2_with fail
  go_ret
  exact ⟨rfl, below_tr hw1 hv2⟩

set_option maxRecDepth 100000 in
set_option maxHeartbeats 1000000 in
theorem formed_none (e : Ex) (f : FuncId) (cap : Array Value) (w : World) (hl : (e.len : Int) = (arity e.op : Int)) (ho1 : e.op ≠ 1) (ho2 : e.op ≠ 2) (h0 : e.len = 0) :
    Calls Try.prog 93 #[.agg #[.int .u8 e.op, .int .u8 e.v.k, .int .i64 e.v.n, .int .i64 e.v.u, .string e.v.t, .int .i64 e.m, .slice e.a e.len e.cap], .func (.func f) #[] cap] w fun x w' => x = .returned (.bool false) ∧ Below w.heap.size w w' := by
  obtain ⟨a, ha⟩ : ∃ a : Int, (arity e.op : Int) = a := ⟨_, rfl⟩
  rw [ha] at hl
  have hd : ((e.len : Int) != a) = false := by simpa using hl
  have HA := Lib.hid ha
  clear ha hl
  have o1 : (e.op == 1) = false := by simpa using ho1
  have o2 : (e.op == 2) = false := by simpa using ho2
  clear ho1 ho2
  have l1 : decide (0 < e.len) = false := by simp [h0]
  have l2 : decide ((0 : Int) < (e.len : Int)) = false := by simp [h0]
  clear h0
  obtain ⟨W, g, hW, hg, B0, hb0, hs⟩ := boxE w e
  have HS := Lib.hid hs
  clear hs
  go_enter Try.func93, Try.ntmps93
  go_wp2_with fail
  have hdr := below_drw W
  refine RX.wp_region_plan (fun w w' => Below w.heap.size w w') [.it (.pointer (some ⟨g, 6, none⟩)), .it (.slice e.a e.len e.cap), .it (.int .i64 e.len), .it (.pointer (some ⟨g, 0, none⟩)), .it (.int .u8 e.op), .it (.int .i64 a), .it (.bool false)] (by kernel_rfl) (by kernel_rfl) (fun _ => Below.refl _ _) (fun _ _ _ => below_tr) ?_
  refine RX.seqP_value (fun _ => Below.refl _ _) _ (by first | rfl | simp) (fun w' hw' hctx => by (go_simp); (try first | with_reducible rfl | simp)) ?_
  simp only [Act.put, List.setIfInBounds_toArray, List.set_cons_zero, List.set_cons_succ]
  refine RX.seqP_value (fun _ => Below.refl _ _) _ (by first | rfl | simp) (fun w' hw' hctx => ?_) ?_
  · obtain ⟨c0, c1, c2, c3, c4, c5, c6, c7⟩ := B0.below (below_tr hdr hw')
    go_simp
    try first | with_reducible rfl | simp
  simp only [Act.put, List.setIfInBounds_toArray, List.set_cons_zero, List.set_cons_succ]
  refine RX.seqP_value (fun _ => Below.refl _ _) _ (by first | rfl | simp) (fun w' hw' hctx => by (go_simp); (try first | with_reducible rfl | simp)) ?_
  simp only [Act.put, List.setIfInBounds_toArray, List.set_cons_zero, List.set_cons_succ]
  refine RX.seqP_value (fun _ => Below.refl _ _) _ (by first | rfl | simp) (fun w' hw' hctx => by (go_simp); (try first | with_reducible rfl | simp)) ?_
  simp only [Act.put, List.setIfInBounds_toArray, List.set_cons_zero, List.set_cons_succ]
  refine RX.seqP_value (fun _ => Below.refl _ _) _ (by first | rfl | simp) (fun w' hw' hctx => ?_) ?_
  · obtain ⟨c0, c1, c2, c3, c4, c5, c6, c7⟩ := B0.below (below_tr hdr hw')
    go_simp
    try first | with_reducible rfl | simp
  simp only [Act.put, List.setIfInBounds_toArray, List.set_cons_zero, List.set_cons_succ]
  refine RX.seqP_call (96) #[.int .u8 e.op] (.int .i64 a) (by first | rfl | simp) (fun w' hw' hctx => ?_) (fun w' hw' hctx => (arity_is e.op a HA.out w').mono fun x w2 ⟨he, hb⟩ => ⟨he, hb ▸ Below.refl _ _⟩) ?_
  · go_simp
  simp only [Act.put, List.setIfInBounds_toArray, List.set_cons_zero, List.set_cons_succ]
  refine RX.seqP_value (fun _ => Below.refl _ _) _ (by first | rfl | simp) (fun w' hw' hctx => by (go_simp); (try first | with_reducible rfl | simp)) ?_
  simp only [Act.put, List.setIfInBounds_toArray, List.set_cons_zero, List.set_cons_succ]
  refine RX.seqP_nil (fun v1 hR hctx _ => ?_)
  have hv1 := below_tr hdr hR
  clear hctx hR
  have B1 := B0.below hv1
  have hw1 := below_tr hb0 hv1
  clear B0 hv1 hdr
  obtain ⟨c0, c1, c2, c3, c4, c5, c6, c7⟩ := B1
  go_wp2_with fail
  go_ret
  exact ⟨rfl, hw1⟩

set_option maxRecDepth 100000 in
set_option maxHeartbeats 1000000 in
theorem formed_m (e : Ex) (f : FuncId) (cap : Array Value) (w : World) (hl : (e.len : Int) = (arity e.op : Int)) (ho1 : e.op ≠ 1) (ho2 : e.op ≠ 2) (h0 : 0 < e.len) (hm : e.m ≠ 0) :
    Calls Try.prog 93 #[.agg #[.int .u8 e.op, .int .u8 e.v.k, .int .i64 e.v.n, .int .i64 e.v.u, .string e.v.t, .int .i64 e.m, .slice e.a e.len e.cap], .func (.func f) #[] cap] w fun x w' => x = .returned (.bool false) ∧ Below w.heap.size w w' := by
  obtain ⟨a, ha⟩ : ∃ a : Int, (arity e.op : Int) = a := ⟨_, rfl⟩
  rw [ha] at hl
  have hd : ((e.len : Int) != a) = false := by simpa using hl
  have HA := Lib.hid ha
  clear ha hl
  have o1 : (e.op == 1) = false := by simpa using ho1
  have o2 : (e.op == 2) = false := by simpa using ho2
  clear ho1 ho2
  have l1 : decide (0 < e.len) = true := by simp [h0]
  have l2 : decide ((0 : Int) < (e.len : Int)) = true := by simp [h0]
  have m1 : (e.m == 0) = false := by simpa using hm
  clear h0 hm
  obtain ⟨W, g, hW, hg, B0, hb0, hs⟩ := boxE w e
  have HS := Lib.hid hs
  clear hs
  go_enter Try.func93, Try.ntmps93
  go_wp2_with fail
  have hdr := below_drw W
  refine RX.wp_region_plan (fun w w' => Below w.heap.size w w') [.it (.pointer (some ⟨g, 6, none⟩)), .it (.slice e.a e.len e.cap), .it (.int .i64 e.len), .it (.pointer (some ⟨g, 0, none⟩)), .it (.int .u8 e.op), .it (.int .i64 a), .it (.bool false)] (by kernel_rfl) (by kernel_rfl) (fun _ => Below.refl _ _) (fun _ _ _ => below_tr) ?_
  refine RX.seqP_value (fun _ => Below.refl _ _) _ (by first | rfl | simp) (fun w' hw' hctx => by (go_simp); (try first | with_reducible rfl | simp)) ?_
  simp only [Act.put, List.setIfInBounds_toArray, List.set_cons_zero, List.set_cons_succ]
  refine RX.seqP_value (fun _ => Below.refl _ _) _ (by first | rfl | simp) (fun w' hw' hctx => ?_) ?_
  · obtain ⟨c0, c1, c2, c3, c4, c5, c6, c7⟩ := B0.below (below_tr hdr hw')
    go_simp
    try first | with_reducible rfl | simp
  simp only [Act.put, List.setIfInBounds_toArray, List.set_cons_zero, List.set_cons_succ]
  refine RX.seqP_value (fun _ => Below.refl _ _) _ (by first | rfl | simp) (fun w' hw' hctx => by (go_simp); (try first | with_reducible rfl | simp)) ?_
  simp only [Act.put, List.setIfInBounds_toArray, List.set_cons_zero, List.set_cons_succ]
  refine RX.seqP_value (fun _ => Below.refl _ _) _ (by first | rfl | simp) (fun w' hw' hctx => by (go_simp); (try first | with_reducible rfl | simp)) ?_
  simp only [Act.put, List.setIfInBounds_toArray, List.set_cons_zero, List.set_cons_succ]
  refine RX.seqP_value (fun _ => Below.refl _ _) _ (by first | rfl | simp) (fun w' hw' hctx => ?_) ?_
  · obtain ⟨c0, c1, c2, c3, c4, c5, c6, c7⟩ := B0.below (below_tr hdr hw')
    go_simp
    try first | with_reducible rfl | simp
  simp only [Act.put, List.setIfInBounds_toArray, List.set_cons_zero, List.set_cons_succ]
  refine RX.seqP_call (96) #[.int .u8 e.op] (.int .i64 a) (by first | rfl | simp) (fun w' hw' hctx => ?_) (fun w' hw' hctx => (arity_is e.op a HA.out w').mono fun x w2 ⟨he, hb⟩ => ⟨he, hb ▸ Below.refl _ _⟩) ?_
  · go_simp
  simp only [Act.put, List.setIfInBounds_toArray, List.set_cons_zero, List.set_cons_succ]
  refine RX.seqP_value (fun _ => Below.refl _ _) _ (by first | rfl | simp) (fun w' hw' hctx => by (go_simp); (try first | with_reducible rfl | simp)) ?_
  simp only [Act.put, List.setIfInBounds_toArray, List.set_cons_zero, List.set_cons_succ]
  refine RX.seqP_nil (fun v1 hR hctx _ => ?_)
  have hv1 := below_tr hdr hR
  clear hctx hR
  have B1 := B0.below hv1
  have hw1 := below_tr hb0 hv1
  clear B0 hv1 hdr
  obtain ⟨c0, c1, c2, c3, c4, c5, c6, c7⟩ := B1
  go_wp2_with fail
  go_ret
  exact ⟨rfl, hw1⟩

set_option maxRecDepth 100000 in
set_option maxHeartbeats 1000000 in
theorem formed_z (e : Ex) (f : FuncId) (cap : Array Value) (w : World) (hl : (e.len : Int) = (arity e.op : Int)) (ho1 : e.op ≠ 1) (ho2 : e.op ≠ 2) (h0 : 0 < e.len) (hm : e.m = 0) (hz : zeroB e.v = false) :
    Calls Try.prog 93 #[.agg #[.int .u8 e.op, .int .u8 e.v.k, .int .i64 e.v.n, .int .i64 e.v.u, .string e.v.t, .int .i64 e.m, .slice e.a e.len e.cap], .func (.func f) #[] cap] w fun x w' => x = .returned (.bool false) ∧ Below w.heap.size w w' := by
  obtain ⟨a, ha⟩ : ∃ a : Int, (arity e.op : Int) = a := ⟨_, rfl⟩
  rw [ha] at hl
  have hd : ((e.len : Int) != a) = false := by simpa using hl
  have HA := Lib.hid ha
  clear ha hl
  have o1 : (e.op == 1) = false := by simpa using ho1
  have o2 : (e.op == 2) = false := by simpa using ho2
  clear ho1 ho2
  have l1 : decide (0 < e.len) = true := by simp [h0]
  have l2 : decide ((0 : Int) < (e.len : Int)) = true := by simp [h0]
  have m1 : (e.m == 0) = true := by simpa using hm
  have HZ := Lib.hid hz
  clear h0 hm hz
  obtain ⟨W, g, hW, hg, B0, hb0, hs⟩ := boxE w e
  have HS := Lib.hid hs
  clear hs
  go_enter Try.func93, Try.ntmps93
  go_wp2_with fail
  have hdr := below_drw W
  refine RX.wp_region_plan (fun w w' => Below w.heap.size w w') [.it (.pointer (some ⟨g, 6, none⟩)), .it (.slice e.a e.len e.cap), .it (.int .i64 e.len), .it (.pointer (some ⟨g, 0, none⟩)), .it (.int .u8 e.op), .it (.int .i64 a), .it (.bool false)] (by kernel_rfl) (by kernel_rfl) (fun _ => Below.refl _ _) (fun _ _ _ => below_tr) ?_
  refine RX.seqP_value (fun _ => Below.refl _ _) _ (by first | rfl | simp) (fun w' hw' hctx => by (go_simp); (try first | with_reducible rfl | simp)) ?_
  simp only [Act.put, List.setIfInBounds_toArray, List.set_cons_zero, List.set_cons_succ]
  refine RX.seqP_value (fun _ => Below.refl _ _) _ (by first | rfl | simp) (fun w' hw' hctx => ?_) ?_
  · obtain ⟨c0, c1, c2, c3, c4, c5, c6, c7⟩ := B0.below (below_tr hdr hw')
    go_simp
    try first | with_reducible rfl | simp
  simp only [Act.put, List.setIfInBounds_toArray, List.set_cons_zero, List.set_cons_succ]
  refine RX.seqP_value (fun _ => Below.refl _ _) _ (by first | rfl | simp) (fun w' hw' hctx => by (go_simp); (try first | with_reducible rfl | simp)) ?_
  simp only [Act.put, List.setIfInBounds_toArray, List.set_cons_zero, List.set_cons_succ]
  refine RX.seqP_value (fun _ => Below.refl _ _) _ (by first | rfl | simp) (fun w' hw' hctx => by (go_simp); (try first | with_reducible rfl | simp)) ?_
  simp only [Act.put, List.setIfInBounds_toArray, List.set_cons_zero, List.set_cons_succ]
  refine RX.seqP_value (fun _ => Below.refl _ _) _ (by first | rfl | simp) (fun w' hw' hctx => ?_) ?_
  · obtain ⟨c0, c1, c2, c3, c4, c5, c6, c7⟩ := B0.below (below_tr hdr hw')
    go_simp
    try first | with_reducible rfl | simp
  simp only [Act.put, List.setIfInBounds_toArray, List.set_cons_zero, List.set_cons_succ]
  refine RX.seqP_call (96) #[.int .u8 e.op] (.int .i64 a) (by first | rfl | simp) (fun w' hw' hctx => ?_) (fun w' hw' hctx => (arity_is e.op a HA.out w').mono fun x w2 ⟨he, hb⟩ => ⟨he, hb ▸ Below.refl _ _⟩) ?_
  · go_simp
  simp only [Act.put, List.setIfInBounds_toArray, List.set_cons_zero, List.set_cons_succ]
  refine RX.seqP_value (fun _ => Below.refl _ _) _ (by first | rfl | simp) (fun w' hw' hctx => by (go_simp); (try first | with_reducible rfl | simp)) ?_
  simp only [Act.put, List.setIfInBounds_toArray, List.set_cons_zero, List.set_cons_succ]
  refine RX.seqP_nil (fun v1 hR hctx _ => ?_)
  have hv1 := below_tr hdr hR
  clear hctx hR
  have B1 := B0.below hv1
  have hw1 := below_tr hb0 hv1
  clear B0 hv1 hdr
  obtain ⟨c0, c1, c2, c3, c4, c5, c6, c7⟩ := B1
  have hq := fun w => eql_z e.v false HZ.out w
  go_wp2_with fail
  go_ret
  exact ⟨rfl, hw1⟩

set_option maxRecDepth 100000 in
set_option maxHeartbeats 1000000 in
theorem formed_op (e : Ex) (f : FuncId) (cap : Array Value) (w : World) (hl : (e.len : Int) = (arity e.op : Int)) (ho1 : e.op ≠ 1) (ho2 : e.op ≠ 2) (h0 : 0 < e.len) (hm : e.m = 0) (hz : zeroB e.v = true) :
    Calls Try.prog 93 #[.agg #[.int .u8 e.op, .int .u8 e.v.k, .int .i64 e.v.n, .int .i64 e.v.u, .string e.v.t, .int .i64 e.m, .slice e.a e.len e.cap], .func (.func f) #[] cap] w fun x w' => x = .returned (.bool true) ∧ Below w.heap.size w w' := by
  obtain ⟨a, ha⟩ : ∃ a : Int, (arity e.op : Int) = a := ⟨_, rfl⟩
  rw [ha] at hl
  have hd : ((e.len : Int) != a) = false := by simpa using hl
  have HA := Lib.hid ha
  clear ha hl
  have o1 : (e.op == 1) = false := by simpa using ho1
  have o2 : (e.op == 2) = false := by simpa using ho2
  clear ho1 ho2
  have l1 : decide (0 < e.len) = true := by simp [h0]
  have l2 : decide ((0 : Int) < (e.len : Int)) = true := by simp [h0]
  have m1 : (e.m == 0) = true := by simpa using hm
  have HZ := Lib.hid (eql_zero hz)
  clear h0 hm hz
  obtain ⟨W, g, hW, hg, B0, hb0, hs⟩ := boxE w e
  have HS := Lib.hid hs
  clear hs
  go_enter Try.func93, Try.ntmps93
  go_wp2_with fail
  have hdr := below_drw W
  refine RX.wp_region_plan (fun w w' => Below w.heap.size w w') [.it (.pointer (some ⟨g, 6, none⟩)), .it (.slice e.a e.len e.cap), .it (.int .i64 e.len), .it (.pointer (some ⟨g, 0, none⟩)), .it (.int .u8 e.op), .it (.int .i64 a), .it (.bool false)] (by kernel_rfl) (by kernel_rfl) (fun _ => Below.refl _ _) (fun _ _ _ => below_tr) ?_
  refine RX.seqP_value (fun _ => Below.refl _ _) _ (by first | rfl | simp) (fun w' hw' hctx => by (go_simp); (try first | with_reducible rfl | simp)) ?_
  simp only [Act.put, List.setIfInBounds_toArray, List.set_cons_zero, List.set_cons_succ]
  refine RX.seqP_value (fun _ => Below.refl _ _) _ (by first | rfl | simp) (fun w' hw' hctx => ?_) ?_
  · obtain ⟨c0, c1, c2, c3, c4, c5, c6, c7⟩ := B0.below (below_tr hdr hw')
    go_simp
    try first | with_reducible rfl | simp
  simp only [Act.put, List.setIfInBounds_toArray, List.set_cons_zero, List.set_cons_succ]
  refine RX.seqP_value (fun _ => Below.refl _ _) _ (by first | rfl | simp) (fun w' hw' hctx => by (go_simp); (try first | with_reducible rfl | simp)) ?_
  simp only [Act.put, List.setIfInBounds_toArray, List.set_cons_zero, List.set_cons_succ]
  refine RX.seqP_value (fun _ => Below.refl _ _) _ (by first | rfl | simp) (fun w' hw' hctx => by (go_simp); (try first | with_reducible rfl | simp)) ?_
  simp only [Act.put, List.setIfInBounds_toArray, List.set_cons_zero, List.set_cons_succ]
  refine RX.seqP_value (fun _ => Below.refl _ _) _ (by first | rfl | simp) (fun w' hw' hctx => ?_) ?_
  · obtain ⟨c0, c1, c2, c3, c4, c5, c6, c7⟩ := B0.below (below_tr hdr hw')
    go_simp
    try first | with_reducible rfl | simp
  simp only [Act.put, List.setIfInBounds_toArray, List.set_cons_zero, List.set_cons_succ]
  refine RX.seqP_call (96) #[.int .u8 e.op] (.int .i64 a) (by first | rfl | simp) (fun w' hw' hctx => ?_) (fun w' hw' hctx => (arity_is e.op a HA.out w').mono fun x w2 ⟨he, hb⟩ => ⟨he, hb ▸ Below.refl _ _⟩) ?_
  · go_simp
  simp only [Act.put, List.setIfInBounds_toArray, List.set_cons_zero, List.set_cons_succ]
  refine RX.seqP_value (fun _ => Below.refl _ _) _ (by first | rfl | simp) (fun w' hw' hctx => by (go_simp); (try first | with_reducible rfl | simp)) ?_
  simp only [Act.put, List.setIfInBounds_toArray, List.set_cons_zero, List.set_cons_succ]
  refine RX.seqP_nil (fun v1 hR hctx _ => ?_)
  have hv1 := below_tr hdr hR
  clear hctx hR
  have B1 := B0.below hv1
  have hw1 := below_tr hb0 hv1
  clear B0 hv1 hdr
  obtain ⟨c0, c1, c2, c3, c4, c5, c6, c7⟩ := B1
  obtain ⟨z0, z1, z2, z3⟩ := HZ.out
  rw [z0] at c1
  rw [z1] at c2
  rw [z2] at c3
  rw [z3] at c4
  go_wp2_with fail
  go_ret
  exact ⟨rfl, hw1⟩

end Go.Proofs.Ytkipnkbmpgjcoaa
