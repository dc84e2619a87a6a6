/-
  rule.bond's typed: do the types fit? rule.Fits (stage 8).
-/
import Derived.Test.YtkipnkbmpgjcoaaTForm
namespace Go.Proofs.Ytkipnkbmpgjcoaa
open Go.RowKit
set_option linter.unusedVariables false

theorem exec_load {P : Program} (a : Act) (w : World) (dst : Option Nat) (ty : TypeId) (x : Nat) (t' : TypeId) (pos : String) (af : Array Edge) (gd : Option (Nat × Bool)) (g off : Nat) (hx : a.eval (.tmp x) = .pointer (some ⟨g, off, none⟩)) (cs : List Value) (d : TypeDesc)
    (hc : ∀ j v, cs[j]? = some v → w.cell? ⟨g, off + j, none⟩ = some v) (hu : P.underlying ty = some d) (hd : structB d = true) (hi : (P.info? ty).map (·.size) = some cs.length) :
    (execOp a.eval ⟨dst, .load ty (.tmp x), t', pos, af, gd⟩).run P w = .ok (.value (.agg cs.toArray)) w := by
  unfold execOp
  simp only [hx, Instr.loadAt, Instr.sureAddr, Sem.run_bind, Sem.run_pure, Result.andThen_ok, run_loads w g off ty cs d hc hu hd hi]

/-- A slice of these types. -/
def TyS (n : Nat) (l : List Int) (w : World) (v : Value) : Prop := ∃ b, v = .slice (some ⟨b, 0, none⟩) n n ∧ LstU w b 0 l
theorem TyS.below {n : Nat} {l : List Int} {w w' : World} {v : Value} (hb : Below w.heap.size w w') (h : TyS n l w v) : TyS n l w' v := by
  obtain ⟨b, e, h1⟩ := h; exact ⟨b, e, h1.below hb⟩
theorem typesL_len (r : Rl) (t : Tb) : (typesL r t).length = r.cols.length := by unfold typesL; simp
theorem types_of (r : Rl) (t : Tb) (w : World) (hr : r.In w) (ht : t.In w) (hs : r.n ≤ 1000000) (hz : mayC r.cols t.n = true) :
    Calls Try.prog 55 #[.agg #[.int .u8 r.kind, .string r.nm, .string r.tb, .slice r.a r.n r.cap, .int .u8 r.is.op, .int .u8 r.is.v.k, .int .i64 r.is.v.n, .int .i64 r.is.v.u, .string r.is.v.t, .int .i64 r.is.m, .slice r.is.a r.is.len r.is.cap, .string r.to, .int .u8 r.od, .int .u8 r.ou, .bool r.late, .bool r.valid, .string t.nm, .slice t.a t.n t.cap, .string t.ow]] w fun e w' => ∃ v, e = .returned v ∧ Below w.heap.size w w' ∧ TyS r.n (typesL r t) w' v :=
  (types_is r t w hr ht hs hz).mono fun _ _ ⟨g, h1, _, h3, h4⟩ => ⟨_, h1, h4, g, rfl, h3⟩
theorem equal_of (n m : Nat) (l k : List Int) (hl : l.length = n) (hm : k.length = m) (hs : n ≤ 1000000) (hs' : m ≤ 1000000) (v v' : Value) (w : World) (h1 : TyS n l w v) (h2 : TyS m k w v') (r : Bool) (hr : decide (l = k) = r) :
    Calls Try.prog 54 #[v, v'] w fun e w' => e = .returned (.bool r) ∧ Below w.heap.size w w' := by
  obtain ⟨b, rfl, h1⟩ := h1
  obtain ⟨b', rfl, h2⟩ := h2
  exact equal_u8 b 0 n n b' 0 m m l k hl hm hs hs' w h1 h2 r hr

/-- What is wrong with a rule's expression. -/
def truthR (l : List Int) (e : Ex) : Int := if (typeR l e).2 = 0 ∧ (typeR l e).1 ≠ 2 ∧ (typeR l e).1 ≠ 0 then 60 else (typeR l e).2

theorem truth_of (r : Rl) (t : Tb) (w : World) (hr : r.In w) (ht : t.In w) (z : Int) (hz : truthR (tys t.cols) r.is = z) :
    Calls Try.prog 53 #[.agg #[.int .u8 r.kind, .string r.nm, .string r.tb, .slice r.a r.n r.cap, .int .u8 r.is.op, .int .u8 r.is.v.k, .int .i64 r.is.v.n, .int .i64 r.is.v.u, .string r.is.v.t, .int .i64 r.is.m, .slice r.is.a r.is.len r.is.cap, .string r.to, .int .u8 r.od, .int .u8 r.ou, .bool r.late, .bool r.valid, .string t.nm, .slice t.a t.n t.cap, .string t.ow]] w fun e w' => e = .returned (.int .i64 z) ∧ Below w.heap.size w w' :=
  truth_is r t w hr ht _ _ rfl z hz

set_option maxRecDepth 100000 in
set_option maxHeartbeats 2000000 in
theorem btyped_2 (r : Rl) (t : Tb) (q : Rl) (u : Tb) (w : World) (hr : r.In w) (ht : t.In w) (hq : q.In w) (hu : u.In w) (hs : r.n ≤ 1000000) (hs' : q.n ≤ 1000000) (hk : r.kind = 2) (z : Int) (hz : (truthR (tys t.cols) r.is) = z) :
    Calls Try.prog 35 #[.agg (List.toArray (.int .u8 r.kind :: .string r.nm :: .string r.tb :: .slice r.a r.n r.cap :: .int .u8 r.is.op :: .int .u8 r.is.v.k :: .int .i64 r.is.v.n :: .int .i64 r.is.v.u :: .string r.is.v.t :: .int .i64 r.is.m :: .slice r.is.a r.is.len r.is.cap :: .string r.to :: .int .u8 r.od :: .int .u8 r.ou :: .bool r.late :: .bool r.valid :: .string t.nm :: .slice t.a t.n t.cap :: .string t.ow :: .int .u8 q.kind :: .string q.nm :: .string q.tb :: .slice q.a q.n q.cap :: .int .u8 q.is.op :: .int .u8 q.is.v.k :: .int .i64 q.is.v.n :: .int .i64 q.is.v.u :: .string q.is.v.t :: .int .i64 q.is.m :: .slice q.is.a q.is.len q.is.cap :: .string q.to :: .int .u8 q.od :: .int .u8 q.ou :: .bool q.late :: .bool q.valid :: .string u.nm :: .slice u.a u.n u.cap :: .string u.ow :: []))] w fun e w' => e = .returned (.int .i64 z) ∧ Below w.heap.size w w' := by
  obtain ⟨W, g, hW, hg, B, hb⟩ := boxB w r t q u
  have HB := Lib.hid hb
  have HBK := Lib.hid B
  have HR := Lib.hid (hr.below hb)
  have HT := Lib.hid (ht.below hb)
  have HQ := Lib.hid (hq.below hb)
  have HU := Lib.hid (hu.below hb)
  have c0 := B.get 0 _ rfl
  have c1 := B.get 1 _ rfl
  have c2 := B.get 2 _ rfl
  have c3 := B.get 3 _ rfl
  have c4 := B.get 4 _ rfl
  have c5 := B.get 5 _ rfl
  have c6 := B.get 6 _ rfl
  have c7 := B.get 7 _ rfl
  have c8 := B.get 8 _ rfl
  have c9 := B.get 9 _ rfl
  have c10 := B.get 10 _ rfl
  have c11 := B.get 11 _ rfl
  have c12 := B.get 12 _ rfl
  have c13 := B.get 13 _ rfl
  have c14 := B.get 14 _ rfl
  have c15 := B.get 15 _ rfl
  have c16 := B.get 16 _ rfl
  have c17 := B.get 17 _ rfl
  have c18 := B.get 18 _ rfl
  have c19 := B.get 19 _ rfl
  have c20 := B.get 20 _ rfl
  have c21 := B.get 21 _ rfl
  have c22 := B.get 22 _ rfl
  have c23 := B.get 23 _ rfl
  have c24 := B.get 24 _ rfl
  have c25 := B.get 25 _ rfl
  have c26 := B.get 26 _ rfl
  have c27 := B.get 27 _ rfl
  have c28 := B.get 28 _ rfl
  have c29 := B.get 29 _ rfl
  have c30 := B.get 30 _ rfl
  have c31 := B.get 31 _ rfl
  have c32 := B.get 32 _ rfl
  have c33 := B.get 33 _ rfl
  have c34 := B.get 34 _ rfl
  have c35 := B.get 35 _ rfl
  have c36 := B.get 36 _ rfl
  have c37 := B.get 37 _ rfl
  clear hr ht hq hu B hb
  have k0 : r.kind = 2 := hk
  rw [k0] at c0
  clear hk k0
  have HZ := Lib.hid hz
  clear hz
  have hcon := truth_of r t W HR.out HT.out z HZ.out
  go_enter Try.func35, Try.ntmps35
  go_wp2_with (refine load_step 12 64 11 _ _ _ _ rfl g 0 rfl [.int .u8 r.kind, .string r.nm, .string r.tb, .slice r.a r.n r.cap, .int .u8 r.is.op, .int .u8 r.is.v.k, .int .i64 r.is.v.n, .int .i64 r.is.v.u, .string r.is.v.t, .int .i64 r.is.m, .slice r.is.a r.is.len r.is.cap, .string r.to, .int .u8 r.od, .int .u8 r.ou, .bool r.late, .bool r.valid, .string t.nm, .slice t.a t.n t.cap, .string t.ow] _ (blk_lo HBK.out) Try.underlying64 rfl (by kernel_rfl) ?_)
  refine hcon.mono ?_
  rintro e w1 ⟨rfl, hb1⟩
  have HB1 := Lib.hid (below_tr HB.out hb1)
  clear hcon hb1 hW c0 c1 c2 c3 c4 c5 c6 c7 c8 c9 c10 c11 c12 c13 c14 c15 c16 c17 c18 c19 c20 c21 c22 c23 c24 c25 c26 c27 c28 c29 c30 c31 c32 c33 c34 c35 c36 c37
  go_wp2_with fail
  go_ret
  first | exact ⟨rfl, HB1.out⟩ | exact ⟨rfl, hg ▸ HB1.out⟩

set_option maxRecDepth 100000 in
set_option maxHeartbeats 2000000 in
theorem btyped_4 (r : Rl) (t : Tb) (q : Rl) (u : Tb) (w : World) (hr : r.In w) (ht : t.In w) (hq : q.In w) (hu : u.In w) (hs : r.n ≤ 1000000) (hs' : q.n ≤ 1000000) (hk : r.kind = 4) (hm : mayC r.cols t.n = true) (hm' : mayC q.cols u.n = true) (z : Int) (hz : (if typesL r t = typesL q u then 0 else 60) = z) :
    Calls Try.prog 35 #[.agg (List.toArray (.int .u8 r.kind :: .string r.nm :: .string r.tb :: .slice r.a r.n r.cap :: .int .u8 r.is.op :: .int .u8 r.is.v.k :: .int .i64 r.is.v.n :: .int .i64 r.is.v.u :: .string r.is.v.t :: .int .i64 r.is.m :: .slice r.is.a r.is.len r.is.cap :: .string r.to :: .int .u8 r.od :: .int .u8 r.ou :: .bool r.late :: .bool r.valid :: .string t.nm :: .slice t.a t.n t.cap :: .string t.ow :: .int .u8 q.kind :: .string q.nm :: .string q.tb :: .slice q.a q.n q.cap :: .int .u8 q.is.op :: .int .u8 q.is.v.k :: .int .i64 q.is.v.n :: .int .i64 q.is.v.u :: .string q.is.v.t :: .int .i64 q.is.m :: .slice q.is.a q.is.len q.is.cap :: .string q.to :: .int .u8 q.od :: .int .u8 q.ou :: .bool q.late :: .bool q.valid :: .string u.nm :: .slice u.a u.n u.cap :: .string u.ow :: []))] w fun e w' => e = .returned (.int .i64 z) ∧ Below w.heap.size w w' := by
  obtain ⟨W, g, hW, hg, B, hb⟩ := boxB w r t q u
  have HB := Lib.hid hb
  have HBK := Lib.hid B
  have HR := Lib.hid (hr.below hb)
  have HT := Lib.hid (ht.below hb)
  have HQ := Lib.hid (hq.below hb)
  have HU := Lib.hid (hu.below hb)
  have c0 := B.get 0 _ rfl
  have c1 := B.get 1 _ rfl
  have c2 := B.get 2 _ rfl
  have c3 := B.get 3 _ rfl
  have c4 := B.get 4 _ rfl
  have c5 := B.get 5 _ rfl
  have c6 := B.get 6 _ rfl
  have c7 := B.get 7 _ rfl
  have c8 := B.get 8 _ rfl
  have c9 := B.get 9 _ rfl
  have c10 := B.get 10 _ rfl
  have c11 := B.get 11 _ rfl
  have c12 := B.get 12 _ rfl
  have c13 := B.get 13 _ rfl
  have c14 := B.get 14 _ rfl
  have c15 := B.get 15 _ rfl
  have c16 := B.get 16 _ rfl
  have c17 := B.get 17 _ rfl
  have c18 := B.get 18 _ rfl
  have c19 := B.get 19 _ rfl
  have c20 := B.get 20 _ rfl
  have c21 := B.get 21 _ rfl
  have c22 := B.get 22 _ rfl
  have c23 := B.get 23 _ rfl
  have c24 := B.get 24 _ rfl
  have c25 := B.get 25 _ rfl
  have c26 := B.get 26 _ rfl
  have c27 := B.get 27 _ rfl
  have c28 := B.get 28 _ rfl
  have c29 := B.get 29 _ rfl
  have c30 := B.get 30 _ rfl
  have c31 := B.get 31 _ rfl
  have c32 := B.get 32 _ rfl
  have c33 := B.get 33 _ rfl
  have c34 := B.get 34 _ rfl
  have c35 := B.get 35 _ rfl
  have c36 := B.get 36 _ rfl
  have c37 := B.get 37 _ rfl
  clear hr ht hq hu B hb
  have k0 : r.kind = 4 := hk
  rw [k0] at c0
  clear hk k0
  have HM := Lib.hid hm
  have HM' := Lib.hid hm'
  obtain ⟨eq, heq⟩ : ∃ eq, decide (typesL r t = typesL q u) = eq := ⟨_, rfl⟩
  have HEQ := Lib.hid heq
  have HLR : Hid ((typesL r t).length = r.n) := Lib.hid (by rw [typesL_len]; exact HR.out.len)
  have HLQ : Hid ((typesL q u).length = q.n) := Lib.hid (by rw [typesL_len]; exact HQ.out.len)
  have HZ : Hid ((if eq = true then 0 else 60) = z) := Lib.hid (by rw [← hz, ← heq]; simp)
  clear hm hm' hz heq
  go_enter Try.func35, Try.ntmps35
  go_wp2_with fail
  clear c0 c1 c2 c3 c4 c5 c6 c7 c8 c9 c10 c11 c12 c13 c14 c15 c16 c17 c18 c19 c20 c21 c22 c23 c24 c25 c26 c27 c28 c29 c30 c31 c32 c33 c34 c35 c36 c37
  have hdr := below_drw W
  refine RX.wp_region_plan (fun w w' => Below w.heap.size w w') [.it (.pointer (some ⟨g, 0, none⟩)), .it (.agg #[.int .u8 r.kind, .string r.nm, .string r.tb, .slice r.a r.n r.cap, .int .u8 r.is.op, .int .u8 r.is.v.k, .int .i64 r.is.v.n, .int .i64 r.is.v.u, .string r.is.v.t, .int .i64 r.is.m, .slice r.is.a r.is.len r.is.cap, .string r.to, .int .u8 r.od, .int .u8 r.ou, .bool r.late, .bool r.valid, .string t.nm, .slice t.a t.n t.cap, .string t.ow]), .of (TyS r.n (typesL r t)), .it (.pointer (some ⟨g, 19, none⟩)), .it (.agg #[.int .u8 q.kind, .string q.nm, .string q.tb, .slice q.a q.n q.cap, .int .u8 q.is.op, .int .u8 q.is.v.k, .int .i64 q.is.v.n, .int .i64 q.is.v.u, .string q.is.v.t, .int .i64 q.is.m, .slice q.is.a q.is.len q.is.cap, .string q.to, .int .u8 q.od, .int .u8 q.ou, .bool q.late, .bool q.valid, .string u.nm, .slice u.a u.n u.cap, .string u.ow]), .of (TyS q.n (typesL q u)), .it (.bool eq), .it (.bool (!eq)), .it (.bool (!eq))] (by kernel_rfl) (by kernel_rfl) (fun _ => Below.refl _ _) (fun _ _ _ => below_tr) ?_
  refine RX.seqP_value (fun _ => Below.refl _ _) _ (by first | rfl | simp) (fun w' hw' hctx => by (go_simp); (try first | with_reducible rfl | simp)) ?_
  simp only [Act.put, List.setIfInBounds_toArray, List.set_cons_zero, List.set_cons_succ]
  refine RX.seqP_value (fun _ => Below.refl _ _) _ (by first | rfl | simp) (fun w' hw' hctx => exec_load _ _ _ _ _ _ _ _ _ g 0 rfl [.int .u8 r.kind, .string r.nm, .string r.tb, .slice r.a r.n r.cap, .int .u8 r.is.op, .int .u8 r.is.v.k, .int .i64 r.is.v.n, .int .i64 r.is.v.u, .string r.is.v.t, .int .i64 r.is.m, .slice r.is.a r.is.len r.is.cap, .string r.to, .int .u8 r.od, .int .u8 r.ou, .bool r.late, .bool r.valid, .string t.nm, .slice t.a t.n t.cap, .string t.ow] _ (blk_lo (HBK.out.below (below_tr hdr hw'))) Try.underlying64 rfl (by kernel_rfl)) ?_
  simp only [Act.put, List.setIfInBounds_toArray, List.set_cons_zero, List.set_cons_succ]
  refine RX.seqP_callOf (55) #[.agg #[.int .u8 r.kind, .string r.nm, .string r.tb, .slice r.a r.n r.cap, .int .u8 r.is.op, .int .u8 r.is.v.k, .int .i64 r.is.v.n, .int .i64 r.is.v.u, .string r.is.v.t, .int .i64 r.is.m, .slice r.is.a r.is.len r.is.cap, .string r.to, .int .u8 r.od, .int .u8 r.ou, .bool r.late, .bool r.valid, .string t.nm, .slice t.a t.n t.cap, .string t.ow]] (TyS r.n (typesL r t)) (fun w w' v hb h => h.below hb) (by first | rfl | simp) (fun w' hw' hctx => ?_) (fun w' hw' hctx => types_of r t w' (HR.out.below (below_tr hdr hw')) (HT.out.below (below_tr hdr hw')) hs HM.out) (fun u2 => ?_)
  · go_simp
  simp only [Act.put, List.setIfInBounds_toArray, List.set_cons_zero, List.set_cons_succ]
  refine RX.seqP_value (fun _ => Below.refl _ _) _ (by first | rfl | simp) (fun w' hw' hctx => by (go_simp); (try first | with_reducible rfl | simp)) ?_
  simp only [Act.put, List.setIfInBounds_toArray, List.set_cons_zero, List.set_cons_succ]
  refine RX.seqP_value (fun _ => Below.refl _ _) _ (by first | rfl | simp) (fun w' hw' hctx => exec_load _ _ _ _ _ _ _ _ _ g 19 rfl [.int .u8 q.kind, .string q.nm, .string q.tb, .slice q.a q.n q.cap, .int .u8 q.is.op, .int .u8 q.is.v.k, .int .i64 q.is.v.n, .int .i64 q.is.v.u, .string q.is.v.t, .int .i64 q.is.m, .slice q.is.a q.is.len q.is.cap, .string q.to, .int .u8 q.od, .int .u8 q.ou, .bool q.late, .bool q.valid, .string u.nm, .slice u.a u.n u.cap, .string u.ow] _ (blk_hi (HBK.out.below (below_tr hdr hw'))) Try.underlying64 rfl (by kernel_rfl)) ?_
  simp only [Act.put, List.setIfInBounds_toArray, List.set_cons_zero, List.set_cons_succ]
  refine RX.seqP_callOf (55) #[.agg #[.int .u8 q.kind, .string q.nm, .string q.tb, .slice q.a q.n q.cap, .int .u8 q.is.op, .int .u8 q.is.v.k, .int .i64 q.is.v.n, .int .i64 q.is.v.u, .string q.is.v.t, .int .i64 q.is.m, .slice q.is.a q.is.len q.is.cap, .string q.to, .int .u8 q.od, .int .u8 q.ou, .bool q.late, .bool q.valid, .string u.nm, .slice u.a u.n u.cap, .string u.ow]] (TyS q.n (typesL q u)) (fun w w' v hb h => h.below hb) (by first | rfl | simp) (fun w' hw' hctx => ?_) (fun w' hw' hctx => types_of q u w' (HQ.out.below (below_tr hdr hw')) (HU.out.below (below_tr hdr hw')) hs' HM'.out) (fun u5 => ?_)
  · go_simp
  simp only [Act.put, List.setIfInBounds_toArray, List.set_cons_zero, List.set_cons_succ]
  refine RX.seqP_call (54) #[u2, u5] (.bool eq) (by first | rfl | simp) (fun w' hw' hctx => ?_) (fun w' hw' hctx => equal_of r.n q.n _ _ HLR.out HLQ.out hs hs' _ _ w' hctx.2.1 hctx.1 eq HEQ.out) ?_
  · go_simp
  simp only [Act.put, List.setIfInBounds_toArray, List.set_cons_zero, List.set_cons_succ]
  refine RX.seqP_value (fun _ => Below.refl _ _) _ (by first | rfl | simp) (fun w' hw' hctx => by (go_simp); (try first | with_reducible rfl | simp)) ?_
  simp only [Act.put, List.setIfInBounds_toArray, List.set_cons_zero, List.set_cons_succ]
  refine RX.seqP_value (fun _ => Below.refl _ _) _ (by first | rfl | simp) (fun w' hw' hctx => by (go_simp); (try first | with_reducible rfl | simp)) ?_
  simp only [Act.put, List.setIfInBounds_toArray, List.set_cons_zero, List.set_cons_succ]
  refine RX.seqP_nil (fun v1 hR hctx _ => ?_)
  have hv1 := below_tr hdr hR
  clear hctx hR
  have HB1 := Lib.hid (below_tr HB.out hv1)
  clear hv1 hdr
  cases eq
  · obtain rfl : 60 = z := HZ.out
    go_wp2_with fail
    go_ret
    first | exact ⟨rfl, HB1.out⟩ | exact ⟨rfl, hg ▸ HB1.out⟩
  · obtain rfl : 0 = z := HZ.out
    go_wp2_with fail
    go_ret
    first | exact ⟨rfl, HB1.out⟩ | exact ⟨rfl, hg ▸ HB1.out⟩

set_option maxRecDepth 100000 in
set_option maxHeartbeats 2000000 in
theorem btyped_5 (r : Rl) (t : Tb) (q : Rl) (u : Tb) (w : World) (hr : r.In w) (ht : t.In w) (hq : q.In w) (hu : u.In w) (hs : r.n ≤ 1000000) (hs' : q.n ≤ 1000000) (hk : r.kind = 5) (hm : mayC r.cols t.n = true) (z : Int) (hz : (if (typesL r t).getLast? = some 4 then 0 else 60) = z) :
    Calls Try.prog 35 #[.agg (List.toArray (.int .u8 r.kind :: .string r.nm :: .string r.tb :: .slice r.a r.n r.cap :: .int .u8 r.is.op :: .int .u8 r.is.v.k :: .int .i64 r.is.v.n :: .int .i64 r.is.v.u :: .string r.is.v.t :: .int .i64 r.is.m :: .slice r.is.a r.is.len r.is.cap :: .string r.to :: .int .u8 r.od :: .int .u8 r.ou :: .bool r.late :: .bool r.valid :: .string t.nm :: .slice t.a t.n t.cap :: .string t.ow :: .int .u8 q.kind :: .string q.nm :: .string q.tb :: .slice q.a q.n q.cap :: .int .u8 q.is.op :: .int .u8 q.is.v.k :: .int .i64 q.is.v.n :: .int .i64 q.is.v.u :: .string q.is.v.t :: .int .i64 q.is.m :: .slice q.is.a q.is.len q.is.cap :: .string q.to :: .int .u8 q.od :: .int .u8 q.ou :: .bool q.late :: .bool q.valid :: .string u.nm :: .slice u.a u.n u.cap :: .string u.ow :: []))] w fun e w' => e = .returned (.int .i64 z) ∧ Below w.heap.size w w' := by
  obtain ⟨W, g, hW, hg, B, hb⟩ := boxB w r t q u
  have HB := Lib.hid hb
  have HBK := Lib.hid B
  have HR := Lib.hid (hr.below hb)
  have HT := Lib.hid (ht.below hb)
  have HQ := Lib.hid (hq.below hb)
  have HU := Lib.hid (hu.below hb)
  have c0 := B.get 0 _ rfl
  have c1 := B.get 1 _ rfl
  have c2 := B.get 2 _ rfl
  have c3 := B.get 3 _ rfl
  have c4 := B.get 4 _ rfl
  have c5 := B.get 5 _ rfl
  have c6 := B.get 6 _ rfl
  have c7 := B.get 7 _ rfl
  have c8 := B.get 8 _ rfl
  have c9 := B.get 9 _ rfl
  have c10 := B.get 10 _ rfl
  have c11 := B.get 11 _ rfl
  have c12 := B.get 12 _ rfl
  have c13 := B.get 13 _ rfl
  have c14 := B.get 14 _ rfl
  have c15 := B.get 15 _ rfl
  have c16 := B.get 16 _ rfl
  have c17 := B.get 17 _ rfl
  have c18 := B.get 18 _ rfl
  have c19 := B.get 19 _ rfl
  have c20 := B.get 20 _ rfl
  have c21 := B.get 21 _ rfl
  have c22 := B.get 22 _ rfl
  have c23 := B.get 23 _ rfl
  have c24 := B.get 24 _ rfl
  have c25 := B.get 25 _ rfl
  have c26 := B.get 26 _ rfl
  have c27 := B.get 27 _ rfl
  have c28 := B.get 28 _ rfl
  have c29 := B.get 29 _ rfl
  have c30 := B.get 30 _ rfl
  have c31 := B.get 31 _ rfl
  have c32 := B.get 32 _ rfl
  have c33 := B.get 33 _ rfl
  have c34 := B.get 34 _ rfl
  have c35 := B.get 35 _ rfl
  have c36 := B.get 36 _ rfl
  have c37 := B.get 37 _ rfl
  clear hr ht hq hu B hb
  have k0 : r.kind = 5 := hk
  rw [k0] at c0
  clear hk k0
  have HM := Lib.hid hm
  have HZ := Lib.hid hz
  clear hm hz
  have hcon := types_is r t W HR.out HT.out hs HM.out
  have HLR : Hid ((typesL r t).length = r.n) := Lib.hid (by rw [typesL_len]; exact HR.out.len)
  have hn1 : 1 ≤ r.n := by
    have h1 := ((mayC_iff _ _).1 HM.out).1
    have h2 := HR.out.len
    rcases Nat.eq_zero_or_pos r.n with h | h
    · rw [h] at h2; exact absurd (List.length_eq_zero_iff.1 h2) h1
    · exact h
  go_enter Try.func35, Try.ntmps35
  go_wp2_with (refine load_step 27 64 26 _ _ _ _ rfl g 0 rfl [.int .u8 r.kind, .string r.nm, .string r.tb, .slice r.a r.n r.cap, .int .u8 r.is.op, .int .u8 r.is.v.k, .int .i64 r.is.v.n, .int .i64 r.is.v.u, .string r.is.v.t, .int .i64 r.is.m, .slice r.is.a r.is.len r.is.cap, .string r.to, .int .u8 r.od, .int .u8 r.ou, .bool r.late, .bool r.valid, .string t.nm, .slice t.a t.n t.cap, .string t.ow] _ (blk_lo HBK.out) Try.underlying64 rfl (by kernel_rfl) ?_)
  refine hcon.mono ?_
  rintro e w1 ⟨b, rfl, hbg, hl, hb1⟩
  have HB1 := Lib.hid (below_tr HB.out hb1)
  clear hcon hb1 hW hbg c0 c1 c2 c3 c4 c5 c6 c7 c8 c9 c10 c11 c12 c13 c14 c15 c16 c17 c18 c19 c20 c21 c22 c23 c24 c25 c26 c27 c28 c29 c30 c31 c32 c33 c34 c35 c36 c37
  obtain ⟨m, hm⟩ : ∃ m, r.n = m + 1 := ⟨r.n - 1, by omega⟩
  obtain ⟨x, hx⟩ := getI (l := typesL r t) (i := m) (by rw [HLR.out]; omega)
  have HX : Hid ((typesL r t).getLast? = some x) := Lib.hid (by rw [List.getLast?_eq_getElem?, HLR.out, hm]; exact hx)
  have c0 := hl.2 m x hx
  rw [Nat.zero_add] at c0
  rw [hm]
  clear hl hx hn1
  have HMM := Lib.hid hm
  have hm1 : m + 1 ≤ 1000000 := by omega
  clear hm
  by_cases h4 : x = 4
  · subst h4
    obtain rfl : 0 = z := by rw [← HZ.out, HX.out]; rfl
    go_wp2_with fail
    go_ret
    first | exact ⟨rfl, HB1.out⟩ | exact ⟨rfl, hg ▸ HB1.out⟩
  · have h4' : (x != 4) = true := by simpa using h4
    obtain rfl : 60 = z := by rw [← HZ.out, HX.out, if_neg (by simpa using h4)]
    clear h4
    go_wp2_with fail
    go_ret
    first | exact ⟨rfl, HB1.out⟩ | exact ⟨rfl, hg ▸ HB1.out⟩

set_option maxRecDepth 100000 in
set_option maxHeartbeats 2000000 in
theorem btyped_0 (r : Rl) (t : Tb) (q : Rl) (u : Tb) (w : World) (hr : r.In w) (ht : t.In w) (hq : q.In w) (hu : u.In w) (hs : r.n ≤ 1000000) (hs' : q.n ≤ 1000000) (h2 : r.kind ≠ 2) (h4 : r.kind ≠ 4) (h5 : r.kind ≠ 5) (z : Int) (hz : (0) = z) :
    Calls Try.prog 35 #[.agg (List.toArray (.int .u8 r.kind :: .string r.nm :: .string r.tb :: .slice r.a r.n r.cap :: .int .u8 r.is.op :: .int .u8 r.is.v.k :: .int .i64 r.is.v.n :: .int .i64 r.is.v.u :: .string r.is.v.t :: .int .i64 r.is.m :: .slice r.is.a r.is.len r.is.cap :: .string r.to :: .int .u8 r.od :: .int .u8 r.ou :: .bool r.late :: .bool r.valid :: .string t.nm :: .slice t.a t.n t.cap :: .string t.ow :: .int .u8 q.kind :: .string q.nm :: .string q.tb :: .slice q.a q.n q.cap :: .int .u8 q.is.op :: .int .u8 q.is.v.k :: .int .i64 q.is.v.n :: .int .i64 q.is.v.u :: .string q.is.v.t :: .int .i64 q.is.m :: .slice q.is.a q.is.len q.is.cap :: .string q.to :: .int .u8 q.od :: .int .u8 q.ou :: .bool q.late :: .bool q.valid :: .string u.nm :: .slice u.a u.n u.cap :: .string u.ow :: []))] w fun e w' => e = .returned (.int .i64 z) ∧ Below w.heap.size w w' := by
  subst hz
  obtain ⟨W, g, hW, hg, B, hb⟩ := boxB w r t q u
  have HB := Lib.hid hb
  have HBK := Lib.hid B
  have HR := Lib.hid (hr.below hb)
  have HT := Lib.hid (ht.below hb)
  have HQ := Lib.hid (hq.below hb)
  have HU := Lib.hid (hu.below hb)
  have c0 := B.get 0 _ rfl
  have c1 := B.get 1 _ rfl
  have c2 := B.get 2 _ rfl
  have c3 := B.get 3 _ rfl
  have c4 := B.get 4 _ rfl
  have c5 := B.get 5 _ rfl
  have c6 := B.get 6 _ rfl
  have c7 := B.get 7 _ rfl
  have c8 := B.get 8 _ rfl
  have c9 := B.get 9 _ rfl
  have c10 := B.get 10 _ rfl
  have c11 := B.get 11 _ rfl
  have c12 := B.get 12 _ rfl
  have c13 := B.get 13 _ rfl
  have c14 := B.get 14 _ rfl
  have c15 := B.get 15 _ rfl
  have c16 := B.get 16 _ rfl
  have c17 := B.get 17 _ rfl
  have c18 := B.get 18 _ rfl
  have c19 := B.get 19 _ rfl
  have c20 := B.get 20 _ rfl
  have c21 := B.get 21 _ rfl
  have c22 := B.get 22 _ rfl
  have c23 := B.get 23 _ rfl
  have c24 := B.get 24 _ rfl
  have c25 := B.get 25 _ rfl
  have c26 := B.get 26 _ rfl
  have c27 := B.get 27 _ rfl
  have c28 := B.get 28 _ rfl
  have c29 := B.get 29 _ rfl
  have c30 := B.get 30 _ rfl
  have c31 := B.get 31 _ rfl
  have c32 := B.get 32 _ rfl
  have c33 := B.get 33 _ rfl
  have c34 := B.get 34 _ rfl
  have c35 := B.get 35 _ rfl
  have c36 := B.get 36 _ rfl
  have c37 := B.get 37 _ rfl
  clear hr ht hq hu B hb
  have y2 : (r.kind == 2) = false := by simpa using h2
  have y4 : (r.kind == 4) = false := by simpa using h4
  have y5 : (r.kind == 5) = false := by simpa using h5
  clear h2 h4 h5
  go_enter Try.func35, Try.ntmps35
  go_wp2_with fail
  go_ret
  first | exact ⟨rfl, HB.out⟩ | exact ⟨rfl, hg ▸ HB.out⟩

/-- What is wrong with the types of a rule that has what its Kind asks for. -/
def typedBd (r : Rl) (t : Tb) (q : Rl) (u : Tb) : Int :=
  if r.kind = 2 then truthR (tys t.cols) r.is
  else if r.kind = 4 then (if typesL r t = typesL q u then 0 else 60)
  else if r.kind = 5 then (if (typesL r t).getLast? = some 4 then 0 else 60)
  else 0

theorem btyped_is (r : Rl) (t : Tb) (q : Rl) (u : Tb) (w : World) (hr : r.In w) (ht : t.In w) (hq : q.In w) (hu : u.In w) (hs : r.n ≤ 1000000) (hs' : q.n ≤ 1000000) (hf : formedBd r t q u = true) (z : Int) (hz : typedBd r t q u = z) :
    Calls Try.prog 35 #[.agg (List.toArray (.int .u8 r.kind :: .string r.nm :: .string r.tb :: .slice r.a r.n r.cap :: .int .u8 r.is.op :: .int .u8 r.is.v.k :: .int .i64 r.is.v.n :: .int .i64 r.is.v.u :: .string r.is.v.t :: .int .i64 r.is.m :: .slice r.is.a r.is.len r.is.cap :: .string r.to :: .int .u8 r.od :: .int .u8 r.ou :: .bool r.late :: .bool r.valid :: .string t.nm :: .slice t.a t.n t.cap :: .string t.ow :: .int .u8 q.kind :: .string q.nm :: .string q.tb :: .slice q.a q.n q.cap :: .int .u8 q.is.op :: .int .u8 q.is.v.k :: .int .i64 q.is.v.n :: .int .i64 q.is.v.u :: .string q.is.v.t :: .int .i64 q.is.m :: .slice q.is.a q.is.len q.is.cap :: .string q.to :: .int .u8 q.od :: .int .u8 q.ou :: .bool q.late :: .bool q.valid :: .string u.nm :: .slice u.a u.n u.cap :: .string u.ow :: []))] w fun e w' => e = .returned (.int .i64 z) ∧ Below w.heap.size w w' := by
  unfold typedBd at hz
  unfold formedBd at hf
  by_cases h2 : r.kind = 2
  · rw [if_pos h2] at hz; exact btyped_2 r t q u w hr ht hq hu hs hs' h2 z hz
  by_cases h4 : r.kind = 4
  · rw [if_neg h2, if_pos h4] at hz
    rw [if_neg (by omega), if_neg h2, if_neg (by omega), if_pos h4] at hf
    unfold refersB at hf
    simp only [Bool.and_eq_true] at hf
    exact btyped_4 r t q u w hr ht hq hu hs hs' h4 hf.1 hf.2.1.2.2.2.1 z hz
  by_cases h5 : r.kind = 5
  · rw [if_neg h2, if_neg h4, if_pos h5] at hz
    rw [if_neg (by omega), if_neg h2, if_neg (by omega), if_neg h4, if_pos h5] at hf
    simp only [Bool.and_eq_true] at hf
    exact btyped_5 r t q u w hr ht hq hu hs hs' h5 hf.1 z hz
  · rw [if_neg h2, if_neg h4, if_neg h5] at hz; exact btyped_0 r t q u w hr ht hq hu hs hs' h2 h4 h5 z hz

/-- What Fits answers. -/
def fitsR (r : Rl) (t : Tb) (q : Rl) (u : Tb) : Int := if (nameB r.nm && ((r.tb.toList == t.nm.toList) && formedBd r t q u)) = true then typedBd r t q u else 4

theorem fitsR_iff (r : Rl) (t : Tb) (q : Rl) (u : Tb) : fitsR r t q u = 0 ↔ nameB r.nm = true ∧ (r.tb.toList == t.nm.toList) = true ∧ formedBd r t q u = true ∧ typedBd r t q u = 0 := by
  unfold fitsR
  split
  · rename_i h
    simp only [Bool.and_eq_true] at h
    exact ⟨fun h4 => ⟨h.1, h.2.1, h.2.2, h4⟩, fun h4 => h4.2.2.2⟩
  · rename_i h
    simp only [Bool.and_eq_true] at h
    exact ⟨fun h4 => absurd h4 (by omega), fun h4 => absurd ⟨h4.1, h4.2.1, h4.2.2.1⟩ h⟩

end Go.Proofs.Ytkipnkbmpgjcoaa
