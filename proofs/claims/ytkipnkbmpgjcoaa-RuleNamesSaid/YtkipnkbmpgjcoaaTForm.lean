/-
  rule.bond's formed: has a rule what its Kind asks for (stage 8)?
-/
import Derived.Test.YtkipnkbmpgjcoaaTBond
namespace Go.Proofs.Ytkipnkbmpgjcoaa
open Go.RowKit
set_option linter.unusedVariables false

set_option maxRecDepth 100000 in
set_option maxHeartbeats 2000000 in
theorem formed_1 (r : Rl) (t : Tb) (q : Rl) (u : Tb) (w : World) (hr : r.In w) (ht : t.In w) (hq : q.In w) (hu : u.In w) (hs : r.n ≤ 1000000) (hs' : q.n ≤ 1000000) (hk : r.kind = 1) (z : Bool) (hz : (mayC r.cols t.n && (decide (r.n = 1) && !r.late)) = z) :
    Calls Try.prog 34 #[.agg (List.toArray (.int .u8 r.kind :: .string r.nm :: .string r.tb :: .slice r.a r.n r.cap :: .int .u8 r.is.op :: .int .u8 r.is.v.k :: .int .i64 r.is.v.n :: .int .i64 r.is.v.u :: .string r.is.v.t :: .int .i64 r.is.m :: .slice r.is.a r.is.len r.is.cap :: .string r.to :: .int .u8 r.od :: .int .u8 r.ou :: .bool r.late :: .bool r.valid :: .string t.nm :: .slice t.a t.n t.cap :: .string t.ow :: .int .u8 q.kind :: .string q.nm :: .string q.tb :: .slice q.a q.n q.cap :: .int .u8 q.is.op :: .int .u8 q.is.v.k :: .int .i64 q.is.v.n :: .int .i64 q.is.v.u :: .string q.is.v.t :: .int .i64 q.is.m :: .slice q.is.a q.is.len q.is.cap :: .string q.to :: .int .u8 q.od :: .int .u8 q.ou :: .bool q.late :: .bool q.valid :: .string u.nm :: .slice u.a u.n u.cap :: .string u.ow :: []))] w fun e w' => e = .returned (.bool z) ∧ Below w.heap.size w w' := by
  obtain ⟨m, h_m⟩ : ∃ b, mayC r.cols t.n = b := ⟨_, rfl⟩
  obtain ⟨o, h_o⟩ : ∃ b, decide (r.n = 1) = b := ⟨_, rfl⟩
  obtain ⟨l, h_l⟩ : ∃ b, r.late = b := ⟨_, rfl⟩
  rw [h_m, h_o, h_l] at hz
  subst hz
  have HL := Lib.hid h_l
  clear h_l
  obtain ⟨W, g, hW, hg, B, hb⟩ := boxB w r t q u
  have HB := Lib.hid hb
  have HBK := Lib.hid B
  have HR := Lib.hid (hr.below hb)
  have HT := Lib.hid (ht.below hb)
  have HQ := Lib.hid (hq.below hb)
  have HU := Lib.hid (hu.below hb)
  have c0 := B.get 0 _ rfl
  have c1 := B.get 1 _ rfl
  have c2 := B.get 2 _ rfl
  have c3 := B.get 3 _ rfl
  have c4 := B.get 4 _ rfl
  have c5 := B.get 5 _ rfl
  have c6 := B.get 6 _ rfl
  have c7 := B.get 7 _ rfl
  have c8 := B.get 8 _ rfl
  have c9 := B.get 9 _ rfl
  have c10 := B.get 10 _ rfl
  have c11 := B.get 11 _ rfl
  have c12 := B.get 12 _ rfl
  have c13 := B.get 13 _ rfl
  have c14 := B.get 14 _ rfl
  have c15 := B.get 15 _ rfl
  have c16 := B.get 16 _ rfl
  have c17 := B.get 17 _ rfl
  have c18 := B.get 18 _ rfl
  have c19 := B.get 19 _ rfl
  have c20 := B.get 20 _ rfl
  have c21 := B.get 21 _ rfl
  have c22 := B.get 22 _ rfl
  have c23 := B.get 23 _ rfl
  have c24 := B.get 24 _ rfl
  have c25 := B.get 25 _ rfl
  have c26 := B.get 26 _ rfl
  have c27 := B.get 27 _ rfl
  have c28 := B.get 28 _ rfl
  have c29 := B.get 29 _ rfl
  have c30 := B.get 30 _ rfl
  have c31 := B.get 31 _ rfl
  have c32 := B.get 32 _ rfl
  have c33 := B.get 33 _ rfl
  have c34 := B.get 34 _ rfl
  have c35 := B.get 35 _ rfl
  have c36 := B.get 36 _ rfl
  have c37 := B.get 37 _ rfl
  clear hr ht hq hu B hb
  have k0 : r.kind = 1 := hk
  rw [k0] at c0
  clear hk k0
  have HM := Lib.hid h_m
  clear h_m
  have x1 : ((r.n : Int) == 1) = o := by rw [← h_o, Bool.eq_iff_iff]; simp; omega
  clear h_o
  have hcon := hascols_is r t W HR.out hs m HM.out
  go_enter Try.func34, Try.ntmps34
  go_wp2_with (refine load_step 10 64 9 _ _ _ _ rfl g 0 rfl [.int .u8 r.kind, .string r.nm, .string r.tb, .slice r.a r.n r.cap, .int .u8 r.is.op, .int .u8 r.is.v.k, .int .i64 r.is.v.n, .int .i64 r.is.v.u, .string r.is.v.t, .int .i64 r.is.m, .slice r.is.a r.is.len r.is.cap, .string r.to, .int .u8 r.od, .int .u8 r.ou, .bool r.late, .bool r.valid, .string t.nm, .slice t.a t.n t.cap, .string t.ow] _ (blk_lo HBK.out) Try.underlying64 rfl (by kernel_rfl) ?_)
  refine hcon.mono ?_
  rintro e w1 ⟨rfl, hb1⟩
  have HB1 := Lib.hid (below_tr HB.out hb1)
  have HBK1 := Lib.hid (HBK.out.below hb1)
  have HR1 := Lib.hid (HR.out.below hb1)
  have HT1 := Lib.hid (HT.out.below hb1)
  have HQ1 := Lib.hid (HQ.out.below hb1)
  have HU1 := Lib.hid (HU.out.below hb1)
  clear hcon hb1 hW c0 c1 c2 c3 c4 c5 c6 c7 c8 c9 c10 c11 c12 c13 c14 c15 c16 c17 c18 c19 c20 c21 c22 c23 c24 c25 c26 c27 c28 c29 c30 c31 c32 c33 c34 c35 c36 c37
  cases m
  · go_wp2_with fail
    go_ret
    first | exact ⟨rfl, HB1.out⟩ | exact ⟨rfl, hg ▸ HB1.out⟩
  have c0 := HBK1.out.get 0 _ rfl
  have c1 := HBK1.out.get 1 _ rfl
  have c2 := HBK1.out.get 2 _ rfl
  have c3 := HBK1.out.get 3 _ rfl
  have c4 := HBK1.out.get 4 _ rfl
  have c5 := HBK1.out.get 5 _ rfl
  have c6 := HBK1.out.get 6 _ rfl
  have c7 := HBK1.out.get 7 _ rfl
  have c8 := HBK1.out.get 8 _ rfl
  have c9 := HBK1.out.get 9 _ rfl
  have c10 := HBK1.out.get 10 _ rfl
  have c11 := HBK1.out.get 11 _ rfl
  have c12 := HBK1.out.get 12 _ rfl
  have c13 := HBK1.out.get 13 _ rfl
  have c14 := HBK1.out.get 14 _ rfl
  have c15 := HBK1.out.get 15 _ rfl
  have c16 := HBK1.out.get 16 _ rfl
  have c17 := HBK1.out.get 17 _ rfl
  have c18 := HBK1.out.get 18 _ rfl
  have c19 := HBK1.out.get 19 _ rfl
  have c20 := HBK1.out.get 20 _ rfl
  have c21 := HBK1.out.get 21 _ rfl
  have c22 := HBK1.out.get 22 _ rfl
  have c23 := HBK1.out.get 23 _ rfl
  have c24 := HBK1.out.get 24 _ rfl
  have c25 := HBK1.out.get 25 _ rfl
  have c26 := HBK1.out.get 26 _ rfl
  have c27 := HBK1.out.get 27 _ rfl
  have c28 := HBK1.out.get 28 _ rfl
  have c29 := HBK1.out.get 29 _ rfl
  have c30 := HBK1.out.get 30 _ rfl
  have c31 := HBK1.out.get 31 _ rfl
  have c32 := HBK1.out.get 32 _ rfl
  have c33 := HBK1.out.get 33 _ rfl
  have c34 := HBK1.out.get 34 _ rfl
  have c35 := HBK1.out.get 35 _ rfl
  have c36 := HBK1.out.get 36 _ rfl
  have c37 := HBK1.out.get 37 _ rfl
  rw [HL.out] at c14
  cases o
  · go_wp2_with fail
    go_ret
    first | exact ⟨rfl, HB1.out⟩ | exact ⟨rfl, hg ▸ HB1.out⟩
  go_wp2_with fail
  go_ret
  first | exact ⟨rfl, HB1.out⟩ | exact ⟨rfl, hg ▸ HB1.out⟩

set_option maxRecDepth 100000 in
set_option maxHeartbeats 2000000 in
theorem formed_2 (r : Rl) (t : Tb) (q : Rl) (u : Tb) (w : World) (hr : r.In w) (ht : t.In w) (hq : q.In w) (hu : u.In w) (hs : r.n ≤ 1000000) (hs' : q.n ≤ 1000000) (hk : r.kind = 2) (z : Bool) (hz : (!r.late) = z) :
    Calls Try.prog 34 #[.agg (List.toArray (.int .u8 r.kind :: .string r.nm :: .string r.tb :: .slice r.a r.n r.cap :: .int .u8 r.is.op :: .int .u8 r.is.v.k :: .int .i64 r.is.v.n :: .int .i64 r.is.v.u :: .string r.is.v.t :: .int .i64 r.is.m :: .slice r.is.a r.is.len r.is.cap :: .string r.to :: .int .u8 r.od :: .int .u8 r.ou :: .bool r.late :: .bool r.valid :: .string t.nm :: .slice t.a t.n t.cap :: .string t.ow :: .int .u8 q.kind :: .string q.nm :: .string q.tb :: .slice q.a q.n q.cap :: .int .u8 q.is.op :: .int .u8 q.is.v.k :: .int .i64 q.is.v.n :: .int .i64 q.is.v.u :: .string q.is.v.t :: .int .i64 q.is.m :: .slice q.is.a q.is.len q.is.cap :: .string q.to :: .int .u8 q.od :: .int .u8 q.ou :: .bool q.late :: .bool q.valid :: .string u.nm :: .slice u.a u.n u.cap :: .string u.ow :: []))] w fun e w' => e = .returned (.bool z) ∧ Below w.heap.size w w' := by
  subst hz
  obtain ⟨W, g, hW, hg, B, hb⟩ := boxB w r t q u
  have HB := Lib.hid hb
  have HBK := Lib.hid B
  have HR := Lib.hid (hr.below hb)
  have HT := Lib.hid (ht.below hb)
  have HQ := Lib.hid (hq.below hb)
  have HU := Lib.hid (hu.below hb)
  have c0 := B.get 0 _ rfl
  have c1 := B.get 1 _ rfl
  have c2 := B.get 2 _ rfl
  have c3 := B.get 3 _ rfl
  have c4 := B.get 4 _ rfl
  have c5 := B.get 5 _ rfl
  have c6 := B.get 6 _ rfl
  have c7 := B.get 7 _ rfl
  have c8 := B.get 8 _ rfl
  have c9 := B.get 9 _ rfl
  have c10 := B.get 10 _ rfl
  have c11 := B.get 11 _ rfl
  have c12 := B.get 12 _ rfl
  have c13 := B.get 13 _ rfl
  have c14 := B.get 14 _ rfl
  have c15 := B.get 15 _ rfl
  have c16 := B.get 16 _ rfl
  have c17 := B.get 17 _ rfl
  have c18 := B.get 18 _ rfl
  have c19 := B.get 19 _ rfl
  have c20 := B.get 20 _ rfl
  have c21 := B.get 21 _ rfl
  have c22 := B.get 22 _ rfl
  have c23 := B.get 23 _ rfl
  have c24 := B.get 24 _ rfl
  have c25 := B.get 25 _ rfl
  have c26 := B.get 26 _ rfl
  have c27 := B.get 27 _ rfl
  have c28 := B.get 28 _ rfl
  have c29 := B.get 29 _ rfl
  have c30 := B.get 30 _ rfl
  have c31 := B.get 31 _ rfl
  have c32 := B.get 32 _ rfl
  have c33 := B.get 33 _ rfl
  have c34 := B.get 34 _ rfl
  have c35 := B.get 35 _ rfl
  have c36 := B.get 36 _ rfl
  have c37 := B.get 37 _ rfl
  clear hr ht hq hu B hb
  have k0 : r.kind = 2 := hk
  rw [k0] at c0
  clear hk k0
  go_enter Try.func34, Try.ntmps34
  go_wp2_with fail
  go_ret
  first | exact ⟨rfl, HB.out⟩ | exact ⟨rfl, hg ▸ HB.out⟩

set_option maxRecDepth 100000 in
set_option maxHeartbeats 2000000 in
theorem formed_3 (r : Rl) (t : Tb) (q : Rl) (u : Tb) (w : World) (hr : r.In w) (ht : t.In w) (hq : q.In w) (hu : u.In w) (hs : r.n ≤ 1000000) (hs' : q.n ≤ 1000000) (hk : r.kind = 3) (z : Bool) (hz : (mayC r.cols t.n && r.valid) = z) :
    Calls Try.prog 34 #[.agg (List.toArray (.int .u8 r.kind :: .string r.nm :: .string r.tb :: .slice r.a r.n r.cap :: .int .u8 r.is.op :: .int .u8 r.is.v.k :: .int .i64 r.is.v.n :: .int .i64 r.is.v.u :: .string r.is.v.t :: .int .i64 r.is.m :: .slice r.is.a r.is.len r.is.cap :: .string r.to :: .int .u8 r.od :: .int .u8 r.ou :: .bool r.late :: .bool r.valid :: .string t.nm :: .slice t.a t.n t.cap :: .string t.ow :: .int .u8 q.kind :: .string q.nm :: .string q.tb :: .slice q.a q.n q.cap :: .int .u8 q.is.op :: .int .u8 q.is.v.k :: .int .i64 q.is.v.n :: .int .i64 q.is.v.u :: .string q.is.v.t :: .int .i64 q.is.m :: .slice q.is.a q.is.len q.is.cap :: .string q.to :: .int .u8 q.od :: .int .u8 q.ou :: .bool q.late :: .bool q.valid :: .string u.nm :: .slice u.a u.n u.cap :: .string u.ow :: []))] w fun e w' => e = .returned (.bool z) ∧ Below w.heap.size w w' := by
  obtain ⟨m, h_m⟩ : ∃ b, mayC r.cols t.n = b := ⟨_, rfl⟩
  rw [h_m] at hz
  subst hz
  obtain ⟨W, g, hW, hg, B, hb⟩ := boxB w r t q u
  have HB := Lib.hid hb
  have HBK := Lib.hid B
  have HR := Lib.hid (hr.below hb)
  have HT := Lib.hid (ht.below hb)
  have HQ := Lib.hid (hq.below hb)
  have HU := Lib.hid (hu.below hb)
  have c0 := B.get 0 _ rfl
  have c1 := B.get 1 _ rfl
  have c2 := B.get 2 _ rfl
  have c3 := B.get 3 _ rfl
  have c4 := B.get 4 _ rfl
  have c5 := B.get 5 _ rfl
  have c6 := B.get 6 _ rfl
  have c7 := B.get 7 _ rfl
  have c8 := B.get 8 _ rfl
  have c9 := B.get 9 _ rfl
  have c10 := B.get 10 _ rfl
  have c11 := B.get 11 _ rfl
  have c12 := B.get 12 _ rfl
  have c13 := B.get 13 _ rfl
  have c14 := B.get 14 _ rfl
  have c15 := B.get 15 _ rfl
  have c16 := B.get 16 _ rfl
  have c17 := B.get 17 _ rfl
  have c18 := B.get 18 _ rfl
  have c19 := B.get 19 _ rfl
  have c20 := B.get 20 _ rfl
  have c21 := B.get 21 _ rfl
  have c22 := B.get 22 _ rfl
  have c23 := B.get 23 _ rfl
  have c24 := B.get 24 _ rfl
  have c25 := B.get 25 _ rfl
  have c26 := B.get 26 _ rfl
  have c27 := B.get 27 _ rfl
  have c28 := B.get 28 _ rfl
  have c29 := B.get 29 _ rfl
  have c30 := B.get 30 _ rfl
  have c31 := B.get 31 _ rfl
  have c32 := B.get 32 _ rfl
  have c33 := B.get 33 _ rfl
  have c34 := B.get 34 _ rfl
  have c35 := B.get 35 _ rfl
  have c36 := B.get 36 _ rfl
  have c37 := B.get 37 _ rfl
  clear hr ht hq hu B hb
  have k0 : r.kind = 3 := hk
  rw [k0] at c0
  clear hk k0
  have HM := Lib.hid h_m
  clear h_m
  have hcon := hascols_is r t W HR.out hs m HM.out
  go_enter Try.func34, Try.ntmps34
  go_wp2_with (refine load_step 37 64 36 _ _ _ _ rfl g 0 rfl [.int .u8 r.kind, .string r.nm, .string r.tb, .slice r.a r.n r.cap, .int .u8 r.is.op, .int .u8 r.is.v.k, .int .i64 r.is.v.n, .int .i64 r.is.v.u, .string r.is.v.t, .int .i64 r.is.m, .slice r.is.a r.is.len r.is.cap, .string r.to, .int .u8 r.od, .int .u8 r.ou, .bool r.late, .bool r.valid, .string t.nm, .slice t.a t.n t.cap, .string t.ow] _ (blk_lo HBK.out) Try.underlying64 rfl (by kernel_rfl) ?_)
  refine hcon.mono ?_
  rintro e w1 ⟨rfl, hb1⟩
  have HB1 := Lib.hid (below_tr HB.out hb1)
  have HBK1 := Lib.hid (HBK.out.below hb1)
  have HR1 := Lib.hid (HR.out.below hb1)
  have HT1 := Lib.hid (HT.out.below hb1)
  have HQ1 := Lib.hid (HQ.out.below hb1)
  have HU1 := Lib.hid (HU.out.below hb1)
  clear hcon hb1 hW c0 c1 c2 c3 c4 c5 c6 c7 c8 c9 c10 c11 c12 c13 c14 c15 c16 c17 c18 c19 c20 c21 c22 c23 c24 c25 c26 c27 c28 c29 c30 c31 c32 c33 c34 c35 c36 c37
  cases m
  · go_wp2_with fail
    go_ret
    first | exact ⟨rfl, HB1.out⟩ | exact ⟨rfl, hg ▸ HB1.out⟩
  have c0 := HBK1.out.get 0 _ rfl
  have c1 := HBK1.out.get 1 _ rfl
  have c2 := HBK1.out.get 2 _ rfl
  have c3 := HBK1.out.get 3 _ rfl
  have c4 := HBK1.out.get 4 _ rfl
  have c5 := HBK1.out.get 5 _ rfl
  have c6 := HBK1.out.get 6 _ rfl
  have c7 := HBK1.out.get 7 _ rfl
  have c8 := HBK1.out.get 8 _ rfl
  have c9 := HBK1.out.get 9 _ rfl
  have c10 := HBK1.out.get 10 _ rfl
  have c11 := HBK1.out.get 11 _ rfl
  have c12 := HBK1.out.get 12 _ rfl
  have c13 := HBK1.out.get 13 _ rfl
  have c14 := HBK1.out.get 14 _ rfl
  have c15 := HBK1.out.get 15 _ rfl
  have c16 := HBK1.out.get 16 _ rfl
  have c17 := HBK1.out.get 17 _ rfl
  have c18 := HBK1.out.get 18 _ rfl
  have c19 := HBK1.out.get 19 _ rfl
  have c20 := HBK1.out.get 20 _ rfl
  have c21 := HBK1.out.get 21 _ rfl
  have c22 := HBK1.out.get 22 _ rfl
  have c23 := HBK1.out.get 23 _ rfl
  have c24 := HBK1.out.get 24 _ rfl
  have c25 := HBK1.out.get 25 _ rfl
  have c26 := HBK1.out.get 26 _ rfl
  have c27 := HBK1.out.get 27 _ rfl
  have c28 := HBK1.out.get 28 _ rfl
  have c29 := HBK1.out.get 29 _ rfl
  have c30 := HBK1.out.get 30 _ rfl
  have c31 := HBK1.out.get 31 _ rfl
  have c32 := HBK1.out.get 32 _ rfl
  have c33 := HBK1.out.get 33 _ rfl
  have c34 := HBK1.out.get 34 _ rfl
  have c35 := HBK1.out.get 35 _ rfl
  have c36 := HBK1.out.get 36 _ rfl
  have c37 := HBK1.out.get 37 _ rfl
  go_wp2_with fail
  go_ret
  first | exact ⟨rfl, HB1.out⟩ | exact ⟨rfl, hg ▸ HB1.out⟩

set_option maxRecDepth 100000 in
set_option maxHeartbeats 2000000 in
theorem formed_5 (r : Rl) (t : Tb) (q : Rl) (u : Tb) (w : World) (hr : r.In w) (ht : t.In w) (hq : q.In w) (hu : u.In w) (hs : r.n ≤ 1000000) (hs' : q.n ≤ 1000000) (hk : r.kind = 5) (z : Bool) (hz : (mayC r.cols t.n && (r.valid && !r.late)) = z) :
    Calls Try.prog 34 #[.agg (List.toArray (.int .u8 r.kind :: .string r.nm :: .string r.tb :: .slice r.a r.n r.cap :: .int .u8 r.is.op :: .int .u8 r.is.v.k :: .int .i64 r.is.v.n :: .int .i64 r.is.v.u :: .string r.is.v.t :: .int .i64 r.is.m :: .slice r.is.a r.is.len r.is.cap :: .string r.to :: .int .u8 r.od :: .int .u8 r.ou :: .bool r.late :: .bool r.valid :: .string t.nm :: .slice t.a t.n t.cap :: .string t.ow :: .int .u8 q.kind :: .string q.nm :: .string q.tb :: .slice q.a q.n q.cap :: .int .u8 q.is.op :: .int .u8 q.is.v.k :: .int .i64 q.is.v.n :: .int .i64 q.is.v.u :: .string q.is.v.t :: .int .i64 q.is.m :: .slice q.is.a q.is.len q.is.cap :: .string q.to :: .int .u8 q.od :: .int .u8 q.ou :: .bool q.late :: .bool q.valid :: .string u.nm :: .slice u.a u.n u.cap :: .string u.ow :: []))] w fun e w' => e = .returned (.bool z) ∧ Below w.heap.size w w' := by
  obtain ⟨m, h_m⟩ : ∃ b, mayC r.cols t.n = b := ⟨_, rfl⟩
  obtain ⟨v, h_v⟩ : ∃ b, r.valid = b := ⟨_, rfl⟩
  rw [h_m, h_v] at hz
  subst hz
  have HV := Lib.hid h_v
  clear h_v
  obtain ⟨W, g, hW, hg, B, hb⟩ := boxB w r t q u
  have HB := Lib.hid hb
  have HBK := Lib.hid B
  have HR := Lib.hid (hr.below hb)
  have HT := Lib.hid (ht.below hb)
  have HQ := Lib.hid (hq.below hb)
  have HU := Lib.hid (hu.below hb)
  have c0 := B.get 0 _ rfl
  have c1 := B.get 1 _ rfl
  have c2 := B.get 2 _ rfl
  have c3 := B.get 3 _ rfl
  have c4 := B.get 4 _ rfl
  have c5 := B.get 5 _ rfl
  have c6 := B.get 6 _ rfl
  have c7 := B.get 7 _ rfl
  have c8 := B.get 8 _ rfl
  have c9 := B.get 9 _ rfl
  have c10 := B.get 10 _ rfl
  have c11 := B.get 11 _ rfl
  have c12 := B.get 12 _ rfl
  have c13 := B.get 13 _ rfl
  have c14 := B.get 14 _ rfl
  have c15 := B.get 15 _ rfl
  have c16 := B.get 16 _ rfl
  have c17 := B.get 17 _ rfl
  have c18 := B.get 18 _ rfl
  have c19 := B.get 19 _ rfl
  have c20 := B.get 20 _ rfl
  have c21 := B.get 21 _ rfl
  have c22 := B.get 22 _ rfl
  have c23 := B.get 23 _ rfl
  have c24 := B.get 24 _ rfl
  have c25 := B.get 25 _ rfl
  have c26 := B.get 26 _ rfl
  have c27 := B.get 27 _ rfl
  have c28 := B.get 28 _ rfl
  have c29 := B.get 29 _ rfl
  have c30 := B.get 30 _ rfl
  have c31 := B.get 31 _ rfl
  have c32 := B.get 32 _ rfl
  have c33 := B.get 33 _ rfl
  have c34 := B.get 34 _ rfl
  have c35 := B.get 35 _ rfl
  have c36 := B.get 36 _ rfl
  have c37 := B.get 37 _ rfl
  clear hr ht hq hu B hb
  have k0 : r.kind = 5 := hk
  rw [k0] at c0
  clear hk k0
  have HM := Lib.hid h_m
  clear h_m
  have hcon := hascols_is r t W HR.out hs m HM.out
  go_enter Try.func34, Try.ntmps34
  go_wp2_with (refine load_step 71 64 70 _ _ _ _ rfl g 0 rfl [.int .u8 r.kind, .string r.nm, .string r.tb, .slice r.a r.n r.cap, .int .u8 r.is.op, .int .u8 r.is.v.k, .int .i64 r.is.v.n, .int .i64 r.is.v.u, .string r.is.v.t, .int .i64 r.is.m, .slice r.is.a r.is.len r.is.cap, .string r.to, .int .u8 r.od, .int .u8 r.ou, .bool r.late, .bool r.valid, .string t.nm, .slice t.a t.n t.cap, .string t.ow] _ (blk_lo HBK.out) Try.underlying64 rfl (by kernel_rfl) ?_)
  refine hcon.mono ?_
  rintro e w1 ⟨rfl, hb1⟩
  have HB1 := Lib.hid (below_tr HB.out hb1)
  have HBK1 := Lib.hid (HBK.out.below hb1)
  have HR1 := Lib.hid (HR.out.below hb1)
  have HT1 := Lib.hid (HT.out.below hb1)
  have HQ1 := Lib.hid (HQ.out.below hb1)
  have HU1 := Lib.hid (HU.out.below hb1)
  clear hcon hb1 hW c0 c1 c2 c3 c4 c5 c6 c7 c8 c9 c10 c11 c12 c13 c14 c15 c16 c17 c18 c19 c20 c21 c22 c23 c24 c25 c26 c27 c28 c29 c30 c31 c32 c33 c34 c35 c36 c37
  cases m
  · go_wp2_with fail
    go_ret
    first | exact ⟨rfl, HB1.out⟩ | exact ⟨rfl, hg ▸ HB1.out⟩
  have c0 := HBK1.out.get 0 _ rfl
  have c1 := HBK1.out.get 1 _ rfl
  have c2 := HBK1.out.get 2 _ rfl
  have c3 := HBK1.out.get 3 _ rfl
  have c4 := HBK1.out.get 4 _ rfl
  have c5 := HBK1.out.get 5 _ rfl
  have c6 := HBK1.out.get 6 _ rfl
  have c7 := HBK1.out.get 7 _ rfl
  have c8 := HBK1.out.get 8 _ rfl
  have c9 := HBK1.out.get 9 _ rfl
  have c10 := HBK1.out.get 10 _ rfl
  have c11 := HBK1.out.get 11 _ rfl
  have c12 := HBK1.out.get 12 _ rfl
  have c13 := HBK1.out.get 13 _ rfl
  have c14 := HBK1.out.get 14 _ rfl
  have c15 := HBK1.out.get 15 _ rfl
  have c16 := HBK1.out.get 16 _ rfl
  have c17 := HBK1.out.get 17 _ rfl
  have c18 := HBK1.out.get 18 _ rfl
  have c19 := HBK1.out.get 19 _ rfl
  have c20 := HBK1.out.get 20 _ rfl
  have c21 := HBK1.out.get 21 _ rfl
  have c22 := HBK1.out.get 22 _ rfl
  have c23 := HBK1.out.get 23 _ rfl
  have c24 := HBK1.out.get 24 _ rfl
  have c25 := HBK1.out.get 25 _ rfl
  have c26 := HBK1.out.get 26 _ rfl
  have c27 := HBK1.out.get 27 _ rfl
  have c28 := HBK1.out.get 28 _ rfl
  have c29 := HBK1.out.get 29 _ rfl
  have c30 := HBK1.out.get 30 _ rfl
  have c31 := HBK1.out.get 31 _ rfl
  have c32 := HBK1.out.get 32 _ rfl
  have c33 := HBK1.out.get 33 _ rfl
  have c34 := HBK1.out.get 34 _ rfl
  have c35 := HBK1.out.get 35 _ rfl
  have c36 := HBK1.out.get 36 _ rfl
  have c37 := HBK1.out.get 37 _ rfl
  rw [HV.out] at c15
  cases v
  · go_wp2_with fail
    go_ret
    first | exact ⟨rfl, HB1.out⟩ | exact ⟨rfl, hg ▸ HB1.out⟩
  go_wp2_with fail
  go_ret
  first | exact ⟨rfl, HB1.out⟩ | exact ⟨rfl, hg ▸ HB1.out⟩

set_option maxRecDepth 100000 in
set_option maxHeartbeats 2000000 in
theorem formed_4 (r : Rl) (t : Tb) (q : Rl) (u : Tb) (w : World) (hr : r.In w) (ht : t.In w) (hq : q.In w) (hu : u.In w) (hs : r.n ≤ 1000000) (hs' : q.n ≤ 1000000) (hk : r.kind = 4) (z : Bool) (hz : (mayC r.cols t.n && (refersB r q u && (decide (r.od ≤ 4) && decide (r.ou ≤ 4)))) = z) :
    Calls Try.prog 34 #[.agg (List.toArray (.int .u8 r.kind :: .string r.nm :: .string r.tb :: .slice r.a r.n r.cap :: .int .u8 r.is.op :: .int .u8 r.is.v.k :: .int .i64 r.is.v.n :: .int .i64 r.is.v.u :: .string r.is.v.t :: .int .i64 r.is.m :: .slice r.is.a r.is.len r.is.cap :: .string r.to :: .int .u8 r.od :: .int .u8 r.ou :: .bool r.late :: .bool r.valid :: .string t.nm :: .slice t.a t.n t.cap :: .string t.ow :: .int .u8 q.kind :: .string q.nm :: .string q.tb :: .slice q.a q.n q.cap :: .int .u8 q.is.op :: .int .u8 q.is.v.k :: .int .i64 q.is.v.n :: .int .i64 q.is.v.u :: .string q.is.v.t :: .int .i64 q.is.m :: .slice q.is.a q.is.len q.is.cap :: .string q.to :: .int .u8 q.od :: .int .u8 q.ou :: .bool q.late :: .bool q.valid :: .string u.nm :: .slice u.a u.n u.cap :: .string u.ow :: []))] w fun e w' => e = .returned (.bool z) ∧ Below w.heap.size w w' := by
  obtain ⟨m, h_m⟩ : ∃ b, mayC r.cols t.n = b := ⟨_, rfl⟩
  obtain ⟨f, h_f⟩ : ∃ b, refersB r q u = b := ⟨_, rfl⟩
  obtain ⟨o, h_o⟩ : ∃ b, decide (r.od ≤ 4) = b := ⟨_, rfl⟩
  rw [h_m, h_f, h_o] at hz
  subst hz
  obtain ⟨W, g, hW, hg, B, hb⟩ := boxB w r t q u
  have HB := Lib.hid hb
  have HBK := Lib.hid B
  have HR := Lib.hid (hr.below hb)
  have HT := Lib.hid (ht.below hb)
  have HQ := Lib.hid (hq.below hb)
  have HU := Lib.hid (hu.below hb)
  have c0 := B.get 0 _ rfl
  have c1 := B.get 1 _ rfl
  have c2 := B.get 2 _ rfl
  have c3 := B.get 3 _ rfl
  have c4 := B.get 4 _ rfl
  have c5 := B.get 5 _ rfl
  have c6 := B.get 6 _ rfl
  have c7 := B.get 7 _ rfl
  have c8 := B.get 8 _ rfl
  have c9 := B.get 9 _ rfl
  have c10 := B.get 10 _ rfl
  have c11 := B.get 11 _ rfl
  have c12 := B.get 12 _ rfl
  have c13 := B.get 13 _ rfl
  have c14 := B.get 14 _ rfl
  have c15 := B.get 15 _ rfl
  have c16 := B.get 16 _ rfl
  have c17 := B.get 17 _ rfl
  have c18 := B.get 18 _ rfl
  have c19 := B.get 19 _ rfl
  have c20 := B.get 20 _ rfl
  have c21 := B.get 21 _ rfl
  have c22 := B.get 22 _ rfl
  have c23 := B.get 23 _ rfl
  have c24 := B.get 24 _ rfl
  have c25 := B.get 25 _ rfl
  have c26 := B.get 26 _ rfl
  have c27 := B.get 27 _ rfl
  have c28 := B.get 28 _ rfl
  have c29 := B.get 29 _ rfl
  have c30 := B.get 30 _ rfl
  have c31 := B.get 31 _ rfl
  have c32 := B.get 32 _ rfl
  have c33 := B.get 33 _ rfl
  have c34 := B.get 34 _ rfl
  have c35 := B.get 35 _ rfl
  have c36 := B.get 36 _ rfl
  have c37 := B.get 37 _ rfl
  clear hr ht hq hu B hb
  have k0 : r.kind = 4 := hk
  rw [k0] at c0
  clear hk k0
  have HM := Lib.hid h_m
  clear h_m
  have HF := Lib.hid h_f
  clear h_f
  have hcon := hascols_is r t W HR.out hs m HM.out
  go_enter Try.func34, Try.ntmps34
  go_wp2_with (refine load_step 48 64 47 _ _ _ _ rfl g 0 rfl [.int .u8 r.kind, .string r.nm, .string r.tb, .slice r.a r.n r.cap, .int .u8 r.is.op, .int .u8 r.is.v.k, .int .i64 r.is.v.n, .int .i64 r.is.v.u, .string r.is.v.t, .int .i64 r.is.m, .slice r.is.a r.is.len r.is.cap, .string r.to, .int .u8 r.od, .int .u8 r.ou, .bool r.late, .bool r.valid, .string t.nm, .slice t.a t.n t.cap, .string t.ow] _ (blk_lo HBK.out) Try.underlying64 rfl (by kernel_rfl) ?_)
  refine hcon.mono ?_
  rintro e w1 ⟨rfl, hb1⟩
  have HB1 := Lib.hid (below_tr HB.out hb1)
  have HBK1 := Lib.hid (HBK.out.below hb1)
  have HR1 := Lib.hid (HR.out.below hb1)
  have HT1 := Lib.hid (HT.out.below hb1)
  have HQ1 := Lib.hid (HQ.out.below hb1)
  have HU1 := Lib.hid (HU.out.below hb1)
  clear hcon hb1 hW c0 c1 c2 c3 c4 c5 c6 c7 c8 c9 c10 c11 c12 c13 c14 c15 c16 c17 c18 c19 c20 c21 c22 c23 c24 c25 c26 c27 c28 c29 c30 c31 c32 c33 c34 c35 c36 c37
  cases m
  · go_wp2_with fail
    go_ret
    first | exact ⟨rfl, HB1.out⟩ | exact ⟨rfl, hg ▸ HB1.out⟩
  have c0 := HBK1.out.get 0 _ rfl
  have c1 := HBK1.out.get 1 _ rfl
  have c2 := HBK1.out.get 2 _ rfl
  have c3 := HBK1.out.get 3 _ rfl
  have c4 := HBK1.out.get 4 _ rfl
  have c5 := HBK1.out.get 5 _ rfl
  have c6 := HBK1.out.get 6 _ rfl
  have c7 := HBK1.out.get 7 _ rfl
  have c8 := HBK1.out.get 8 _ rfl
  have c9 := HBK1.out.get 9 _ rfl
  have c10 := HBK1.out.get 10 _ rfl
  have c11 := HBK1.out.get 11 _ rfl
  have c12 := HBK1.out.get 12 _ rfl
  have c13 := HBK1.out.get 13 _ rfl
  have c14 := HBK1.out.get 14 _ rfl
  have c15 := HBK1.out.get 15 _ rfl
  have c16 := HBK1.out.get 16 _ rfl
  have c17 := HBK1.out.get 17 _ rfl
  have c18 := HBK1.out.get 18 _ rfl
  have c19 := HBK1.out.get 19 _ rfl
  have c20 := HBK1.out.get 20 _ rfl
  have c21 := HBK1.out.get 21 _ rfl
  have c22 := HBK1.out.get 22 _ rfl
  have c23 := HBK1.out.get 23 _ rfl
  have c24 := HBK1.out.get 24 _ rfl
  have c25 := HBK1.out.get 25 _ rfl
  have c26 := HBK1.out.get 26 _ rfl
  have c27 := HBK1.out.get 27 _ rfl
  have c28 := HBK1.out.get 28 _ rfl
  have c29 := HBK1.out.get 29 _ rfl
  have c30 := HBK1.out.get 30 _ rfl
  have c31 := HBK1.out.get 31 _ rfl
  have c32 := HBK1.out.get 32 _ rfl
  have c33 := HBK1.out.get 33 _ rfl
  have c34 := HBK1.out.get 34 _ rfl
  have c35 := HBK1.out.get 35 _ rfl
  have c36 := HBK1.out.get 36 _ rfl
  have c37 := HBK1.out.get 37 _ rfl
  have hcon := refers_is r t q u w1 HR1.out HT1.out HQ1.out HU1.out hs' f HF.out
  go_wp2_with (refine load_step 51 66 1 _ _ _ _ rfl g 0 rfl ((.int .u8 r.kind :: .string r.nm :: .string r.tb :: .slice r.a r.n r.cap :: .int .u8 r.is.op :: .int .u8 r.is.v.k :: .int .i64 r.is.v.n :: .int .i64 r.is.v.u :: .string r.is.v.t :: .int .i64 r.is.m :: .slice r.is.a r.is.len r.is.cap :: .string r.to :: .int .u8 r.od :: .int .u8 r.ou :: .bool r.late :: .bool r.valid :: .string t.nm :: .slice t.a t.n t.cap :: .string t.ow :: .int .u8 q.kind :: .string q.nm :: .string q.tb :: .slice q.a q.n q.cap :: .int .u8 q.is.op :: .int .u8 q.is.v.k :: .int .i64 q.is.v.n :: .int .i64 q.is.v.u :: .string q.is.v.t :: .int .i64 q.is.m :: .slice q.is.a q.is.len q.is.cap :: .string q.to :: .int .u8 q.od :: .int .u8 q.ou :: .bool q.late :: .bool q.valid :: .string u.nm :: .slice u.a u.n u.cap :: .string u.ow :: [])) _ (blk_all HBK1.out) Try.underlying66 rfl (by kernel_rfl) ?_)
  refine hcon.mono ?_
  rintro e w2 ⟨rfl, hb2⟩
  have HB2 := Lib.hid (below_tr HB1.out hb2)
  have HBK2 := Lib.hid (HBK1.out.below hb2)
  clear hcon hb2 c0 c1 c2 c3 c4 c5 c6 c7 c8 c9 c10 c11 c12 c13 c14 c15 c16 c17 c18 c19 c20 c21 c22 c23 c24 c25 c26 c27 c28 c29 c30 c31 c32 c33 c34 c35 c36 c37
  cases f
  · go_wp2_with fail
    go_ret
    first | exact ⟨rfl, HB2.out⟩ | exact ⟨rfl, hg ▸ HB2.out⟩
  have c0 := HBK2.out.get 0 _ rfl
  have c1 := HBK2.out.get 1 _ rfl
  have c2 := HBK2.out.get 2 _ rfl
  have c3 := HBK2.out.get 3 _ rfl
  have c4 := HBK2.out.get 4 _ rfl
  have c5 := HBK2.out.get 5 _ rfl
  have c6 := HBK2.out.get 6 _ rfl
  have c7 := HBK2.out.get 7 _ rfl
  have c8 := HBK2.out.get 8 _ rfl
  have c9 := HBK2.out.get 9 _ rfl
  have c10 := HBK2.out.get 10 _ rfl
  have c11 := HBK2.out.get 11 _ rfl
  have c12 := HBK2.out.get 12 _ rfl
  have c13 := HBK2.out.get 13 _ rfl
  have c14 := HBK2.out.get 14 _ rfl
  have c15 := HBK2.out.get 15 _ rfl
  have c16 := HBK2.out.get 16 _ rfl
  have c17 := HBK2.out.get 17 _ rfl
  have c18 := HBK2.out.get 18 _ rfl
  have c19 := HBK2.out.get 19 _ rfl
  have c20 := HBK2.out.get 20 _ rfl
  have c21 := HBK2.out.get 21 _ rfl
  have c22 := HBK2.out.get 22 _ rfl
  have c23 := HBK2.out.get 23 _ rfl
  have c24 := HBK2.out.get 24 _ rfl
  have c25 := HBK2.out.get 25 _ rfl
  have c26 := HBK2.out.get 26 _ rfl
  have c27 := HBK2.out.get 27 _ rfl
  have c28 := HBK2.out.get 28 _ rfl
  have c29 := HBK2.out.get 29 _ rfl
  have c30 := HBK2.out.get 30 _ rfl
  have c31 := HBK2.out.get 31 _ rfl
  have c32 := HBK2.out.get 32 _ rfl
  have c33 := HBK2.out.get 33 _ rfl
  have c34 := HBK2.out.get 34 _ rfl
  have c35 := HBK2.out.get 35 _ rfl
  have c36 := HBK2.out.get 36 _ rfl
  have c37 := HBK2.out.get 37 _ rfl
  cases o
  · have x1 : decide (r.od ≤ 4) = false := h_o
    clear h_o
    go_wp2_with fail
    go_ret
    first | exact ⟨rfl, HB2.out⟩ | exact ⟨rfl, hg ▸ HB2.out⟩
  have x1 : decide (r.od ≤ 4) = true := h_o
  clear h_o
  go_wp2_with fail
  go_ret
  first | exact ⟨rfl, HB2.out⟩ | exact ⟨rfl, hg ▸ HB2.out⟩

set_option maxRecDepth 100000 in
set_option maxHeartbeats 2000000 in
theorem formed_0 (r : Rl) (t : Tb) (q : Rl) (u : Tb) (w : World) (hr : r.In w) (ht : t.In w) (hq : q.In w) (hu : u.In w) (hs : r.n ≤ 1000000) (hs' : q.n ≤ 1000000) (h1 : r.kind ≠ 1) (h2 : r.kind ≠ 2) (h3 : r.kind ≠ 3) (h4 : r.kind ≠ 4) (h5 : r.kind ≠ 5) (z : Bool) (hz : (false) = z) :
    Calls Try.prog 34 #[.agg (List.toArray (.int .u8 r.kind :: .string r.nm :: .string r.tb :: .slice r.a r.n r.cap :: .int .u8 r.is.op :: .int .u8 r.is.v.k :: .int .i64 r.is.v.n :: .int .i64 r.is.v.u :: .string r.is.v.t :: .int .i64 r.is.m :: .slice r.is.a r.is.len r.is.cap :: .string r.to :: .int .u8 r.od :: .int .u8 r.ou :: .bool r.late :: .bool r.valid :: .string t.nm :: .slice t.a t.n t.cap :: .string t.ow :: .int .u8 q.kind :: .string q.nm :: .string q.tb :: .slice q.a q.n q.cap :: .int .u8 q.is.op :: .int .u8 q.is.v.k :: .int .i64 q.is.v.n :: .int .i64 q.is.v.u :: .string q.is.v.t :: .int .i64 q.is.m :: .slice q.is.a q.is.len q.is.cap :: .string q.to :: .int .u8 q.od :: .int .u8 q.ou :: .bool q.late :: .bool q.valid :: .string u.nm :: .slice u.a u.n u.cap :: .string u.ow :: []))] w fun e w' => e = .returned (.bool z) ∧ Below w.heap.size w w' := by
  subst hz
  obtain ⟨W, g, hW, hg, B, hb⟩ := boxB w r t q u
  have HB := Lib.hid hb
  have HBK := Lib.hid B
  have HR := Lib.hid (hr.below hb)
  have HT := Lib.hid (ht.below hb)
  have HQ := Lib.hid (hq.below hb)
  have HU := Lib.hid (hu.below hb)
  have c0 := B.get 0 _ rfl
  have c1 := B.get 1 _ rfl
  have c2 := B.get 2 _ rfl
  have c3 := B.get 3 _ rfl
  have c4 := B.get 4 _ rfl
  have c5 := B.get 5 _ rfl
  have c6 := B.get 6 _ rfl
  have c7 := B.get 7 _ rfl
  have c8 := B.get 8 _ rfl
  have c9 := B.get 9 _ rfl
  have c10 := B.get 10 _ rfl
  have c11 := B.get 11 _ rfl
  have c12 := B.get 12 _ rfl
  have c13 := B.get 13 _ rfl
  have c14 := B.get 14 _ rfl
  have c15 := B.get 15 _ rfl
  have c16 := B.get 16 _ rfl
  have c17 := B.get 17 _ rfl
  have c18 := B.get 18 _ rfl
  have c19 := B.get 19 _ rfl
  have c20 := B.get 20 _ rfl
  have c21 := B.get 21 _ rfl
  have c22 := B.get 22 _ rfl
  have c23 := B.get 23 _ rfl
  have c24 := B.get 24 _ rfl
  have c25 := B.get 25 _ rfl
  have c26 := B.get 26 _ rfl
  have c27 := B.get 27 _ rfl
  have c28 := B.get 28 _ rfl
  have c29 := B.get 29 _ rfl
  have c30 := B.get 30 _ rfl
  have c31 := B.get 31 _ rfl
  have c32 := B.get 32 _ rfl
  have c33 := B.get 33 _ rfl
  have c34 := B.get 34 _ rfl
  have c35 := B.get 35 _ rfl
  have c36 := B.get 36 _ rfl
  have c37 := B.get 37 _ rfl
  clear hr ht hq hu B hb
  have y1 : (r.kind == 1) = false := by simpa using h1
  have y2 : (r.kind == 2) = false := by simpa using h2
  have y3 : (r.kind == 3) = false := by simpa using h3
  have y4 : (r.kind == 4) = false := by simpa using h4
  have y5 : (r.kind == 5) = false := by simpa using h5
  clear h1 h2 h3 h4 h5
  go_enter Try.func34, Try.ntmps34
  go_wp2_with fail
  go_ret
  first | exact ⟨rfl, HB.out⟩ | exact ⟨rfl, hg ▸ HB.out⟩

/-- Has a rule what its Kind asks for, whatever the types are? -/
def formedBd (r : Rl) (t : Tb) (q : Rl) (u : Tb) : Bool :=
  if r.kind = 1 then mayC r.cols t.n && (decide (r.n = 1) && !r.late)
  else if r.kind = 2 then !r.late
  else if r.kind = 3 then mayC r.cols t.n && r.valid
  else if r.kind = 4 then mayC r.cols t.n && (refersB r q u && (decide (r.od ≤ 4) && decide (r.ou ≤ 4)))
  else if r.kind = 5 then mayC r.cols t.n && (r.valid && !r.late)
  else false

theorem bformed_is (r : Rl) (t : Tb) (q : Rl) (u : Tb) (w : World) (hr : r.In w) (ht : t.In w) (hq : q.In w) (hu : u.In w) (hs : r.n ≤ 1000000) (hs' : q.n ≤ 1000000) (z : Bool) (hz : formedBd r t q u = z) :
    Calls Try.prog 34 #[.agg (List.toArray (.int .u8 r.kind :: .string r.nm :: .string r.tb :: .slice r.a r.n r.cap :: .int .u8 r.is.op :: .int .u8 r.is.v.k :: .int .i64 r.is.v.n :: .int .i64 r.is.v.u :: .string r.is.v.t :: .int .i64 r.is.m :: .slice r.is.a r.is.len r.is.cap :: .string r.to :: .int .u8 r.od :: .int .u8 r.ou :: .bool r.late :: .bool r.valid :: .string t.nm :: .slice t.a t.n t.cap :: .string t.ow :: .int .u8 q.kind :: .string q.nm :: .string q.tb :: .slice q.a q.n q.cap :: .int .u8 q.is.op :: .int .u8 q.is.v.k :: .int .i64 q.is.v.n :: .int .i64 q.is.v.u :: .string q.is.v.t :: .int .i64 q.is.m :: .slice q.is.a q.is.len q.is.cap :: .string q.to :: .int .u8 q.od :: .int .u8 q.ou :: .bool q.late :: .bool q.valid :: .string u.nm :: .slice u.a u.n u.cap :: .string u.ow :: []))] w fun e w' => e = .returned (.bool z) ∧ Below w.heap.size w w' := by
  subst hz
  unfold formedBd
  by_cases h1 : r.kind = 1
  · rw [if_pos h1]; exact formed_1 r t q u w hr ht hq hu hs hs' h1 _ rfl
  by_cases h2 : r.kind = 2
  · rw [if_neg h1, if_pos h2]; exact formed_2 r t q u w hr ht hq hu hs hs' h2 _ rfl
  by_cases h3 : r.kind = 3
  · rw [if_neg h1, if_neg h2, if_pos h3]; exact formed_3 r t q u w hr ht hq hu hs hs' h3 _ rfl
  by_cases h4 : r.kind = 4
  · rw [if_neg h1, if_neg h2, if_neg h3, if_pos h4]; exact formed_4 r t q u w hr ht hq hu hs hs' h4 _ rfl
  by_cases h5 : r.kind = 5
  · rw [if_neg h1, if_neg h2, if_neg h3, if_neg h4, if_pos h5]; exact formed_5 r t q u w hr ht hq hu hs hs' h5 _ rfl
  · rw [if_neg h1, if_neg h2, if_neg h3, if_neg h4, if_neg h5]; exact formed_0 r t q u w hr ht hq hu hs hs' h1 h2 h3 h4 h5 _ rfl
end Go.Proofs.Ytkipnkbmpgjcoaa
