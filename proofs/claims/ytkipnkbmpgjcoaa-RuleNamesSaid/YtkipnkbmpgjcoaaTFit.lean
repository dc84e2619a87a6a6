/-
  rule.Fits (stage 8).
-/
import Derived.Test.YtkipnkbmpgjcoaaTFits
import Derived.Laws.Tables
namespace Go.Proofs.Ytkipnkbmpgjcoaa
open Go.RowKit
set_option linter.unusedVariables false

theorem alloc_setRow (W : World) (zs cs : Array Value) (T : TypeId) : (W.alloc (.cells zs T)).setRow W.heap.size cs = W.alloc (.cells cs T) := by
  unfold World.setRow World.alloc
  congr 1
  apply Array.ext
  · simp
  · intro k h1 h2
    simp only [Array.getElem_modify]
    split
    · rename_i hk
      subst hk
      simp
    · simp only [Array.size_modify, Array.size_push] at h1
      rw [Array.getElem_push_lt (by omega), Array.getElem_push_lt (by omega)]

/-- A new block, just made, is filled whole. -/
theorem store_new {P : Program} {ops : Array Oper} {rest : List Oper} {o : Oper} {a : Act} {Q : Exit → Act → World → Prop} (hgd : o.guard = none) (ty : TypeId) (x y : Operand) (ho : o.op = .store ty x y)
    (W W' : World) (g : Nat) (hg : W.heap.size = g) (zs cs : Array Value) (T : TypeId) (hx : a.eval x = .pointer (some ⟨g, 0, none⟩)) (hy : a.eval y = .agg cs) (hi : (P.info? ty).map (·.size) = some cs.size)
    (hold : zs.size = cs.size) (h1 : cs.all (·.oneCell') = true) (hW : W.alloc (.cells cs T) = W') (h : wpList P ops Q rest (a.put o.dst undef) W') : wpList P ops Q (o :: rest) a (W.alloc (.cells zs T)) := by
  subst hg hW
  refine wpList_store_row hgd ty x y ho W.heap.size cs hx hy T zs (by show (W.heap.push _)[W.heap.size]? = _; simp) hi hold h1 ?_
  rw [alloc_setRow]
  exact h

def ruc (r : Rl) : List Value := [.int .u8 r.kind, .string r.nm, .string r.tb, .slice r.a r.n r.cap, .int .u8 r.is.op, .int .u8 r.is.v.k, .int .i64 r.is.v.n, .int .i64 r.is.v.u, .string r.is.v.t, .int .i64 r.is.m, .slice r.is.a r.is.len r.is.cap, .string r.to, .int .u8 r.od, .int .u8 r.ou, .bool r.late, .bool r.valid]
def tbc (t : Tb) : List Value := [.string t.nm, .slice t.a t.n t.cap, .string t.ow]

theorem Blk.old {W : World} {g : Nat} {cs : List Value} (h : Blk W g cs) (o : Obj) : ∀ j v, cs[j]? = some v → (W.alloc o).cell? ⟨g, 0 + j, none⟩ = some v := fun j v hv => by
  rw [Nat.zero_add]
  exact (h.below (Below.allocs W o)).get j v hv

theorem Blk.at0 {W : World} {g : Nat} {cs : List Value} (h : Blk W g cs) : ∀ j v, cs[j]? = some v → W.cell? ⟨g, 0 + j, none⟩ = some v := fun j v hv => by
  rw [Nat.zero_add]
  exact h.get j v hv

/-- The parameters of Fits, each in a block of its own. -/
theorem boxF (w : World) (r : Rl) (t : Tb) (q : Rl) (u : Tb) : ∃ W g, w.heap.size = g ∧ (((w.alloc (.cells #[.int .u8 r.kind, .string r.nm, .string r.tb, .slice r.a r.n r.cap, .int .u8 r.is.op, .int .u8 r.is.v.k, .int .i64 r.is.v.n, .int .i64 r.is.v.u, .string r.is.v.t, .int .i64 r.is.m, .slice r.is.a r.is.len r.is.cap, .string r.to, .int .u8 r.od, .int .u8 r.ou, .bool r.late, .bool r.valid] 29)).alloc (.cells #[.string t.nm, .slice t.a t.n t.cap, .string t.ow] 32)).alloc (.cells #[.int .u8 q.kind, .string q.nm, .string q.tb, .slice q.a q.n q.cap, .int .u8 q.is.op, .int .u8 q.is.v.k, .int .i64 q.is.v.n, .int .i64 q.is.v.u, .string q.is.v.t, .int .i64 q.is.m, .slice q.is.a q.is.len q.is.cap, .string q.to, .int .u8 q.od, .int .u8 q.ou, .bool q.late, .bool q.valid] 29)).alloc (.cells #[.string u.nm, .slice u.a u.n u.cap, .string u.ow] 32) = W ∧
    Blk W g (ruc r) ∧ Blk W (g + 1) (tbc t) ∧ Blk W (g + 1 + 1) (ruc q) ∧ Blk W (g + 1 + 1 + 1) (tbc u) ∧ Below w.heap.size w W ∧ W.heap.size = g + 1 + 1 + 1 + 1 := by
  obtain ⟨W1, hW1⟩ : ∃ W1, w.alloc (.cells #[.int .u8 r.kind, .string r.nm, .string r.tb, .slice r.a r.n r.cap, .int .u8 r.is.op, .int .u8 r.is.v.k, .int .i64 r.is.v.n, .int .i64 r.is.v.u, .string r.is.v.t, .int .i64 r.is.m, .slice r.is.a r.is.len r.is.cap, .string r.to, .int .u8 r.od, .int .u8 r.ou, .bool r.late, .bool r.valid] 29) = W1 := ⟨_, rfl⟩
  obtain ⟨W2, hW2⟩ : ∃ W2, W1.alloc (.cells #[.string t.nm, .slice t.a t.n t.cap, .string t.ow] 32) = W2 := ⟨_, rfl⟩
  obtain ⟨W3, hW3⟩ : ∃ W3, W2.alloc (.cells #[.int .u8 q.kind, .string q.nm, .string q.tb, .slice q.a q.n q.cap, .int .u8 q.is.op, .int .u8 q.is.v.k, .int .i64 q.is.v.n, .int .i64 q.is.v.u, .string q.is.v.t, .int .i64 q.is.m, .slice q.is.a q.is.len q.is.cap, .string q.to, .int .u8 q.od, .int .u8 q.ou, .bool q.late, .bool q.valid] 29) = W3 := ⟨_, rfl⟩
  obtain ⟨W4, hW4⟩ : ∃ W4, W3.alloc (.cells #[.string u.nm, .slice u.a u.n u.cap, .string u.ow] 32) = W4 := ⟨_, rfl⟩
  have B1 := Blk.new w (ruc r) 29
  have B2 := Blk.new W1 (tbc t) 32
  have B3 := Blk.new W2 (ruc q) 29
  have B4 := Blk.new W3 (tbc u) 32
  have s1 : W1.heap.size = w.heap.size + 1 := by rw [← hW1]; simp
  have s2 : W2.heap.size = W1.heap.size + 1 := by rw [← hW2]; simp
  have s3 : W3.heap.size = W2.heap.size + 1 := by rw [← hW3]; simp
  have s4 : W4.heap.size = W3.heap.size + 1 := by rw [← hW4]; simp
  have b1 : Below w.heap.size w W1 := by rw [← hW1]; exact Below.allocs _ _
  have b2 : Below W1.heap.size W1 W2 := by rw [← hW2]; exact Below.allocs _ _
  have b3 : Below W2.heap.size W2 W3 := by rw [← hW3]; exact Below.allocs _ _
  have b4 : Below W3.heap.size W3 W4 := by rw [← hW4]; exact Below.allocs _ _
  have B1' : Blk W1 w.heap.size (ruc r) := by rw [← hW1]; exact B1
  have B2' : Blk W2 (w.heap.size + 1) (tbc t) := by rw [← hW2, ← s1]; exact B2
  have B3' : Blk W3 (w.heap.size + 1 + 1) (ruc q) := by rw [← hW3, ← s1, ← s2]; exact B3
  have B4' : Blk W4 (w.heap.size + 1 + 1 + 1) (tbc u) := by rw [← hW4, ← s1, ← s2, ← s3]; exact B4
  refine ⟨W4, w.heap.size, rfl, ?_, ((B1'.below b2).below b3).below b4, (B2'.below b3).below b4, B3'.below b4, B4', below_tr (below_tr (below_tr b1 b2) b3) b4, by rw [s4, s3, s2, s1]⟩
  rw [hW1, hW2, hW3, hW4]

set_option maxRecDepth 100000 in
set_option maxHeartbeats 2000000 in
theorem fits_no1 (r : Rl) (t : Tb) (q : Rl) (u : Tb) (w : World) (hr : r.In w) (ht : t.In w) (hq : q.In w) (hu : u.In w) (hs : r.n ≤ 1000000) (hs' : q.n ≤ 1000000) (hn : nameB r.nm = false) (z : Int) (hz : 4 = z) :
    Calls Try.prog 15 #[.agg #[.int .u8 r.kind, .string r.nm, .string r.tb, .slice r.a r.n r.cap, .int .u8 r.is.op, .int .u8 r.is.v.k, .int .i64 r.is.v.n, .int .i64 r.is.v.u, .string r.is.v.t, .int .i64 r.is.m, .slice r.is.a r.is.len r.is.cap, .string r.to, .int .u8 r.od, .int .u8 r.ou, .bool r.late, .bool r.valid], .agg #[.string t.nm, .slice t.a t.n t.cap, .string t.ow], .agg #[.int .u8 q.kind, .string q.nm, .string q.tb, .slice q.a q.n q.cap, .int .u8 q.is.op, .int .u8 q.is.v.k, .int .i64 q.is.v.n, .int .i64 q.is.v.u, .string q.is.v.t, .int .i64 q.is.m, .slice q.is.a q.is.len q.is.cap, .string q.to, .int .u8 q.od, .int .u8 q.ou, .bool q.late, .bool q.valid], .agg #[.string u.nm, .slice u.a u.n u.cap, .string u.ow]] w fun e w' => e = .returned (.int .i64 z) ∧ Below w.heap.size w w' := by
  subst hz
  have HN := Lib.hid hn
  clear hn
  obtain ⟨W, g, hg, hW, BR, BT, BQ, BU, hb, hsz⟩ := boxF w r t q u
  obtain ⟨W5, gb, hW5, hgb, B5, hb5⟩ := boxB W r t q u
  have HR0 := Lib.hid BR
  have HT0 := Lib.hid BT
  have HQ0 := Lib.hid BQ
  have HU0 := Lib.hid BU
  have HGB := Lib.hid hgb
  have HBK := Lib.hid B5
  have HB := Lib.hid (below_tr hb hb5)
  have HR := Lib.hid (hr.below (below_tr hb hb5))
  have HT := Lib.hid (ht.below (below_tr hb hb5))
  have HQ := Lib.hid (hq.below (below_tr hb hb5))
  have HU := Lib.hid (hu.below (below_tr hb hb5))
  have c1 := B5.get 1 _ rfl
  have c2 := B5.get 2 _ rfl
  have c16 := B5.get 16 _ rfl
  clear hr ht hq hu BR BT BQ BU hb B5 hb5 hsz
  go_enter Try.func15, Try.ntmps15
  go_wp2_with (first | (refine load_step 10 29 4 _ _ _ _ rfl g 0 rfl [.int .u8 r.kind, .string r.nm, .string r.tb, .slice r.a r.n r.cap, .int .u8 r.is.op, .int .u8 r.is.v.k, .int .i64 r.is.v.n, .int .i64 r.is.v.u, .string r.is.v.t, .int .i64 r.is.m, .slice r.is.a r.is.len r.is.cap, .string r.to, .int .u8 r.od, .int .u8 r.ou, .bool r.late, .bool r.valid] _ (HR0.out.at0) Try.underlying29 rfl (by kernel_rfl) ?_) | (refine load_step 11 32 5 _ _ _ _ rfl (g + 1) 0 rfl [.string t.nm, .slice t.a t.n t.cap, .string t.ow] _ (HT0.out.at0) Try.underlying32 rfl (by kernel_rfl) ?_) | (refine load_step 13 29 6 _ _ _ _ rfl (g + 1 + 1) 0 rfl [.int .u8 q.kind, .string q.nm, .string q.tb, .slice q.a q.n q.cap, .int .u8 q.is.op, .int .u8 q.is.v.k, .int .i64 q.is.v.n, .int .i64 q.is.v.u, .string q.is.v.t, .int .i64 q.is.m, .slice q.is.a q.is.len q.is.cap, .string q.to, .int .u8 q.od, .int .u8 q.ou, .bool q.late, .bool q.valid] _ (HQ0.out.at0) Try.underlying29 rfl (by kernel_rfl) ?_) | (refine load_step 14 32 7 _ _ _ _ rfl (g + 1 + 1 + 1) 0 rfl [.string u.nm, .slice u.a u.n u.cap, .string u.ow] _ (HU0.out.at0) Try.underlying32 rfl (by kernel_rfl) ?_) | (refine store_new rfl _ _ _ rfl W W5 gb HGB.out _ (List.toArray (.int .u8 r.kind :: .string r.nm :: .string r.tb :: .slice r.a r.n r.cap :: .int .u8 r.is.op :: .int .u8 r.is.v.k :: .int .i64 r.is.v.n :: .int .i64 r.is.v.u :: .string r.is.v.t :: .int .i64 r.is.m :: .slice r.is.a r.is.len r.is.cap :: .string r.to :: .int .u8 r.od :: .int .u8 r.ou :: .bool r.late :: .bool r.valid :: .string t.nm :: .slice t.a t.n t.cap :: .string t.ow :: .int .u8 q.kind :: .string q.nm :: .string q.tb :: .slice q.a q.n q.cap :: .int .u8 q.is.op :: .int .u8 q.is.v.k :: .int .i64 q.is.v.n :: .int .i64 q.is.v.u :: .string q.is.v.t :: .int .i64 q.is.m :: .slice q.is.a q.is.len q.is.cap :: .string q.to :: .int .u8 q.od :: .int .u8 q.ou :: .bool q.late :: .bool q.valid :: .string u.nm :: .slice u.a u.n u.cap :: .string u.ow :: [])) 66 rfl rfl (by kernel_rfl) rfl (by kernel_rfl) hW5 ?_))
  refine (name_is _ false HN.out _).mono ?_
  rintro e w1 ⟨rfl, rfl⟩
  go_wp2_with fail
  go_ret
  first | exact ⟨rfl, HB.out⟩ | exact ⟨rfl, hg ▸ HB.out⟩

set_option maxRecDepth 100000 in
set_option maxHeartbeats 2000000 in
theorem fits_no2 (r : Rl) (t : Tb) (q : Rl) (u : Tb) (w : World) (hr : r.In w) (ht : t.In w) (hq : q.In w) (hu : u.In w) (hs : r.n ≤ 1000000) (hs' : q.n ≤ 1000000) (hn : nameB r.nm = true) (he : (r.tb.toList == t.nm.toList) = false) (z : Int) (hz : 4 = z) :
    Calls Try.prog 15 #[.agg #[.int .u8 r.kind, .string r.nm, .string r.tb, .slice r.a r.n r.cap, .int .u8 r.is.op, .int .u8 r.is.v.k, .int .i64 r.is.v.n, .int .i64 r.is.v.u, .string r.is.v.t, .int .i64 r.is.m, .slice r.is.a r.is.len r.is.cap, .string r.to, .int .u8 r.od, .int .u8 r.ou, .bool r.late, .bool r.valid], .agg #[.string t.nm, .slice t.a t.n t.cap, .string t.ow], .agg #[.int .u8 q.kind, .string q.nm, .string q.tb, .slice q.a q.n q.cap, .int .u8 q.is.op, .int .u8 q.is.v.k, .int .i64 q.is.v.n, .int .i64 q.is.v.u, .string q.is.v.t, .int .i64 q.is.m, .slice q.is.a q.is.len q.is.cap, .string q.to, .int .u8 q.od, .int .u8 q.ou, .bool q.late, .bool q.valid], .agg #[.string u.nm, .slice u.a u.n u.cap, .string u.ow]] w fun e w' => e = .returned (.int .i64 z) ∧ Below w.heap.size w w' := by
  subst hz
  have HN := Lib.hid hn
  clear hn
  obtain ⟨W, g, hg, hW, BR, BT, BQ, BU, hb, hsz⟩ := boxF w r t q u
  obtain ⟨W5, gb, hW5, hgb, B5, hb5⟩ := boxB W r t q u
  have HR0 := Lib.hid BR
  have HT0 := Lib.hid BT
  have HQ0 := Lib.hid BQ
  have HU0 := Lib.hid BU
  have HGB := Lib.hid hgb
  have HBK := Lib.hid B5
  have HB := Lib.hid (below_tr hb hb5)
  have HR := Lib.hid (hr.below (below_tr hb hb5))
  have HT := Lib.hid (ht.below (below_tr hb hb5))
  have HQ := Lib.hid (hq.below (below_tr hb hb5))
  have HU := Lib.hid (hu.below (below_tr hb hb5))
  have c1 := B5.get 1 _ rfl
  have c2 := B5.get 2 _ rfl
  have c16 := B5.get 16 _ rfl
  clear hr ht hq hu BR BT BQ BU hb B5 hb5 hsz
  go_enter Try.func15, Try.ntmps15
  go_wp2_with (first | (refine load_step 10 29 4 _ _ _ _ rfl g 0 rfl [.int .u8 r.kind, .string r.nm, .string r.tb, .slice r.a r.n r.cap, .int .u8 r.is.op, .int .u8 r.is.v.k, .int .i64 r.is.v.n, .int .i64 r.is.v.u, .string r.is.v.t, .int .i64 r.is.m, .slice r.is.a r.is.len r.is.cap, .string r.to, .int .u8 r.od, .int .u8 r.ou, .bool r.late, .bool r.valid] _ (HR0.out.at0) Try.underlying29 rfl (by kernel_rfl) ?_) | (refine load_step 11 32 5 _ _ _ _ rfl (g + 1) 0 rfl [.string t.nm, .slice t.a t.n t.cap, .string t.ow] _ (HT0.out.at0) Try.underlying32 rfl (by kernel_rfl) ?_) | (refine load_step 13 29 6 _ _ _ _ rfl (g + 1 + 1) 0 rfl [.int .u8 q.kind, .string q.nm, .string q.tb, .slice q.a q.n q.cap, .int .u8 q.is.op, .int .u8 q.is.v.k, .int .i64 q.is.v.n, .int .i64 q.is.v.u, .string q.is.v.t, .int .i64 q.is.m, .slice q.is.a q.is.len q.is.cap, .string q.to, .int .u8 q.od, .int .u8 q.ou, .bool q.late, .bool q.valid] _ (HQ0.out.at0) Try.underlying29 rfl (by kernel_rfl) ?_) | (refine load_step 14 32 7 _ _ _ _ rfl (g + 1 + 1 + 1) 0 rfl [.string u.nm, .slice u.a u.n u.cap, .string u.ow] _ (HU0.out.at0) Try.underlying32 rfl (by kernel_rfl) ?_) | (refine store_new rfl _ _ _ rfl W W5 gb HGB.out _ (List.toArray (.int .u8 r.kind :: .string r.nm :: .string r.tb :: .slice r.a r.n r.cap :: .int .u8 r.is.op :: .int .u8 r.is.v.k :: .int .i64 r.is.v.n :: .int .i64 r.is.v.u :: .string r.is.v.t :: .int .i64 r.is.m :: .slice r.is.a r.is.len r.is.cap :: .string r.to :: .int .u8 r.od :: .int .u8 r.ou :: .bool r.late :: .bool r.valid :: .string t.nm :: .slice t.a t.n t.cap :: .string t.ow :: .int .u8 q.kind :: .string q.nm :: .string q.tb :: .slice q.a q.n q.cap :: .int .u8 q.is.op :: .int .u8 q.is.v.k :: .int .i64 q.is.v.n :: .int .i64 q.is.v.u :: .string q.is.v.t :: .int .i64 q.is.m :: .slice q.is.a q.is.len q.is.cap :: .string q.to :: .int .u8 q.od :: .int .u8 q.ou :: .bool q.late :: .bool q.valid :: .string u.nm :: .slice u.a u.n u.cap :: .string u.ow :: [])) 66 rfl rfl (by kernel_rfl) rfl (by kernel_rfl) hW5 ?_))
  refine (name_is _ true HN.out _).mono ?_
  rintro e w1 ⟨rfl, rfl⟩
  go_wp2_with fail
  go_ret
  first | exact ⟨rfl, HB.out⟩ | exact ⟨rfl, hg ▸ HB.out⟩

set_option maxRecDepth 100000 in
set_option maxHeartbeats 2000000 in
theorem fits_no3 (r : Rl) (t : Tb) (q : Rl) (u : Tb) (w : World) (hr : r.In w) (ht : t.In w) (hq : q.In w) (hu : u.In w) (hs : r.n ≤ 1000000) (hs' : q.n ≤ 1000000) (hn : nameB r.nm = true) (he : (r.tb.toList == t.nm.toList) = true) (hf : formedBd r t q u = false) (z : Int) (hz : 4 = z) :
    Calls Try.prog 15 #[.agg #[.int .u8 r.kind, .string r.nm, .string r.tb, .slice r.a r.n r.cap, .int .u8 r.is.op, .int .u8 r.is.v.k, .int .i64 r.is.v.n, .int .i64 r.is.v.u, .string r.is.v.t, .int .i64 r.is.m, .slice r.is.a r.is.len r.is.cap, .string r.to, .int .u8 r.od, .int .u8 r.ou, .bool r.late, .bool r.valid], .agg #[.string t.nm, .slice t.a t.n t.cap, .string t.ow], .agg #[.int .u8 q.kind, .string q.nm, .string q.tb, .slice q.a q.n q.cap, .int .u8 q.is.op, .int .u8 q.is.v.k, .int .i64 q.is.v.n, .int .i64 q.is.v.u, .string q.is.v.t, .int .i64 q.is.m, .slice q.is.a q.is.len q.is.cap, .string q.to, .int .u8 q.od, .int .u8 q.ou, .bool q.late, .bool q.valid], .agg #[.string u.nm, .slice u.a u.n u.cap, .string u.ow]] w fun e w' => e = .returned (.int .i64 z) ∧ Below w.heap.size w w' := by
  subst hz
  have HN := Lib.hid hn
  have HF := Lib.hid hf
  clear hn hf
  obtain ⟨W, g, hg, hW, BR, BT, BQ, BU, hb, hsz⟩ := boxF w r t q u
  obtain ⟨W5, gb, hW5, hgb, B5, hb5⟩ := boxB W r t q u
  have HR0 := Lib.hid BR
  have HT0 := Lib.hid BT
  have HQ0 := Lib.hid BQ
  have HU0 := Lib.hid BU
  have HGB := Lib.hid hgb
  have HBK := Lib.hid B5
  have HB := Lib.hid (below_tr hb hb5)
  have HR := Lib.hid (hr.below (below_tr hb hb5))
  have HT := Lib.hid (ht.below (below_tr hb hb5))
  have HQ := Lib.hid (hq.below (below_tr hb hb5))
  have HU := Lib.hid (hu.below (below_tr hb hb5))
  have c1 := B5.get 1 _ rfl
  have c2 := B5.get 2 _ rfl
  have c16 := B5.get 16 _ rfl
  clear hr ht hq hu BR BT BQ BU hb B5 hb5 hsz
  go_enter Try.func15, Try.ntmps15
  go_wp2_with (first | (refine load_step 10 29 4 _ _ _ _ rfl g 0 rfl [.int .u8 r.kind, .string r.nm, .string r.tb, .slice r.a r.n r.cap, .int .u8 r.is.op, .int .u8 r.is.v.k, .int .i64 r.is.v.n, .int .i64 r.is.v.u, .string r.is.v.t, .int .i64 r.is.m, .slice r.is.a r.is.len r.is.cap, .string r.to, .int .u8 r.od, .int .u8 r.ou, .bool r.late, .bool r.valid] _ (HR0.out.at0) Try.underlying29 rfl (by kernel_rfl) ?_) | (refine load_step 11 32 5 _ _ _ _ rfl (g + 1) 0 rfl [.string t.nm, .slice t.a t.n t.cap, .string t.ow] _ (HT0.out.at0) Try.underlying32 rfl (by kernel_rfl) ?_) | (refine load_step 13 29 6 _ _ _ _ rfl (g + 1 + 1) 0 rfl [.int .u8 q.kind, .string q.nm, .string q.tb, .slice q.a q.n q.cap, .int .u8 q.is.op, .int .u8 q.is.v.k, .int .i64 q.is.v.n, .int .i64 q.is.v.u, .string q.is.v.t, .int .i64 q.is.m, .slice q.is.a q.is.len q.is.cap, .string q.to, .int .u8 q.od, .int .u8 q.ou, .bool q.late, .bool q.valid] _ (HQ0.out.at0) Try.underlying29 rfl (by kernel_rfl) ?_) | (refine load_step 14 32 7 _ _ _ _ rfl (g + 1 + 1 + 1) 0 rfl [.string u.nm, .slice u.a u.n u.cap, .string u.ow] _ (HU0.out.at0) Try.underlying32 rfl (by kernel_rfl) ?_) | (refine store_new rfl _ _ _ rfl W W5 gb HGB.out _ (List.toArray (.int .u8 r.kind :: .string r.nm :: .string r.tb :: .slice r.a r.n r.cap :: .int .u8 r.is.op :: .int .u8 r.is.v.k :: .int .i64 r.is.v.n :: .int .i64 r.is.v.u :: .string r.is.v.t :: .int .i64 r.is.m :: .slice r.is.a r.is.len r.is.cap :: .string r.to :: .int .u8 r.od :: .int .u8 r.ou :: .bool r.late :: .bool r.valid :: .string t.nm :: .slice t.a t.n t.cap :: .string t.ow :: .int .u8 q.kind :: .string q.nm :: .string q.tb :: .slice q.a q.n q.cap :: .int .u8 q.is.op :: .int .u8 q.is.v.k :: .int .i64 q.is.v.n :: .int .i64 q.is.v.u :: .string q.is.v.t :: .int .i64 q.is.m :: .slice q.is.a q.is.len q.is.cap :: .string q.to :: .int .u8 q.od :: .int .u8 q.ou :: .bool q.late :: .bool q.valid :: .string u.nm :: .slice u.a u.n u.cap :: .string u.ow :: [])) 66 rfl rfl (by kernel_rfl) rfl (by kernel_rfl) hW5 ?_))
  refine (name_is _ true HN.out _).mono ?_
  rintro e w1 ⟨rfl, rfl⟩
  go_wp2_with (refine load_step 35 66 9 _ _ _ _ rfl gb 0 rfl ((.int .u8 r.kind :: .string r.nm :: .string r.tb :: .slice r.a r.n r.cap :: .int .u8 r.is.op :: .int .u8 r.is.v.k :: .int .i64 r.is.v.n :: .int .i64 r.is.v.u :: .string r.is.v.t :: .int .i64 r.is.m :: .slice r.is.a r.is.len r.is.cap :: .string r.to :: .int .u8 r.od :: .int .u8 r.ou :: .bool r.late :: .bool r.valid :: .string t.nm :: .slice t.a t.n t.cap :: .string t.ow :: .int .u8 q.kind :: .string q.nm :: .string q.tb :: .slice q.a q.n q.cap :: .int .u8 q.is.op :: .int .u8 q.is.v.k :: .int .i64 q.is.v.n :: .int .i64 q.is.v.u :: .string q.is.v.t :: .int .i64 q.is.m :: .slice q.is.a q.is.len q.is.cap :: .string q.to :: .int .u8 q.od :: .int .u8 q.ou :: .bool q.late :: .bool q.valid :: .string u.nm :: .slice u.a u.n u.cap :: .string u.ow :: [])) _ (blk_all HBK.out) Try.underlying66 rfl (by kernel_rfl) ?_)
  refine (bformed_is r t q u W5 HR.out HT.out HQ.out HU.out hs hs' false HF.out).mono ?_
  rintro e w1 ⟨rfl, hb1⟩
  have HB1 := Lib.hid (below_tr HB.out hb1)
  have hb1' := hb1
  clear hb1 c1 c2 c16 hW hW5
  go_wp2_with fail
  go_ret
  first | exact ⟨rfl, HB1.out⟩ | exact ⟨rfl, hg ▸ HB1.out⟩

set_option maxRecDepth 100000 in
set_option maxHeartbeats 2000000 in
theorem fits_all (r : Rl) (t : Tb) (q : Rl) (u : Tb) (w : World) (hr : r.In w) (ht : t.In w) (hq : q.In w) (hu : u.In w) (hs : r.n ≤ 1000000) (hs' : q.n ≤ 1000000) (hn : nameB r.nm = true) (he : (r.tb.toList == t.nm.toList) = true) (hf : formedBd r t q u = true) (z : Int) (hz : typedBd r t q u = z) :
    Calls Try.prog 15 #[.agg #[.int .u8 r.kind, .string r.nm, .string r.tb, .slice r.a r.n r.cap, .int .u8 r.is.op, .int .u8 r.is.v.k, .int .i64 r.is.v.n, .int .i64 r.is.v.u, .string r.is.v.t, .int .i64 r.is.m, .slice r.is.a r.is.len r.is.cap, .string r.to, .int .u8 r.od, .int .u8 r.ou, .bool r.late, .bool r.valid], .agg #[.string t.nm, .slice t.a t.n t.cap, .string t.ow], .agg #[.int .u8 q.kind, .string q.nm, .string q.tb, .slice q.a q.n q.cap, .int .u8 q.is.op, .int .u8 q.is.v.k, .int .i64 q.is.v.n, .int .i64 q.is.v.u, .string q.is.v.t, .int .i64 q.is.m, .slice q.is.a q.is.len q.is.cap, .string q.to, .int .u8 q.od, .int .u8 q.ou, .bool q.late, .bool q.valid], .agg #[.string u.nm, .slice u.a u.n u.cap, .string u.ow]] w fun e w' => e = .returned (.int .i64 z) ∧ Below w.heap.size w w' := by
  have HZ := Lib.hid hz
  have HN := Lib.hid hn
  have HF := Lib.hid hf
  clear hn hf hz
  obtain ⟨W, g, hg, hW, BR, BT, BQ, BU, hb, hsz⟩ := boxF w r t q u
  obtain ⟨W5, gb, hW5, hgb, B5, hb5⟩ := boxB W r t q u
  have HR0 := Lib.hid BR
  have HT0 := Lib.hid BT
  have HQ0 := Lib.hid BQ
  have HU0 := Lib.hid BU
  have HGB := Lib.hid hgb
  have HBK := Lib.hid B5
  have HB := Lib.hid (below_tr hb hb5)
  have HR := Lib.hid (hr.below (below_tr hb hb5))
  have HT := Lib.hid (ht.below (below_tr hb hb5))
  have HQ := Lib.hid (hq.below (below_tr hb hb5))
  have HU := Lib.hid (hu.below (below_tr hb hb5))
  have c1 := B5.get 1 _ rfl
  have c2 := B5.get 2 _ rfl
  have c16 := B5.get 16 _ rfl
  clear hr ht hq hu BR BT BQ BU hb B5 hb5 hsz
  go_enter Try.func15, Try.ntmps15
  go_wp2_with (first | (refine load_step 10 29 4 _ _ _ _ rfl g 0 rfl [.int .u8 r.kind, .string r.nm, .string r.tb, .slice r.a r.n r.cap, .int .u8 r.is.op, .int .u8 r.is.v.k, .int .i64 r.is.v.n, .int .i64 r.is.v.u, .string r.is.v.t, .int .i64 r.is.m, .slice r.is.a r.is.len r.is.cap, .string r.to, .int .u8 r.od, .int .u8 r.ou, .bool r.late, .bool r.valid] _ (HR0.out.at0) Try.underlying29 rfl (by kernel_rfl) ?_) | (refine load_step 11 32 5 _ _ _ _ rfl (g + 1) 0 rfl [.string t.nm, .slice t.a t.n t.cap, .string t.ow] _ (HT0.out.at0) Try.underlying32 rfl (by kernel_rfl) ?_) | (refine load_step 13 29 6 _ _ _ _ rfl (g + 1 + 1) 0 rfl [.int .u8 q.kind, .string q.nm, .string q.tb, .slice q.a q.n q.cap, .int .u8 q.is.op, .int .u8 q.is.v.k, .int .i64 q.is.v.n, .int .i64 q.is.v.u, .string q.is.v.t, .int .i64 q.is.m, .slice q.is.a q.is.len q.is.cap, .string q.to, .int .u8 q.od, .int .u8 q.ou, .bool q.late, .bool q.valid] _ (HQ0.out.at0) Try.underlying29 rfl (by kernel_rfl) ?_) | (refine load_step 14 32 7 _ _ _ _ rfl (g + 1 + 1 + 1) 0 rfl [.string u.nm, .slice u.a u.n u.cap, .string u.ow] _ (HU0.out.at0) Try.underlying32 rfl (by kernel_rfl) ?_) | (refine store_new rfl _ _ _ rfl W W5 gb HGB.out _ (List.toArray (.int .u8 r.kind :: .string r.nm :: .string r.tb :: .slice r.a r.n r.cap :: .int .u8 r.is.op :: .int .u8 r.is.v.k :: .int .i64 r.is.v.n :: .int .i64 r.is.v.u :: .string r.is.v.t :: .int .i64 r.is.m :: .slice r.is.a r.is.len r.is.cap :: .string r.to :: .int .u8 r.od :: .int .u8 r.ou :: .bool r.late :: .bool r.valid :: .string t.nm :: .slice t.a t.n t.cap :: .string t.ow :: .int .u8 q.kind :: .string q.nm :: .string q.tb :: .slice q.a q.n q.cap :: .int .u8 q.is.op :: .int .u8 q.is.v.k :: .int .i64 q.is.v.n :: .int .i64 q.is.v.u :: .string q.is.v.t :: .int .i64 q.is.m :: .slice q.is.a q.is.len q.is.cap :: .string q.to :: .int .u8 q.od :: .int .u8 q.ou :: .bool q.late :: .bool q.valid :: .string u.nm :: .slice u.a u.n u.cap :: .string u.ow :: [])) 66 rfl rfl (by kernel_rfl) rfl (by kernel_rfl) hW5 ?_))
  refine (name_is _ true HN.out _).mono ?_
  rintro e w1 ⟨rfl, rfl⟩
  go_wp2_with (refine load_step 35 66 9 _ _ _ _ rfl gb 0 rfl ((.int .u8 r.kind :: .string r.nm :: .string r.tb :: .slice r.a r.n r.cap :: .int .u8 r.is.op :: .int .u8 r.is.v.k :: .int .i64 r.is.v.n :: .int .i64 r.is.v.u :: .string r.is.v.t :: .int .i64 r.is.m :: .slice r.is.a r.is.len r.is.cap :: .string r.to :: .int .u8 r.od :: .int .u8 r.ou :: .bool r.late :: .bool r.valid :: .string t.nm :: .slice t.a t.n t.cap :: .string t.ow :: .int .u8 q.kind :: .string q.nm :: .string q.tb :: .slice q.a q.n q.cap :: .int .u8 q.is.op :: .int .u8 q.is.v.k :: .int .i64 q.is.v.n :: .int .i64 q.is.v.u :: .string q.is.v.t :: .int .i64 q.is.m :: .slice q.is.a q.is.len q.is.cap :: .string q.to :: .int .u8 q.od :: .int .u8 q.ou :: .bool q.late :: .bool q.valid :: .string u.nm :: .slice u.a u.n u.cap :: .string u.ow :: [])) _ (blk_all HBK.out) Try.underlying66 rfl (by kernel_rfl) ?_)
  refine (bformed_is r t q u W5 HR.out HT.out HQ.out HU.out hs hs' true HF.out).mono ?_
  rintro e w1 ⟨rfl, hb1⟩
  have HB1 := Lib.hid (below_tr HB.out hb1)
  have hb1' := hb1
  clear hb1 c1 c2 c16 hW hW5
  have HBK1 := Lib.hid (HBK.out.below hb1')
  go_wp2_with (refine load_step 39 66 9 _ _ _ _ rfl gb 0 rfl ((.int .u8 r.kind :: .string r.nm :: .string r.tb :: .slice r.a r.n r.cap :: .int .u8 r.is.op :: .int .u8 r.is.v.k :: .int .i64 r.is.v.n :: .int .i64 r.is.v.u :: .string r.is.v.t :: .int .i64 r.is.m :: .slice r.is.a r.is.len r.is.cap :: .string r.to :: .int .u8 r.od :: .int .u8 r.ou :: .bool r.late :: .bool r.valid :: .string t.nm :: .slice t.a t.n t.cap :: .string t.ow :: .int .u8 q.kind :: .string q.nm :: .string q.tb :: .slice q.a q.n q.cap :: .int .u8 q.is.op :: .int .u8 q.is.v.k :: .int .i64 q.is.v.n :: .int .i64 q.is.v.u :: .string q.is.v.t :: .int .i64 q.is.m :: .slice q.is.a q.is.len q.is.cap :: .string q.to :: .int .u8 q.od :: .int .u8 q.ou :: .bool q.late :: .bool q.valid :: .string u.nm :: .slice u.a u.n u.cap :: .string u.ow :: [])) _ (blk_all HBK1.out) Try.underlying66 rfl (by kernel_rfl) ?_)
  refine (btyped_is r t q u w1 (HR.out.below hb1') (HT.out.below hb1') (HQ.out.below hb1') (HU.out.below hb1') hs hs' HF.out z HZ.out).mono ?_
  rintro e w2 ⟨rfl, hb2⟩
  have HB2 := Lib.hid (below_tr HB1.out hb2)
  clear hb2
  go_wp2_with fail
  go_ret
  first | exact ⟨rfl, HB2.out⟩ | exact ⟨rfl, hg ▸ HB2.out⟩

theorem rfits_is (r : Rl) (t : Tb) (q : Rl) (u : Tb) (w : World) (hr : r.In w) (ht : t.In w) (hq : q.In w) (hu : u.In w) (hs : r.n ≤ 1000000) (hs' : q.n ≤ 1000000) (z : Int) (hz : fitsR r t q u = z) :
    Calls Try.prog 15 #[.agg #[.int .u8 r.kind, .string r.nm, .string r.tb, .slice r.a r.n r.cap, .int .u8 r.is.op, .int .u8 r.is.v.k, .int .i64 r.is.v.n, .int .i64 r.is.v.u, .string r.is.v.t, .int .i64 r.is.m, .slice r.is.a r.is.len r.is.cap, .string r.to, .int .u8 r.od, .int .u8 r.ou, .bool r.late, .bool r.valid], .agg #[.string t.nm, .slice t.a t.n t.cap, .string t.ow], .agg #[.int .u8 q.kind, .string q.nm, .string q.tb, .slice q.a q.n q.cap, .int .u8 q.is.op, .int .u8 q.is.v.k, .int .i64 q.is.v.n, .int .i64 q.is.v.u, .string q.is.v.t, .int .i64 q.is.m, .slice q.is.a q.is.len q.is.cap, .string q.to, .int .u8 q.od, .int .u8 q.ou, .bool q.late, .bool q.valid], .agg #[.string u.nm, .slice u.a u.n u.cap, .string u.ow]] w fun e w' => e = .returned (.int .i64 z) ∧ Below w.heap.size w w' := by
  unfold fitsR at hz
  cases hn : nameB r.nm
  · rw [hn] at hz; exact fits_no1 r t q u w hr ht hq hu hs hs' hn z (by simpa using hz)
  cases he : (r.tb.toList == t.nm.toList)
  · rw [hn, he] at hz; exact fits_no2 r t q u w hr ht hq hu hs hs' hn he z (by simpa using hz)
  cases hf : formedBd r t q u
  · rw [hn, he, hf] at hz; exact fits_no3 r t q u w hr ht hq hu hs hs' hn he hf z (by simpa using hz)
  · rw [hn, he, hf] at hz; exact fits_all r t q u w hr ht hq hu hs hs' hn he hf z (by simpa using hz)
end Go.Proofs.Ytkipnkbmpgjcoaa
