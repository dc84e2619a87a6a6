/-
  RuleLess walked.
-/
import Derived.Test.YtkipnkbmpgjcoaaTAwake
import Derived.Test.YtkipnkbmpgjcoaaTApp
import Derived.Test.YtkipnkbmpgjcoaaTLess
import Derived.Test.YtkipnkbmpgjcoaaERX
namespace Go.Proofs.Ytkipnkbmpgjcoaa
open Go.RowKit
set_option linter.unusedVariables false

/-- The parameters of RuleLess (and RuleNamed), each in a block of its own. -/
theorem boxL (w : World) (t : Tb) (r q : Rl) (u : Tb) (x : Col) : ∃ W g, w.heap.size = g ∧ ((((w.alloc (.cells #[.string t.nm, .slice t.a t.n t.cap, .string t.ow] 32)).alloc (.cells #[.int .u8 r.kind, .string r.nm, .string r.tb, .slice r.a r.n r.cap, .int .u8 r.is.op, .int .u8 r.is.v.k, .int .i64 r.is.v.n, .int .i64 r.is.v.u, .string r.is.v.t, .int .i64 r.is.m, .slice r.is.a r.is.len r.is.cap, .string r.to, .int .u8 r.od, .int .u8 r.ou, .bool r.late, .bool r.valid] 29)).alloc (.cells #[.int .u8 q.kind, .string q.nm, .string q.tb, .slice q.a q.n q.cap, .int .u8 q.is.op, .int .u8 q.is.v.k, .int .i64 q.is.v.n, .int .i64 q.is.v.u, .string q.is.v.t, .int .i64 q.is.m, .slice q.is.a q.is.len q.is.cap, .string q.to, .int .u8 q.od, .int .u8 q.ou, .bool q.late, .bool q.valid] 29)).alloc (.cells #[.string u.nm, .slice u.a u.n u.cap, .string u.ow] 32)).alloc (.cells #[.string x.nm, .int .u8 x.ty, .int .u8 x.v.k, .int .i64 x.v.n, .int .i64 x.v.u, .string x.v.t] 49) = W ∧
    Blk W g (tbc t) ∧ Blk W (g + 1) (ruc r) ∧ Blk W (g + 1 + 1) (ruc q) ∧ Blk W (g + 1 + 1 + 1) (tbc u) ∧ Blk W (g + 1 + 1 + 1 + 1) (encC x) ∧ Below w.heap.size w W ∧ W.heap.size = g + 1 + 1 + 1 + 1 + 1 := by
  obtain ⟨W1, hW1⟩ : ∃ W1, w.alloc (.cells #[.string t.nm, .slice t.a t.n t.cap, .string t.ow] 32) = W1 := ⟨_, rfl⟩
  obtain ⟨W2, hW2⟩ : ∃ W2, W1.alloc (.cells #[.int .u8 r.kind, .string r.nm, .string r.tb, .slice r.a r.n r.cap, .int .u8 r.is.op, .int .u8 r.is.v.k, .int .i64 r.is.v.n, .int .i64 r.is.v.u, .string r.is.v.t, .int .i64 r.is.m, .slice r.is.a r.is.len r.is.cap, .string r.to, .int .u8 r.od, .int .u8 r.ou, .bool r.late, .bool r.valid] 29) = W2 := ⟨_, rfl⟩
  obtain ⟨W3, hW3⟩ : ∃ W3, W2.alloc (.cells #[.int .u8 q.kind, .string q.nm, .string q.tb, .slice q.a q.n q.cap, .int .u8 q.is.op, .int .u8 q.is.v.k, .int .i64 q.is.v.n, .int .i64 q.is.v.u, .string q.is.v.t, .int .i64 q.is.m, .slice q.is.a q.is.len q.is.cap, .string q.to, .int .u8 q.od, .int .u8 q.ou, .bool q.late, .bool q.valid] 29) = W3 := ⟨_, rfl⟩
  obtain ⟨W4, hW4⟩ : ∃ W4, W3.alloc (.cells #[.string u.nm, .slice u.a u.n u.cap, .string u.ow] 32) = W4 := ⟨_, rfl⟩
  obtain ⟨W5, hW5⟩ : ∃ W5, W4.alloc (.cells #[.string x.nm, .int .u8 x.ty, .int .u8 x.v.k, .int .i64 x.v.n, .int .i64 x.v.u, .string x.v.t] 49) = W5 := ⟨_, rfl⟩
  have B1 := Blk.new w (tbc t) 32
  have B2 := Blk.new W1 (ruc r) 29
  have B3 := Blk.new W2 (ruc q) 29
  have B4 := Blk.new W3 (tbc u) 32
  have B5 := Blk.new W4 (encC x) 49
  have s1 : W1.heap.size = w.heap.size + 1 := by rw [← hW1]; simp
  have s2 : W2.heap.size = W1.heap.size + 1 := by rw [← hW2]; simp
  have s3 : W3.heap.size = W2.heap.size + 1 := by rw [← hW3]; simp
  have s4 : W4.heap.size = W3.heap.size + 1 := by rw [← hW4]; simp
  have s5 : W5.heap.size = W4.heap.size + 1 := by rw [← hW5]; simp
  have b1 : Below w.heap.size w W1 := by rw [← hW1]; exact Below.allocs _ _
  have b2 : Below W1.heap.size W1 W2 := by rw [← hW2]; exact Below.allocs _ _
  have b3 : Below W2.heap.size W2 W3 := by rw [← hW3]; exact Below.allocs _ _
  have b4 : Below W3.heap.size W3 W4 := by rw [← hW4]; exact Below.allocs _ _
  have b5 : Below W4.heap.size W4 W5 := by rw [← hW5]; exact Below.allocs _ _
  have B1' : Blk W1 w.heap.size (tbc t) := by rw [← hW1]; exact B1
  have B2' : Blk W2 (w.heap.size + 1) (ruc r) := by rw [← hW2, ← s1]; exact B2
  have B3' : Blk W3 (w.heap.size + 1 + 1) (ruc q) := by rw [← hW3, ← s1, ← s2]; exact B3
  have B4' : Blk W4 (w.heap.size + 1 + 1 + 1) (tbc u) := by rw [← hW4, ← s1, ← s2, ← s3]; exact B4
  have B5' : Blk W5 (w.heap.size + 1 + 1 + 1 + 1) (encC x) := by rw [← hW5, ← s1, ← s2, ← s3, ← s4]; exact B5
  refine ⟨W5, w.heap.size, rfl, ?_, (((B1'.below b2).below b3).below b4).below b5, ((B2'.below b3).below b4).below b5, (B3'.below b4).below b5, B4'.below b5, B5', below_tr (below_tr (below_tr (below_tr b1 b2) b3) b4) b5, by rw [s5, s4, s3, s2, s1]⟩
  rw [hW1, hW2, hW3, hW4, hW5]

theorem at_num (x : Int) (n : Nat) (h : n ≤ 40) (h0 : 0 < n) : ∃ t : Nat, wrap64 ((IntKind.u64.wrap x).tmod (n : Int)) = (t : Int) ∧ t < n := by
  have h0' : 0 ≤ IntKind.u64.wrap x := by simp only [IntKind.wrap, IntKind.signed, IntKind.bits]; simp; omega
  have h1 := Int.tmod_nonneg (n : Int) h0'
  have h2 := Int.tmod_lt_of_pos (IntKind.u64.wrap x) (b := (n : Int)) (by omega)
  generalize (IntKind.u64.wrap x).tmod (n : Int) = r at h1 h2 ⊢
  refine ⟨r.toNat, ?_, by omega⟩
  unfold wrap64
  omega

theorem lessL_take {l : List Col} {k : Nat} (h : k ≤ l.length) : (lessL l k).take k = l.take k := by
  unfold lessL
  rw [List.take_append_of_le_length (by rw [List.length_take]; omega), List.take_take, Nat.min_self]

theorem SlC.drop {W : World} {b o c : Nat} {l : List Col} (h : SlC W (some ⟨b, o, none⟩) c l) (j : Nat) (hj : j ≤ l.length) : SlC W (some ⟨b, o + j * 6, none⟩) (c - j) (l.drop j) := by
  have hlc := h.lc
  have hcm := h.cm
  refine ⟨by rw [List.length_drop]; omega, by omega, fun hl => ?_, fun x hx => h.wf x (List.mem_of_mem_drop hx)⟩
  obtain ⟨b', o', e, hx⟩ := h.at' (by rintro rfl; simp at hl)
  injection e with e
  injection e with e1 e2 _
  subst e1 e2
  refine ⟨b, o + j * 6, rfl, fun i x hi => ?_⟩
  rw [List.getElem?_drop] at hi
  have := hx _ _ hi
  rw [show o + (j + i) * 6 = o + j * 6 + i * 6 by omega] at this
  exact this

theorem SlC.dropIf {W : World} {b o c : Nat} {l : List Col} (h : SlC W (some ⟨b, o, none⟩) c l) (j : Nat) (hj : j ≤ l.length) : SlC W (if c = j then some ⟨b, o, none⟩ else some ⟨b, o + j * 6, none⟩) (c - j) (l.drop j) := by
  split
  · rename_i hc
    have hl : l.drop j = [] := List.drop_of_length_le (by have := h.lc; omega)
    rw [hl]
    exact SlC.nil _ _ _ (by have := h.cm; omega)
  · exact h.drop j hj

theorem KR.to {gl : Nat} {F E : List Col} {W W6 w' : World} (hb : Below W.heap.size W W6) (hle : W.heap.size ≤ gl) (h : KR gl F E W6.drew w') : Below W.heap.size W w' :=
  hb.trans ((((Below.refl gl W6).drew).trans h.low).mono hle)

theorem alloc_frozen (w : World) (cs : Array Value) (T : TypeId) (k : Nat) : (w.alloc (.cells cs T)).frozen? ⟨w.heap.size, k, none⟩ = false := by go_simp

theorem one_own {base : Nat} (w : World) (x : Col) (hb : base ≤ w.heap.size) : OwnC base (w.alloc (.cells #[.string x.nm, .int .u8 x.ty, .int .u8 x.v.k, .int .i64 x.v.n, .int .i64 x.v.u, .string x.v.t] 49)) (.slice (some ⟨w.heap.size, 0, none⟩) 1 1) [x] :=
  World.ownsRow_lit w _ 1 hb (by decide) rfl

theorem store_row {g : Nat} {F E : List Col} {w : World} {s : Value} (a : Option Addr) (n c : Nat) (hs : s = .slice a n c) (hg : g < w.heap.size) (h1 : (w.cell? ⟨g, 1, none⟩).isSome = true) (h2 : w.frozen? ⟨g, 1, none⟩ = false) (ho : OwnC (g + 1) w s F) :
    ∃ w', (storeVar 30 ⟨g, 1, none⟩ s).run Try.prog w = .ok () w' ∧ KR g F E w w' ∧ GoodC g F w' := by
  have hk := KR.store (E := E) hg h1 ho
  refine ⟨_, ?_, hk.1, hk.2⟩
  subst hs
  obtain ⟨y, hy⟩ := Option.isSome_iff_exists.1 h1
  go_simp

set_option maxRecDepth 100000 in
set_option maxHeartbeats 8000000 in
theorem less_a (t : Tb) (i : Int) (r q : Rl) (u : Tb) (x : Col) (w : World) (ht : t.In w) (hr : r.In w) (hq : q.In w) (hu : u.In w) (hx : x.wf) (HMT : Hid (tableB t = false)) :
    Calls Try.prog 5 #[.agg #[.string t.nm, .slice t.a t.n t.cap, .string t.ow], .int .i64 i, .agg #[.int .u8 r.kind, .string r.nm, .string r.tb, .slice r.a r.n r.cap, .int .u8 r.is.op, .int .u8 r.is.v.k, .int .i64 r.is.v.n, .int .i64 r.is.v.u, .string r.is.v.t, .int .i64 r.is.m, .slice r.is.a r.is.len r.is.cap, .string r.to, .int .u8 r.od, .int .u8 r.ou, .bool r.late, .bool r.valid], .agg #[.int .u8 q.kind, .string q.nm, .string q.tb, .slice q.a q.n q.cap, .int .u8 q.is.op, .int .u8 q.is.v.k, .int .i64 q.is.v.n, .int .i64 q.is.v.u, .string q.is.v.t, .int .i64 q.is.m, .slice q.is.a q.is.len q.is.cap, .string q.to, .int .u8 q.od, .int .u8 q.ou, .bool q.late, .bool q.valid], .agg #[.string u.nm, .slice u.a u.n u.cap, .string u.ow], .agg #[.string x.nm, .int .u8 x.ty, .int .u8 x.v.k, .int .i64 x.v.n, .int .i64 x.v.u, .string x.v.t]] w fun e w' => e = .returned (.bool true) ∧ Below w.heap.size w w' := by
  obtain ⟨W, g, hg, hW, BT, BR, BQ, BU, BX, hb, hsz⟩ := boxL w t r q u x
  have HT0 := Lib.hid BT
  have HR0 := Lib.hid BR
  have HQ0 := Lib.hid BQ
  have HU0 := Lib.hid BU
  have HX0 := Lib.hid BX
  have HB := Lib.hid hb
  have HT := Lib.hid (ht.below hb)
  have HR := Lib.hid (hr.below hb)
  have HQ := Lib.hid (hq.below hb)
  have HU := Lib.hid (hu.below hb)
  have HSZ := Lib.hid hsz
  have HXW := Lib.hid hx
  have HTW : Hid (t.n ≤ 9223372036854775807) := Lib.hid ht.le
  have B0 := Lib.hid (Below.refl W.heap.size W)
  clear BT BR BQ BU BX hb ht hr hq hu hsz hx
  obtain ⟨fz, hfz0⟩ : ∃ fz, fitsR r t q u = fz := ⟨_, rfl⟩
  have HFZ0 := Lib.hid hfz0
  clear hfz0
  go_enter Try.func5, Try.ntmps5
  have hcon := wide_is t W (HT.out.below B0.out)
  go_wp2_with (first | (refine at_dst (some 16) rfl ?_; refine load_step 16 32 6 _ _ _ _ rfl g 0 rfl [.string t.nm, .slice t.a t.n t.cap, .string t.ow] _ ((HT0.out.below B0.out).at0) Try.underlying32 rfl (by kernel_rfl) ?_))
  refine (show Calls Try.prog _ _ _ _ from hcon).mono ?_
  rintro e w1 ⟨⟨b, rfl, h40⟩, hb1⟩
  have B1 := Lib.hid (below_tr B0.out hb1)
  clear hcon hb1 hW
  cases b
  case true =>
    have hcon := awake_is w1
    go_wp2_with (fail)
    refine (show Calls Try.prog _ _ _ _ from hcon).mono ?_
    rintro e w2 ⟨rfl, hb2⟩
    have B2 := Lib.hid (below_tr B1.out hb2)
    clear hcon hb2
    go_wp2_with fail
    go_ret
    exact ⟨rfl, below_tr HB.out B2.out⟩
  have h40 := h40 rfl
  have hcon := wide_is u w1 (HU.out.below B1.out)
  go_wp2_with (first | (refine at_dst (some 19) rfl ?_; refine load_step 19 32 10 _ _ _ _ rfl (g + 1 + 1 + 1) 0 rfl [.string u.nm, .slice u.a u.n u.cap, .string u.ow] _ ((HU0.out.below B1.out).at0) Try.underlying32 rfl (by kernel_rfl) ?_))
  refine (show Calls Try.prog _ _ _ _ from hcon).mono ?_
  rintro e w52 ⟨⟨b, rfl, h40u⟩, hb52⟩
  have B52 := Lib.hid (below_tr B1.out hb52)
  clear hcon hb52
  cases b
  case true =>
    have hcon := awake_is w52
    go_wp2_with (fail)
    refine (show Calls Try.prog _ _ _ _ from hcon).mono ?_
    rintro e w53 ⟨rfl, hb53⟩
    have B53 := Lib.hid (below_tr B52.out hb53)
    clear hcon hb53
    go_wp2_with fail
    go_ret
    exact ⟨rfl, below_tr HB.out B53.out⟩
  have h40u := h40u rfl
  have hcon := long_is r w52 (HR.out.below B52.out)
  go_wp2_with (first | (refine at_dst (some 23) rfl ?_; refine load_step 23 29 8 _ _ _ _ rfl (g + 1) 0 rfl [.int .u8 r.kind, .string r.nm, .string r.tb, .slice r.a r.n r.cap, .int .u8 r.is.op, .int .u8 r.is.v.k, .int .i64 r.is.v.n, .int .i64 r.is.v.u, .string r.is.v.t, .int .i64 r.is.m, .slice r.is.a r.is.len r.is.cap, .string r.to, .int .u8 r.od, .int .u8 r.ou, .bool r.late, .bool r.valid] _ ((HR0.out.below B52.out).at0) Try.underlying29 rfl (by kernel_rfl) ?_))
  refine (show Calls Try.prog _ _ _ _ from hcon).mono ?_
  rintro e w103 ⟨⟨b, rfl, h60⟩, hb103⟩
  have B103 := Lib.hid (below_tr B52.out hb103)
  clear hcon hb103
  cases b
  case true =>
    have hcon := awake_is w103
    go_wp2_with (fail)
    refine (show Calls Try.prog _ _ _ _ from hcon).mono ?_
    rintro e w104 ⟨rfl, hb104⟩
    have B104 := Lib.hid (below_tr B103.out hb104)
    clear hcon hb104
    go_wp2_with fail
    go_ret
    exact ⟨rfl, below_tr HB.out B104.out⟩
  have h60 := h60 rfl
  have hcon := long_is q w103 (HQ.out.below B103.out)
  go_wp2_with (first | (refine at_dst (some 27) rfl ?_; refine load_step 27 29 9 _ _ _ _ rfl (g + 1 + 1) 0 rfl [.int .u8 q.kind, .string q.nm, .string q.tb, .slice q.a q.n q.cap, .int .u8 q.is.op, .int .u8 q.is.v.k, .int .i64 q.is.v.n, .int .i64 q.is.v.u, .string q.is.v.t, .int .i64 q.is.m, .slice q.is.a q.is.len q.is.cap, .string q.to, .int .u8 q.od, .int .u8 q.ou, .bool q.late, .bool q.valid] _ ((HQ0.out.below B103.out).at0) Try.underlying29 rfl (by kernel_rfl) ?_))
  refine (show Calls Try.prog _ _ _ _ from hcon).mono ?_
  rintro e w154 ⟨⟨b, rfl, h60q⟩, hb154⟩
  have B154 := Lib.hid (below_tr B103.out hb154)
  clear hcon hb154
  cases b
  case true =>
    have hcon := awake_is w154
    go_wp2_with (fail)
    refine (show Calls Try.prog _ _ _ _ from hcon).mono ?_
    rintro e w155 ⟨rfl, hb155⟩
    have B155 := Lib.hid (below_tr B154.out hb155)
    clear hcon hb155
    go_wp2_with fail
    go_ret
    exact ⟨rfl, below_tr HB.out B155.out⟩
  have h60q := h60q rfl
  have c0 := (HX0.out.below B154.out).get 0 _ rfl
  have c5 := (HX0.out.below B154.out).get 5 _ rfl
  have hxw1 := HXW.out.s
  have hxw2 := HXW.out.v.t
  by_cases z0 : 200 < (x.nm.size : Int)
  · have y0 : decide (200 < (x.nm.size : Int)) = true := by simpa using z0
    have hcon := awake_is w154
    go_wp2_with (fail)
    refine (show Calls Try.prog _ _ _ _ from hcon).mono ?_
    rintro e w205 ⟨rfl, hb205⟩
    have B205 := Lib.hid (below_tr B154.out hb205)
    clear hcon hb205
    go_wp2_with fail
    go_ret
    exact ⟨rfl, below_tr HB.out B205.out⟩
  have y0 : decide (200 < (x.nm.size : Int)) = false := by simpa using z0
  by_cases z1 : 1000 < (x.v.t.size : Int)
  · have y1 : decide (1000 < (x.v.t.size : Int)) = true := by simpa using z1
    have hcon := awake_is w154
    go_wp2_with (fail)
    refine (show Calls Try.prog _ _ _ _ from hcon).mono ?_
    rintro e w305 ⟨rfl, hb305⟩
    have B305 := Lib.hid (below_tr B154.out hb305)
    clear hcon hb305
    go_wp2_with fail
    go_ret
    exact ⟨rfl, below_tr HB.out B305.out⟩
  have y1 : decide (1000 < (x.v.t.size : Int)) = false := by simpa using z1
  have hcon := awake_is w154
  go_wp2_with (fail)
  refine (show Calls Try.prog _ _ _ _ from hcon).mono ?_
  rintro e w405 ⟨rfl, hb405⟩
  have B405 := Lib.hid (below_tr B154.out hb405)
  clear hcon hb405
  clear c0 c5 y0 y1 z0 z1 hxw1 hxw2
  have hcon := maytable_is t false HMT.out w405 (HT.out.below B405.out)
  go_wp2_with (first | (refine at_dst (some 48) rfl ?_; refine load_step 48 32 6 _ _ _ _ rfl g 0 rfl [.string t.nm, .slice t.a t.n t.cap, .string t.ow] _ ((HT0.out.below B405.out).at0) Try.underlying32 rfl (by kernel_rfl) ?_))
  refine (show Calls Try.prog _ _ _ _ from hcon).mono ?_
  rintro e w406 ⟨rfl, hb406⟩
  have B406 := Lib.hid (below_tr B405.out hb406)
  clear hcon hb406
  have HLN : Hid (t.cols.length = t.n) := Lib.hid HT.out.len
  clear h40u
  have hcon := rfits_is r t q u w406 (HR.out.below B406.out) (HT.out.below B406.out) (HQ.out.below B406.out) (HU.out.below B406.out) (by omega) (by omega) fz HFZ0.out
  go_wp2_with (first | (refine at_dst (some 81) rfl ?_; refine load_step 81 29 8 _ _ _ _ rfl (g + 1) 0 rfl [.int .u8 r.kind, .string r.nm, .string r.tb, .slice r.a r.n r.cap, .int .u8 r.is.op, .int .u8 r.is.v.k, .int .i64 r.is.v.n, .int .i64 r.is.v.u, .string r.is.v.t, .int .i64 r.is.m, .slice r.is.a r.is.len r.is.cap, .string r.to, .int .u8 r.od, .int .u8 r.ou, .bool r.late, .bool r.valid] _ ((HR0.out.below B406.out).at0) Try.underlying29 rfl (by kernel_rfl) ?_) | (refine at_dst (some 82) rfl ?_; refine load_step 82 32 6 _ _ _ _ rfl g 0 rfl [.string t.nm, .slice t.a t.n t.cap, .string t.ow] _ ((HT0.out.below B406.out).at0) Try.underlying32 rfl (by kernel_rfl) ?_) | (refine at_dst (some 83) rfl ?_; refine load_step 83 29 9 _ _ _ _ rfl (g + 1 + 1) 0 rfl [.int .u8 q.kind, .string q.nm, .string q.tb, .slice q.a q.n q.cap, .int .u8 q.is.op, .int .u8 q.is.v.k, .int .i64 q.is.v.n, .int .i64 q.is.v.u, .string q.is.v.t, .int .i64 q.is.m, .slice q.is.a q.is.len q.is.cap, .string q.to, .int .u8 q.od, .int .u8 q.ou, .bool q.late, .bool q.valid] _ ((HQ0.out.below B406.out).at0) Try.underlying29 rfl (by kernel_rfl) ?_) | (refine at_dst (some 84) rfl ?_; refine load_step 84 32 10 _ _ _ _ rfl (g + 1 + 1 + 1) 0 rfl [.string u.nm, .slice u.a u.n u.cap, .string u.ow] _ ((HU0.out.below B406.out).at0) Try.underlying32 rfl (by kernel_rfl) ?_))
  refine (show Calls Try.prog _ _ _ _ from hcon).mono ?_
  rintro e w407 ⟨rfl, hb407⟩
  have B407 := Lib.hid (below_tr B406.out hb407)
  clear hcon hb407
  by_cases hfz : fz = 0
  case neg =>
    have hfz1 : (fz != 0) = true := by simpa using hfz
    go_wp2_with fail
    go_ret
    exact ⟨rfl, below_tr HB.out B407.out⟩
  subst hfz
  obtain ⟨W6, gl, hW6, hgl, B6, hb6⟩ := boxT w407 t
  have HGL : Hid (gl < W6.drew.heap.size) := Lib.hid (show gl < W6.heap.size by rw [← hW6, ← hgl]; simp)
  have HFZ : Hid (W6.frozen? ⟨gl, 1, none⟩ = false) := Lib.hid (by rw [← hW6, ← hgl]; exact alloc_frozen _ _ _ _)
  have HLE : Hid (W.heap.size ≤ gl) := Lib.hid (by rw [← hgl]; exact B407.out.size)
  have HB6 := Lib.hid (below_tr B407.out hb6)
  have HBL := Lib.hid B6
  clear B6 hb6
  have HFL : Hid ((t.cols ++ [x]).length = t.n + 1) := Lib.hid (by rw [List.length_append, HLN.out]; rfl)
  have HF1 : Hid ((t.cols ++ [x]).take t.n = t.cols) := Lib.hid (by rw [List.take_append_of_le_length (by rw [HLN.out]; exact Nat.le_refl _), List.take_of_length_le (by rw [HLN.out]; exact Nat.le_refl _)])
  have HWT : Hid (∀ y ∈ t.cols, y.wf) := Lib.hid HT.out.sl.wf
  have HWF : Hid (∀ y ∈ t.cols ++ [x], y.wf) := Lib.hid (fun y hy => by
    rcases List.mem_append.1 hy with h | h
    · exact HWT.out y h
    · simp only [List.mem_singleton] at h; subst h; exact HXW.out)
  have HEX : Hid ((∃ k, k ≤ (t.cols ++ [x]).length ∧ [x] = (t.cols ++ [x]).take k) ∨ [x].length ≤ t.cols.length) := Lib.hid (by
    rcases Nat.eq_zero_or_pos t.cols.length with h | h
    · exact .inl ⟨1, by rw [List.length_append]; simp, by rw [List.length_eq_zero_iff.1 h]; rfl⟩
    · exact .inr h)
  go_wp2_with (first | (refine at_dst (some 87) rfl ?_; refine load_step 87 32 6 _ _ _ _ rfl g 0 rfl [.string t.nm, .slice t.a t.n t.cap, .string t.ow] _ ((HT0.out.below B407.out).at0) Try.underlying32 rfl (by kernel_rfl) ?_))
  refine RX.wp_region_plan (KR gl (t.cols ++ [x]) ([x])) [.of (NilC (gl + 1)), .it (.pointer (some ⟨g, 1, none⟩)), .it (.slice t.a t.n t.cap), .of (fun w v => OwnC (gl + 1) w v (t.cols)), .it (.agg #[.string x.nm, .int .u8 x.ty, .int .u8 x.v.k, .int .i64 x.v.n, .int .i64 x.v.u, .string x.v.t]), .of (fun w v => OwnC (gl + 1) w v ([x])), .of (fun w v => OwnC (gl + 1) w v (t.cols ++ [x])), .it (.pointer (some ⟨gl, 1, none⟩)), .of (fun w _ => GoodC gl (t.cols ++ [x]) w)] (by kernel_rfl) (by kernel_rfl) (KR.refl _ _ _) KR.trans ?_
  refine RX.seqP_make (NilC (gl + 1)) (fun w w' v hR hV => ⟨hV.1, hR.own v [] (PK.nil _ _) hV.2⟩) (by first | rfl | simp) (fun w' hw' hctx => ?_) (fun u0 => ?_)
  · have hlt : gl < w'.heap.size := Nat.lt_of_lt_of_le HGL.out hw'.size
    have hBW := KR.to HB6.out HLE.out hw'
    exact ⟨.slice (some ⟨w'.heap.size, 0, none⟩) 0 0, w'.alloc (.cells #[] 49), by go_simp, KR.alloc hlt _, NilC.new _ hlt⟩
  simp only [Act.put, List.setIfInBounds_toArray, List.set_cons_zero, List.set_cons_succ]
  refine RX.seqP_value (KR.refl gl _ _) _ (by first | rfl | simp) (fun w' hw' hctx => by (go_simp); (try first | with_reducible rfl | simp)) ?_
  simp only [Act.put, List.setIfInBounds_toArray, List.set_cons_zero, List.set_cons_succ]
  refine RX.seqP_value (KR.refl gl _ _) _ (by first | rfl | simp) (fun w' hw' hctx => ?_) ?_
  · have e1 := (HT0.out.below (KR.to HB6.out HLE.out hw')).get 1 _ rfl
    go_simp
    try first | with_reducible rfl | simp
  simp only [Act.put, List.setIfInBounds_toArray, List.set_cons_zero, List.set_cons_succ]
  refine RX.seqP_make (fun w v => OwnC (gl + 1) w v (t.cols)) (fun w w' v hR hV => hR.own v _ (.inl ⟨t.n, by rw [HFL.out]; omega, HF1.out.symm⟩) hV) (by first | rfl | simp) (fun w' hw' hctx => ?_) (fun u3 => ?_)
  · have hlt : gl < w'.heap.size := Nat.lt_of_lt_of_le HGL.out hw'.size
    have hBW := KR.to HB6.out HLE.out hw'
    obtain ⟨v, w2, hrun, hown, hkr⟩ := KR.append (F := t.cols ++ [x]) (E := [x]) hlt hctx.1.2 (show SlC w' t.a t.cap t.cols from (HT.out.below hBW).sl) HLN.out (by show 0 + t.cols.length ≤ 1000000; rw [HLN.out]; omega) (fun _ h => by cases h) t.n (by rw [HFL.out]; omega) (by rw [HF1.out, List.nil_append]) (.inr (.inr hctx.1.1))
    rw [HF1.out] at hown
    exact ⟨v, w2, exec_append _ _ _ _ _ _ _ _ _ _ _ _ _ _ rfl rfl hrun, hkr, hown⟩
  simp only [Act.put, List.setIfInBounds_toArray, List.set_cons_zero, List.set_cons_succ]
  refine RX.seqP_value (KR.refl gl _ _) _ (by first | rfl | simp) (fun w' hw' hctx => exec_load _ _ _ _ _ _ _ _ _ (g + 1 + 1 + 1 + 1) 0 rfl [.string x.nm, .int .u8 x.ty, .int .u8 x.v.k, .int .i64 x.v.n, .int .i64 x.v.u, .string x.v.t] _ ((HX0.out.below (KR.to HB6.out HLE.out hw')).at0) Try.underlying49 rfl (by kernel_rfl)) ?_
  simp only [Act.put, List.setIfInBounds_toArray, List.set_cons_zero, List.set_cons_succ]
  refine RX.seqP_make (fun w v => OwnC (gl + 1) w v ([x])) (fun w w' v hR hV => hR.own v _ (.inr rfl) hV) (by first | rfl | simp) (fun w' hw' hctx => ?_) (fun u5 => ?_)
  · have hlt : gl < w'.heap.size := Nat.lt_of_lt_of_le HGL.out hw'.size
    have hBW := KR.to HB6.out HLE.out hw'
    exact ⟨.slice (some ⟨w'.heap.size, 0, none⟩) 1 1, w'.alloc (.cells #[.string x.nm, .int .u8 x.ty, .int .u8 x.v.k, .int .i64 x.v.n, .int .i64 x.v.u, .string x.v.t] 49), by go_simp, KR.alloc hlt _, one_own w' x hlt⟩
  simp only [Act.put, List.setIfInBounds_toArray, List.set_cons_zero, List.set_cons_succ]
  refine RX.seqP_make (fun w v => OwnC (gl + 1) w v (t.cols ++ [x])) (fun w w' v hR hV => hR.own v _ (PK.all _ _) hV) (by first | rfl | simp) (fun w' hw' hctx => ?_) (fun u6 => ?_)
  · have hlt : gl < w'.heap.size := Nat.lt_of_lt_of_le HGL.out hw'.size
    have hBW := KR.to HB6.out HLE.out hw'
    obtain ⟨a5, n5, e5, hsl5⟩ := hctx.1.sl (fun y hy => by simp only [List.mem_singleton] at hy; subst hy; exact HXW.out)
    obtain ⟨v, w2, hrun, hown, hkr⟩ := KR.append (F := t.cols ++ [x]) (E := [x]) (n := 1) hlt hctx.2.1 hsl5 rfl (by show t.cols.length + 1 ≤ 1000000; rw [HLN.out]; omega) HWT.out (t.cols ++ [x]).length (Nat.le_refl _) (by rw [List.take_length]) (HEX.out.imp id (fun h => .inl h))
    rw [List.take_length] at hown
    exact ⟨v, w2, exec_append _ _ _ _ _ _ _ _ _ _ _ _ _ _ rfl (by rw [e5]; rfl) hrun, hkr, hown⟩
  simp only [Act.put, List.setIfInBounds_toArray, List.set_cons_zero, List.set_cons_succ]
  refine RX.seqP_value (KR.refl gl _ _) _ (by first | rfl | simp) (fun w' hw' hctx => by (go_simp); (try first | with_reducible rfl | simp)) ?_
  simp only [Act.put, List.setIfInBounds_toArray, List.set_cons_zero, List.set_cons_succ]
  refine RX.seqP_writeOf (fun w _ => GoodC gl (t.cols ++ [x]) w) (fun w w' v hR hV => hR.good hV) (by first | rfl | simp) (fun w' hw' hctx => ?_) (fun u8 => ?_)
  · have hlt : gl < w'.heap.size := Nat.lt_of_lt_of_le HGL.out hw'.size
    have hown6 : OwnC (gl + 1) w' _ _ := hctx.1
    have hown7 := hown6
    obtain ⟨a6, n6, e6, _⟩ := hown7.sl HWF.out
    rw [e6] at hown6
    have h1 := hw'.is1 (show (W6.cell? ⟨gl, 1, none⟩).isSome = true by rw [HBL.out.get 1 _ rfl]; rfl)
    have h2 := hw'.fz.trans (show W6.frozen? ⟨gl, 1, none⟩ = false from HFZ.out)
    have hkr := KR.store (E := [x]) hlt h1 hown6
    obtain ⟨y, hy⟩ := Option.isSome_iff_exists.1 h1
    refine ⟨_, ?_, hkr.1, hkr.2⟩
    rw [e6]
    clear hkr hown6 hown7 h1 e6
    go_simp
  simp only [Act.put]
  refine RX.seqP_nil (fun v1 hR hctx _ => ?_)
  obtain ⟨sx, hcell, hown⟩ := hctx.1
  obtain ⟨a', c', rfl, hsl⟩ := hown.sl HWF.out
  have HSL := Lib.hid hsl
  have B458 : Hid (Below W.heap.size W v1) := Lib.hid (KR.to HB6.out HLE.out hR)
  have d0 : v1.cell? ⟨gl, 0, none⟩ = some (.string t.nm) := hR.c0.trans (HBL.out.get 0 _ rfl)
  have d1 : v1.cell? ⟨gl, 1, none⟩ = some (.slice a' (t.n + 1) c') := by rw [hcell, HFL.out]
  have d2 : v1.cell? ⟨gl, 2, none⟩ = some (.string t.ow) := hR.c2.trans (HBL.out.get 2 _ rfl)
  clear hcell hown hsl hctx hR hW6 hgl
  have hcon := rfits_is r (t.withC a' (t.n + 1) c' (t.cols ++ [x])) q u v1 (HR.out.below B458.out) ⟨HSL.out, HFL.out, HT.out.nm, HT.out.ow⟩ (HQ.out.below B458.out) (HU.out.below B458.out) (by omega) (by omega) 0 (fits_more a' c' x HLN.out HFZ0.out)
  go_wp2_with (first | (refine at_dst (some 96) rfl ?_; refine load_step 96 29 8 _ _ _ _ rfl (g + 1) 0 rfl [.int .u8 r.kind, .string r.nm, .string r.tb, .slice r.a r.n r.cap, .int .u8 r.is.op, .int .u8 r.is.v.k, .int .i64 r.is.v.n, .int .i64 r.is.v.u, .string r.is.v.t, .int .i64 r.is.m, .slice r.is.a r.is.len r.is.cap, .string r.to, .int .u8 r.od, .int .u8 r.ou, .bool r.late, .bool r.valid] _ ((HR0.out.below B458.out).at0) Try.underlying29 rfl (by kernel_rfl) ?_) | (refine at_dst (some 98) rfl ?_; refine load_step 98 29 9 _ _ _ _ rfl (g + 1 + 1) 0 rfl [.int .u8 q.kind, .string q.nm, .string q.tb, .slice q.a q.n q.cap, .int .u8 q.is.op, .int .u8 q.is.v.k, .int .i64 q.is.v.n, .int .i64 q.is.v.u, .string q.is.v.t, .int .i64 q.is.m, .slice q.is.a q.is.len q.is.cap, .string q.to, .int .u8 q.od, .int .u8 q.ou, .bool q.late, .bool q.valid] _ ((HQ0.out.below B458.out).at0) Try.underlying29 rfl (by kernel_rfl) ?_) | (refine at_dst (some 99) rfl ?_; refine load_step 99 32 10 _ _ _ _ rfl (g + 1 + 1 + 1) 0 rfl [.string u.nm, .slice u.a u.n u.cap, .string u.ow] _ ((HU0.out.below B458.out).at0) Try.underlying32 rfl (by kernel_rfl) ?_))
  refine (show Calls Try.prog _ _ _ _ from hcon).mono ?_
  rintro e w459 ⟨rfl, hb459⟩
  have B459 := Lib.hid (below_tr B458.out hb459)
  clear hcon hb459
  clear d0 d1 d2
  go_wp2_with fail
  go_ret
  exact ⟨rfl, below_tr HB.out B459.out⟩

set_option maxRecDepth 100000 in
set_option maxHeartbeats 8000000 in
theorem less_b (t : Tb) (i : Int) (r q : Rl) (u : Tb) (x : Col) (w : World) (ht : t.In w) (hr : r.In w) (hq : q.In w) (hu : u.In w) (hx : x.wf) (HMT : Hid (tableB t = true)) (hn1 : t.n ≤ 1) :
    Calls Try.prog 5 #[.agg #[.string t.nm, .slice t.a t.n t.cap, .string t.ow], .int .i64 i, .agg #[.int .u8 r.kind, .string r.nm, .string r.tb, .slice r.a r.n r.cap, .int .u8 r.is.op, .int .u8 r.is.v.k, .int .i64 r.is.v.n, .int .i64 r.is.v.u, .string r.is.v.t, .int .i64 r.is.m, .slice r.is.a r.is.len r.is.cap, .string r.to, .int .u8 r.od, .int .u8 r.ou, .bool r.late, .bool r.valid], .agg #[.int .u8 q.kind, .string q.nm, .string q.tb, .slice q.a q.n q.cap, .int .u8 q.is.op, .int .u8 q.is.v.k, .int .i64 q.is.v.n, .int .i64 q.is.v.u, .string q.is.v.t, .int .i64 q.is.m, .slice q.is.a q.is.len q.is.cap, .string q.to, .int .u8 q.od, .int .u8 q.ou, .bool q.late, .bool q.valid], .agg #[.string u.nm, .slice u.a u.n u.cap, .string u.ow], .agg #[.string x.nm, .int .u8 x.ty, .int .u8 x.v.k, .int .i64 x.v.n, .int .i64 x.v.u, .string x.v.t]] w fun e w' => e = .returned (.bool true) ∧ Below w.heap.size w w' := by
  obtain ⟨W, g, hg, hW, BT, BR, BQ, BU, BX, hb, hsz⟩ := boxL w t r q u x
  have HT0 := Lib.hid BT
  have HR0 := Lib.hid BR
  have HQ0 := Lib.hid BQ
  have HU0 := Lib.hid BU
  have HX0 := Lib.hid BX
  have HB := Lib.hid hb
  have HT := Lib.hid (ht.below hb)
  have HR := Lib.hid (hr.below hb)
  have HQ := Lib.hid (hq.below hb)
  have HU := Lib.hid (hu.below hb)
  have HSZ := Lib.hid hsz
  have HXW := Lib.hid hx
  have HTW : Hid (t.n ≤ 9223372036854775807) := Lib.hid ht.le
  have B0 := Lib.hid (Below.refl W.heap.size W)
  clear BT BR BQ BU BX hb ht hr hq hu hsz hx
  obtain ⟨fz, hfz0⟩ : ∃ fz, fitsR r t q u = fz := ⟨_, rfl⟩
  have HFZ0 := Lib.hid hfz0
  clear hfz0
  go_enter Try.func5, Try.ntmps5
  have hcon := wide_is t W (HT.out.below B0.out)
  go_wp2_with (first | (refine at_dst (some 16) rfl ?_; refine load_step 16 32 6 _ _ _ _ rfl g 0 rfl [.string t.nm, .slice t.a t.n t.cap, .string t.ow] _ ((HT0.out.below B0.out).at0) Try.underlying32 rfl (by kernel_rfl) ?_))
  refine (show Calls Try.prog _ _ _ _ from hcon).mono ?_
  rintro e w1 ⟨⟨b, rfl, h40⟩, hb1⟩
  have B1 := Lib.hid (below_tr B0.out hb1)
  clear hcon hb1 hW
  cases b
  case true =>
    have hcon := awake_is w1
    go_wp2_with (fail)
    refine (show Calls Try.prog _ _ _ _ from hcon).mono ?_
    rintro e w2 ⟨rfl, hb2⟩
    have B2 := Lib.hid (below_tr B1.out hb2)
    clear hcon hb2
    go_wp2_with fail
    go_ret
    exact ⟨rfl, below_tr HB.out B2.out⟩
  have h40 := h40 rfl
  have hcon := wide_is u w1 (HU.out.below B1.out)
  go_wp2_with (first | (refine at_dst (some 19) rfl ?_; refine load_step 19 32 10 _ _ _ _ rfl (g + 1 + 1 + 1) 0 rfl [.string u.nm, .slice u.a u.n u.cap, .string u.ow] _ ((HU0.out.below B1.out).at0) Try.underlying32 rfl (by kernel_rfl) ?_))
  refine (show Calls Try.prog _ _ _ _ from hcon).mono ?_
  rintro e w52 ⟨⟨b, rfl, h40u⟩, hb52⟩
  have B52 := Lib.hid (below_tr B1.out hb52)
  clear hcon hb52
  cases b
  case true =>
    have hcon := awake_is w52
    go_wp2_with (fail)
    refine (show Calls Try.prog _ _ _ _ from hcon).mono ?_
    rintro e w53 ⟨rfl, hb53⟩
    have B53 := Lib.hid (below_tr B52.out hb53)
    clear hcon hb53
    go_wp2_with fail
    go_ret
    exact ⟨rfl, below_tr HB.out B53.out⟩
  have h40u := h40u rfl
  have hcon := long_is r w52 (HR.out.below B52.out)
  go_wp2_with (first | (refine at_dst (some 23) rfl ?_; refine load_step 23 29 8 _ _ _ _ rfl (g + 1) 0 rfl [.int .u8 r.kind, .string r.nm, .string r.tb, .slice r.a r.n r.cap, .int .u8 r.is.op, .int .u8 r.is.v.k, .int .i64 r.is.v.n, .int .i64 r.is.v.u, .string r.is.v.t, .int .i64 r.is.m, .slice r.is.a r.is.len r.is.cap, .string r.to, .int .u8 r.od, .int .u8 r.ou, .bool r.late, .bool r.valid] _ ((HR0.out.below B52.out).at0) Try.underlying29 rfl (by kernel_rfl) ?_))
  refine (show Calls Try.prog _ _ _ _ from hcon).mono ?_
  rintro e w103 ⟨⟨b, rfl, h60⟩, hb103⟩
  have B103 := Lib.hid (below_tr B52.out hb103)
  clear hcon hb103
  cases b
  case true =>
    have hcon := awake_is w103
    go_wp2_with (fail)
    refine (show Calls Try.prog _ _ _ _ from hcon).mono ?_
    rintro e w104 ⟨rfl, hb104⟩
    have B104 := Lib.hid (below_tr B103.out hb104)
    clear hcon hb104
    go_wp2_with fail
    go_ret
    exact ⟨rfl, below_tr HB.out B104.out⟩
  have h60 := h60 rfl
  have hcon := long_is q w103 (HQ.out.below B103.out)
  go_wp2_with (first | (refine at_dst (some 27) rfl ?_; refine load_step 27 29 9 _ _ _ _ rfl (g + 1 + 1) 0 rfl [.int .u8 q.kind, .string q.nm, .string q.tb, .slice q.a q.n q.cap, .int .u8 q.is.op, .int .u8 q.is.v.k, .int .i64 q.is.v.n, .int .i64 q.is.v.u, .string q.is.v.t, .int .i64 q.is.m, .slice q.is.a q.is.len q.is.cap, .string q.to, .int .u8 q.od, .int .u8 q.ou, .bool q.late, .bool q.valid] _ ((HQ0.out.below B103.out).at0) Try.underlying29 rfl (by kernel_rfl) ?_))
  refine (show Calls Try.prog _ _ _ _ from hcon).mono ?_
  rintro e w154 ⟨⟨b, rfl, h60q⟩, hb154⟩
  have B154 := Lib.hid (below_tr B103.out hb154)
  clear hcon hb154
  cases b
  case true =>
    have hcon := awake_is w154
    go_wp2_with (fail)
    refine (show Calls Try.prog _ _ _ _ from hcon).mono ?_
    rintro e w155 ⟨rfl, hb155⟩
    have B155 := Lib.hid (below_tr B154.out hb155)
    clear hcon hb155
    go_wp2_with fail
    go_ret
    exact ⟨rfl, below_tr HB.out B155.out⟩
  have h60q := h60q rfl
  have c0 := (HX0.out.below B154.out).get 0 _ rfl
  have c5 := (HX0.out.below B154.out).get 5 _ rfl
  have hxw1 := HXW.out.s
  have hxw2 := HXW.out.v.t
  by_cases z0 : 200 < (x.nm.size : Int)
  · have y0 : decide (200 < (x.nm.size : Int)) = true := by simpa using z0
    have hcon := awake_is w154
    go_wp2_with (fail)
    refine (show Calls Try.prog _ _ _ _ from hcon).mono ?_
    rintro e w205 ⟨rfl, hb205⟩
    have B205 := Lib.hid (below_tr B154.out hb205)
    clear hcon hb205
    go_wp2_with fail
    go_ret
    exact ⟨rfl, below_tr HB.out B205.out⟩
  have y0 : decide (200 < (x.nm.size : Int)) = false := by simpa using z0
  by_cases z1 : 1000 < (x.v.t.size : Int)
  · have y1 : decide (1000 < (x.v.t.size : Int)) = true := by simpa using z1
    have hcon := awake_is w154
    go_wp2_with (fail)
    refine (show Calls Try.prog _ _ _ _ from hcon).mono ?_
    rintro e w305 ⟨rfl, hb305⟩
    have B305 := Lib.hid (below_tr B154.out hb305)
    clear hcon hb305
    go_wp2_with fail
    go_ret
    exact ⟨rfl, below_tr HB.out B305.out⟩
  have y1 : decide (1000 < (x.v.t.size : Int)) = false := by simpa using z1
  have hcon := awake_is w154
  go_wp2_with (fail)
  refine (show Calls Try.prog _ _ _ _ from hcon).mono ?_
  rintro e w405 ⟨rfl, hb405⟩
  have B405 := Lib.hid (below_tr B154.out hb405)
  clear hcon hb405
  clear c0 c5 y0 y1 z0 z1 hxw1 hxw2
  have hcon := maytable_is t true HMT.out w405 (HT.out.below B405.out)
  go_wp2_with (first | (refine at_dst (some 48) rfl ?_; refine load_step 48 32 6 _ _ _ _ rfl g 0 rfl [.string t.nm, .slice t.a t.n t.cap, .string t.ow] _ ((HT0.out.below B405.out).at0) Try.underlying32 rfl (by kernel_rfl) ?_))
  refine (show Calls Try.prog _ _ _ _ from hcon).mono ?_
  rintro e w406 ⟨rfl, hb406⟩
  have B406 := Lib.hid (below_tr B405.out hb406)
  clear hcon hb406
  have cc1 := (HT0.out.below B406.out).get 1 _ rfl
  have yn : decide (1 < (t.n : Int)) = false := by simp; omega
  have htn := HTW.out
  have HLN : Hid (t.cols.length = t.n) := Lib.hid HT.out.len
  clear h40u
  have hcon := rfits_is r t q u w406 (HR.out.below B406.out) (HT.out.below B406.out) (HQ.out.below B406.out) (HU.out.below B406.out) (by omega) (by omega) fz HFZ0.out
  go_wp2_with (first | (refine at_dst (some 81) rfl ?_; refine load_step 81 29 8 _ _ _ _ rfl (g + 1) 0 rfl [.int .u8 r.kind, .string r.nm, .string r.tb, .slice r.a r.n r.cap, .int .u8 r.is.op, .int .u8 r.is.v.k, .int .i64 r.is.v.n, .int .i64 r.is.v.u, .string r.is.v.t, .int .i64 r.is.m, .slice r.is.a r.is.len r.is.cap, .string r.to, .int .u8 r.od, .int .u8 r.ou, .bool r.late, .bool r.valid] _ ((HR0.out.below B406.out).at0) Try.underlying29 rfl (by kernel_rfl) ?_) | (refine at_dst (some 82) rfl ?_; refine load_step 82 32 6 _ _ _ _ rfl g 0 rfl [.string t.nm, .slice t.a t.n t.cap, .string t.ow] _ ((HT0.out.below B406.out).at0) Try.underlying32 rfl (by kernel_rfl) ?_) | (refine at_dst (some 83) rfl ?_; refine load_step 83 29 9 _ _ _ _ rfl (g + 1 + 1) 0 rfl [.int .u8 q.kind, .string q.nm, .string q.tb, .slice q.a q.n q.cap, .int .u8 q.is.op, .int .u8 q.is.v.k, .int .i64 q.is.v.n, .int .i64 q.is.v.u, .string q.is.v.t, .int .i64 q.is.m, .slice q.is.a q.is.len q.is.cap, .string q.to, .int .u8 q.od, .int .u8 q.ou, .bool q.late, .bool q.valid] _ ((HQ0.out.below B406.out).at0) Try.underlying29 rfl (by kernel_rfl) ?_) | (refine at_dst (some 84) rfl ?_; refine load_step 84 32 10 _ _ _ _ rfl (g + 1 + 1 + 1) 0 rfl [.string u.nm, .slice u.a u.n u.cap, .string u.ow] _ ((HU0.out.below B406.out).at0) Try.underlying32 rfl (by kernel_rfl) ?_))
  refine (show Calls Try.prog _ _ _ _ from hcon).mono ?_
  rintro e w407 ⟨rfl, hb407⟩
  have B407 := Lib.hid (below_tr B406.out hb407)
  clear hcon hb407
  by_cases hfz : fz = 0
  case neg =>
    have hfz1 : (fz != 0) = true := by simpa using hfz
    go_wp2_with fail
    go_ret
    exact ⟨rfl, below_tr HB.out B407.out⟩
  subst hfz
  obtain ⟨W6, gl, hW6, hgl, B6, hb6⟩ := boxT w407 t
  have HGL : Hid (gl < W6.drew.heap.size) := Lib.hid (show gl < W6.heap.size by rw [← hW6, ← hgl]; simp)
  have HFZ : Hid (W6.frozen? ⟨gl, 1, none⟩ = false) := Lib.hid (by rw [← hW6, ← hgl]; exact alloc_frozen _ _ _ _)
  have HLE : Hid (W.heap.size ≤ gl) := Lib.hid (by rw [← hgl]; exact B407.out.size)
  have HB6 := Lib.hid (below_tr B407.out hb6)
  have HBL := Lib.hid B6
  clear B6 hb6
  have HFL : Hid ((t.cols ++ [x]).length = t.n + 1) := Lib.hid (by rw [List.length_append, HLN.out]; rfl)
  have HF1 : Hid ((t.cols ++ [x]).take t.n = t.cols) := Lib.hid (by rw [List.take_append_of_le_length (by rw [HLN.out]; exact Nat.le_refl _), List.take_of_length_le (by rw [HLN.out]; exact Nat.le_refl _)])
  have HWT : Hid (∀ y ∈ t.cols, y.wf) := Lib.hid HT.out.sl.wf
  have HWF : Hid (∀ y ∈ t.cols ++ [x], y.wf) := Lib.hid (fun y hy => by
    rcases List.mem_append.1 hy with h | h
    · exact HWT.out y h
    · simp only [List.mem_singleton] at h; subst h; exact HXW.out)
  have HEX : Hid ((∃ k, k ≤ (t.cols ++ [x]).length ∧ [x] = (t.cols ++ [x]).take k) ∨ [x].length ≤ t.cols.length) := Lib.hid (by
    rcases Nat.eq_zero_or_pos t.cols.length with h | h
    · exact .inl ⟨1, by rw [List.length_append]; simp, by rw [List.length_eq_zero_iff.1 h]; rfl⟩
    · exact .inr h)
  go_wp2_with (first | (refine at_dst (some 87) rfl ?_; refine load_step 87 32 6 _ _ _ _ rfl g 0 rfl [.string t.nm, .slice t.a t.n t.cap, .string t.ow] _ ((HT0.out.below B407.out).at0) Try.underlying32 rfl (by kernel_rfl) ?_))
  refine RX.wp_region_plan (KR gl (t.cols ++ [x]) ([x])) [.of (NilC (gl + 1)), .it (.pointer (some ⟨g, 1, none⟩)), .it (.slice t.a t.n t.cap), .of (fun w v => OwnC (gl + 1) w v (t.cols)), .it (.agg #[.string x.nm, .int .u8 x.ty, .int .u8 x.v.k, .int .i64 x.v.n, .int .i64 x.v.u, .string x.v.t]), .of (fun w v => OwnC (gl + 1) w v ([x])), .of (fun w v => OwnC (gl + 1) w v (t.cols ++ [x])), .it (.pointer (some ⟨gl, 1, none⟩)), .of (fun w _ => GoodC gl (t.cols ++ [x]) w)] (by kernel_rfl) (by kernel_rfl) (KR.refl _ _ _) KR.trans ?_
  refine RX.seqP_make (NilC (gl + 1)) (fun w w' v hR hV => ⟨hV.1, hR.own v [] (PK.nil _ _) hV.2⟩) (by first | rfl | simp) (fun w' hw' hctx => ?_) (fun u0 => ?_)
  · have hlt : gl < w'.heap.size := Nat.lt_of_lt_of_le HGL.out hw'.size
    have hBW := KR.to HB6.out HLE.out hw'
    exact ⟨.slice (some ⟨w'.heap.size, 0, none⟩) 0 0, w'.alloc (.cells #[] 49), by go_simp, KR.alloc hlt _, NilC.new _ hlt⟩
  simp only [Act.put, List.setIfInBounds_toArray, List.set_cons_zero, List.set_cons_succ]
  refine RX.seqP_value (KR.refl gl _ _) _ (by first | rfl | simp) (fun w' hw' hctx => by (go_simp); (try first | with_reducible rfl | simp)) ?_
  simp only [Act.put, List.setIfInBounds_toArray, List.set_cons_zero, List.set_cons_succ]
  refine RX.seqP_value (KR.refl gl _ _) _ (by first | rfl | simp) (fun w' hw' hctx => ?_) ?_
  · have e1 := (HT0.out.below (KR.to HB6.out HLE.out hw')).get 1 _ rfl
    go_simp
    try first | with_reducible rfl | simp
  simp only [Act.put, List.setIfInBounds_toArray, List.set_cons_zero, List.set_cons_succ]
  refine RX.seqP_make (fun w v => OwnC (gl + 1) w v (t.cols)) (fun w w' v hR hV => hR.own v _ (.inl ⟨t.n, by rw [HFL.out]; omega, HF1.out.symm⟩) hV) (by first | rfl | simp) (fun w' hw' hctx => ?_) (fun u3 => ?_)
  · have hlt : gl < w'.heap.size := Nat.lt_of_lt_of_le HGL.out hw'.size
    have hBW := KR.to HB6.out HLE.out hw'
    obtain ⟨v, w2, hrun, hown, hkr⟩ := KR.append (F := t.cols ++ [x]) (E := [x]) hlt hctx.1.2 (show SlC w' t.a t.cap t.cols from (HT.out.below hBW).sl) HLN.out (by show 0 + t.cols.length ≤ 1000000; rw [HLN.out]; omega) (fun _ h => by cases h) t.n (by rw [HFL.out]; omega) (by rw [HF1.out, List.nil_append]) (.inr (.inr hctx.1.1))
    rw [HF1.out] at hown
    exact ⟨v, w2, exec_append _ _ _ _ _ _ _ _ _ _ _ _ _ _ rfl rfl hrun, hkr, hown⟩
  simp only [Act.put, List.setIfInBounds_toArray, List.set_cons_zero, List.set_cons_succ]
  refine RX.seqP_value (KR.refl gl _ _) _ (by first | rfl | simp) (fun w' hw' hctx => exec_load _ _ _ _ _ _ _ _ _ (g + 1 + 1 + 1 + 1) 0 rfl [.string x.nm, .int .u8 x.ty, .int .u8 x.v.k, .int .i64 x.v.n, .int .i64 x.v.u, .string x.v.t] _ ((HX0.out.below (KR.to HB6.out HLE.out hw')).at0) Try.underlying49 rfl (by kernel_rfl)) ?_
  simp only [Act.put, List.setIfInBounds_toArray, List.set_cons_zero, List.set_cons_succ]
  refine RX.seqP_make (fun w v => OwnC (gl + 1) w v ([x])) (fun w w' v hR hV => hR.own v _ (.inr rfl) hV) (by first | rfl | simp) (fun w' hw' hctx => ?_) (fun u5 => ?_)
  · have hlt : gl < w'.heap.size := Nat.lt_of_lt_of_le HGL.out hw'.size
    have hBW := KR.to HB6.out HLE.out hw'
    exact ⟨.slice (some ⟨w'.heap.size, 0, none⟩) 1 1, w'.alloc (.cells #[.string x.nm, .int .u8 x.ty, .int .u8 x.v.k, .int .i64 x.v.n, .int .i64 x.v.u, .string x.v.t] 49), by go_simp, KR.alloc hlt _, one_own w' x hlt⟩
  simp only [Act.put, List.setIfInBounds_toArray, List.set_cons_zero, List.set_cons_succ]
  refine RX.seqP_make (fun w v => OwnC (gl + 1) w v (t.cols ++ [x])) (fun w w' v hR hV => hR.own v _ (PK.all _ _) hV) (by first | rfl | simp) (fun w' hw' hctx => ?_) (fun u6 => ?_)
  · have hlt : gl < w'.heap.size := Nat.lt_of_lt_of_le HGL.out hw'.size
    have hBW := KR.to HB6.out HLE.out hw'
    obtain ⟨a5, n5, e5, hsl5⟩ := hctx.1.sl (fun y hy => by simp only [List.mem_singleton] at hy; subst hy; exact HXW.out)
    obtain ⟨v, w2, hrun, hown, hkr⟩ := KR.append (F := t.cols ++ [x]) (E := [x]) (n := 1) hlt hctx.2.1 hsl5 rfl (by show t.cols.length + 1 ≤ 1000000; rw [HLN.out]; omega) HWT.out (t.cols ++ [x]).length (Nat.le_refl _) (by rw [List.take_length]) (HEX.out.imp id (fun h => .inl h))
    rw [List.take_length] at hown
    exact ⟨v, w2, exec_append _ _ _ _ _ _ _ _ _ _ _ _ _ _ rfl (by rw [e5]; rfl) hrun, hkr, hown⟩
  simp only [Act.put, List.setIfInBounds_toArray, List.set_cons_zero, List.set_cons_succ]
  refine RX.seqP_value (KR.refl gl _ _) _ (by first | rfl | simp) (fun w' hw' hctx => by (go_simp); (try first | with_reducible rfl | simp)) ?_
  simp only [Act.put, List.setIfInBounds_toArray, List.set_cons_zero, List.set_cons_succ]
  refine RX.seqP_writeOf (fun w _ => GoodC gl (t.cols ++ [x]) w) (fun w w' v hR hV => hR.good hV) (by first | rfl | simp) (fun w' hw' hctx => ?_) (fun u8 => ?_)
  · have hlt : gl < w'.heap.size := Nat.lt_of_lt_of_le HGL.out hw'.size
    have hown6 : OwnC (gl + 1) w' _ _ := hctx.1
    have hown7 := hown6
    obtain ⟨a6, n6, e6, _⟩ := hown7.sl HWF.out
    rw [e6] at hown6
    have h1 := hw'.is1 (show (W6.cell? ⟨gl, 1, none⟩).isSome = true by rw [HBL.out.get 1 _ rfl]; rfl)
    have h2 := hw'.fz.trans (show W6.frozen? ⟨gl, 1, none⟩ = false from HFZ.out)
    have hkr := KR.store (E := [x]) hlt h1 hown6
    obtain ⟨y, hy⟩ := Option.isSome_iff_exists.1 h1
    refine ⟨_, ?_, hkr.1, hkr.2⟩
    rw [e6]
    clear hkr hown6 hown7 h1 e6
    go_simp
  simp only [Act.put]
  refine RX.seqP_nil (fun v1 hR hctx _ => ?_)
  obtain ⟨sx, hcell, hown⟩ := hctx.1
  obtain ⟨a', c', rfl, hsl⟩ := hown.sl HWF.out
  have HSL := Lib.hid hsl
  have B458 : Hid (Below W.heap.size W v1) := Lib.hid (KR.to HB6.out HLE.out hR)
  have d0 : v1.cell? ⟨gl, 0, none⟩ = some (.string t.nm) := hR.c0.trans (HBL.out.get 0 _ rfl)
  have d1 : v1.cell? ⟨gl, 1, none⟩ = some (.slice a' (t.n + 1) c') := by rw [hcell, HFL.out]
  have d2 : v1.cell? ⟨gl, 2, none⟩ = some (.string t.ow) := hR.c2.trans (HBL.out.get 2 _ rfl)
  clear hcell hown hsl hctx hR hW6 hgl
  have hcon := rfits_is r (t.withC a' (t.n + 1) c' (t.cols ++ [x])) q u v1 (HR.out.below B458.out) ⟨HSL.out, HFL.out, HT.out.nm, HT.out.ow⟩ (HQ.out.below B458.out) (HU.out.below B458.out) (by omega) (by omega) 0 (fits_more a' c' x HLN.out HFZ0.out)
  go_wp2_with (first | (refine at_dst (some 96) rfl ?_; refine load_step 96 29 8 _ _ _ _ rfl (g + 1) 0 rfl [.int .u8 r.kind, .string r.nm, .string r.tb, .slice r.a r.n r.cap, .int .u8 r.is.op, .int .u8 r.is.v.k, .int .i64 r.is.v.n, .int .i64 r.is.v.u, .string r.is.v.t, .int .i64 r.is.m, .slice r.is.a r.is.len r.is.cap, .string r.to, .int .u8 r.od, .int .u8 r.ou, .bool r.late, .bool r.valid] _ ((HR0.out.below B458.out).at0) Try.underlying29 rfl (by kernel_rfl) ?_) | (refine at_dst (some 98) rfl ?_; refine load_step 98 29 9 _ _ _ _ rfl (g + 1 + 1) 0 rfl [.int .u8 q.kind, .string q.nm, .string q.tb, .slice q.a q.n q.cap, .int .u8 q.is.op, .int .u8 q.is.v.k, .int .i64 q.is.v.n, .int .i64 q.is.v.u, .string q.is.v.t, .int .i64 q.is.m, .slice q.is.a q.is.len q.is.cap, .string q.to, .int .u8 q.od, .int .u8 q.ou, .bool q.late, .bool q.valid] _ ((HQ0.out.below B458.out).at0) Try.underlying29 rfl (by kernel_rfl) ?_) | (refine at_dst (some 99) rfl ?_; refine load_step 99 32 10 _ _ _ _ rfl (g + 1 + 1 + 1) 0 rfl [.string u.nm, .slice u.a u.n u.cap, .string u.ow] _ ((HU0.out.below B458.out).at0) Try.underlying32 rfl (by kernel_rfl) ?_))
  refine (show Calls Try.prog _ _ _ _ from hcon).mono ?_
  rintro e w459 ⟨rfl, hb459⟩
  have B459 := Lib.hid (below_tr B458.out hb459)
  clear hcon hb459
  clear d0 d1 d2
  go_wp2_with fail
  go_ret
  exact ⟨rfl, below_tr HB.out B459.out⟩

set_option maxRecDepth 100000 in
set_option maxHeartbeats 8000000 in
theorem less_c (nm : ByteArray) (b o n cap : Nat) (cols : List Col) (ow : ByteArray) (i : Int) (r q : Rl) (u : Tb) (x : Col) (w : World) (ht : (Tb.mk nm (some ⟨b, o, none⟩) n cap cols ow).In w) (hr : r.In w) (hq : q.In w) (hu : u.In w) (hx : x.wf) (HMT : Hid (tableB (Tb.mk nm (some ⟨b, o, none⟩) n cap cols ow) = true)) (hn1 : 1 < n) :
    Calls Try.prog 5 #[.agg #[.string (Tb.mk nm (some ⟨b, o, none⟩) n cap cols ow).nm, .slice (Tb.mk nm (some ⟨b, o, none⟩) n cap cols ow).a (Tb.mk nm (some ⟨b, o, none⟩) n cap cols ow).n (Tb.mk nm (some ⟨b, o, none⟩) n cap cols ow).cap, .string (Tb.mk nm (some ⟨b, o, none⟩) n cap cols ow).ow], .int .i64 i, .agg #[.int .u8 r.kind, .string r.nm, .string r.tb, .slice r.a r.n r.cap, .int .u8 r.is.op, .int .u8 r.is.v.k, .int .i64 r.is.v.n, .int .i64 r.is.v.u, .string r.is.v.t, .int .i64 r.is.m, .slice r.is.a r.is.len r.is.cap, .string r.to, .int .u8 r.od, .int .u8 r.ou, .bool r.late, .bool r.valid], .agg #[.int .u8 q.kind, .string q.nm, .string q.tb, .slice q.a q.n q.cap, .int .u8 q.is.op, .int .u8 q.is.v.k, .int .i64 q.is.v.n, .int .i64 q.is.v.u, .string q.is.v.t, .int .i64 q.is.m, .slice q.is.a q.is.len q.is.cap, .string q.to, .int .u8 q.od, .int .u8 q.ou, .bool q.late, .bool q.valid], .agg #[.string u.nm, .slice u.a u.n u.cap, .string u.ow], .agg #[.string x.nm, .int .u8 x.ty, .int .u8 x.v.k, .int .i64 x.v.n, .int .i64 x.v.u, .string x.v.t]] w fun e w' => e = .returned (.bool true) ∧ Below w.heap.size w w' := by
  obtain ⟨W, g, hg, hW, BT, BR, BQ, BU, BX, hb, hsz⟩ := boxL w (Tb.mk nm (some ⟨b, o, none⟩) n cap cols ow) r q u x
  have HT0 := Lib.hid BT
  have HR0 := Lib.hid BR
  have HQ0 := Lib.hid BQ
  have HU0 := Lib.hid BU
  have HX0 := Lib.hid BX
  have HB := Lib.hid hb
  have HT := Lib.hid (ht.below hb)
  have HR := Lib.hid (hr.below hb)
  have HQ := Lib.hid (hq.below hb)
  have HU := Lib.hid (hu.below hb)
  have HSZ := Lib.hid hsz
  have HXW := Lib.hid hx
  have HTW : Hid ((Tb.mk nm (some ⟨b, o, none⟩) n cap cols ow).n ≤ 9223372036854775807) := Lib.hid ht.le
  have B0 := Lib.hid (Below.refl W.heap.size W)
  clear BT BR BQ BU BX hb ht hr hq hu hsz hx
  obtain ⟨fz, hfz0⟩ : ∃ fz, fitsR r (Tb.mk nm (some ⟨b, o, none⟩) n cap cols ow) q u = fz := ⟨_, rfl⟩
  have HFZ0 := Lib.hid hfz0
  clear hfz0
  go_enter Try.func5, Try.ntmps5
  have hcon := wide_is (Tb.mk nm (some ⟨b, o, none⟩) n cap cols ow) W (HT.out.below B0.out)
  go_wp2_with (first | (refine at_dst (some 16) rfl ?_; refine load_step 16 32 6 _ _ _ _ rfl g 0 rfl [.string (Tb.mk nm (some ⟨b, o, none⟩) n cap cols ow).nm, .slice (Tb.mk nm (some ⟨b, o, none⟩) n cap cols ow).a (Tb.mk nm (some ⟨b, o, none⟩) n cap cols ow).n (Tb.mk nm (some ⟨b, o, none⟩) n cap cols ow).cap, .string (Tb.mk nm (some ⟨b, o, none⟩) n cap cols ow).ow] _ ((HT0.out.below B0.out).at0) Try.underlying32 rfl (by kernel_rfl) ?_))
  refine (show Calls Try.prog _ _ _ _ from hcon).mono ?_
  rintro e w1 ⟨⟨b, rfl, h40⟩, hb1⟩
  have B1 := Lib.hid (below_tr B0.out hb1)
  clear hcon hb1 hW
  cases b
  case true =>
    have hcon := awake_is w1
    go_wp2_with (fail)
    refine (show Calls Try.prog _ _ _ _ from hcon).mono ?_
    rintro e w2 ⟨rfl, hb2⟩
    have B2 := Lib.hid (below_tr B1.out hb2)
    clear hcon hb2
    go_wp2_with fail
    go_ret
    exact ⟨rfl, below_tr HB.out B2.out⟩
  have h40 := h40 rfl
  have hcon := wide_is u w1 (HU.out.below B1.out)
  go_wp2_with (first | (refine at_dst (some 19) rfl ?_; refine load_step 19 32 10 _ _ _ _ rfl (g + 1 + 1 + 1) 0 rfl [.string u.nm, .slice u.a u.n u.cap, .string u.ow] _ ((HU0.out.below B1.out).at0) Try.underlying32 rfl (by kernel_rfl) ?_))
  refine (show Calls Try.prog _ _ _ _ from hcon).mono ?_
  rintro e w52 ⟨⟨b, rfl, h40u⟩, hb52⟩
  have B52 := Lib.hid (below_tr B1.out hb52)
  clear hcon hb52
  cases b
  case true =>
    have hcon := awake_is w52
    go_wp2_with (fail)
    refine (show Calls Try.prog _ _ _ _ from hcon).mono ?_
    rintro e w53 ⟨rfl, hb53⟩
    have B53 := Lib.hid (below_tr B52.out hb53)
    clear hcon hb53
    go_wp2_with fail
    go_ret
    exact ⟨rfl, below_tr HB.out B53.out⟩
  have h40u := h40u rfl
  have hcon := long_is r w52 (HR.out.below B52.out)
  go_wp2_with (first | (refine at_dst (some 23) rfl ?_; refine load_step 23 29 8 _ _ _ _ rfl (g + 1) 0 rfl [.int .u8 r.kind, .string r.nm, .string r.tb, .slice r.a r.n r.cap, .int .u8 r.is.op, .int .u8 r.is.v.k, .int .i64 r.is.v.n, .int .i64 r.is.v.u, .string r.is.v.t, .int .i64 r.is.m, .slice r.is.a r.is.len r.is.cap, .string r.to, .int .u8 r.od, .int .u8 r.ou, .bool r.late, .bool r.valid] _ ((HR0.out.below B52.out).at0) Try.underlying29 rfl (by kernel_rfl) ?_))
  refine (show Calls Try.prog _ _ _ _ from hcon).mono ?_
  rintro e w103 ⟨⟨b, rfl, h60⟩, hb103⟩
  have B103 := Lib.hid (below_tr B52.out hb103)
  clear hcon hb103
  cases b
  case true =>
    have hcon := awake_is w103
    go_wp2_with (fail)
    refine (show Calls Try.prog _ _ _ _ from hcon).mono ?_
    rintro e w104 ⟨rfl, hb104⟩
    have B104 := Lib.hid (below_tr B103.out hb104)
    clear hcon hb104
    go_wp2_with fail
    go_ret
    exact ⟨rfl, below_tr HB.out B104.out⟩
  have h60 := h60 rfl
  have hcon := long_is q w103 (HQ.out.below B103.out)
  go_wp2_with (first | (refine at_dst (some 27) rfl ?_; refine load_step 27 29 9 _ _ _ _ rfl (g + 1 + 1) 0 rfl [.int .u8 q.kind, .string q.nm, .string q.tb, .slice q.a q.n q.cap, .int .u8 q.is.op, .int .u8 q.is.v.k, .int .i64 q.is.v.n, .int .i64 q.is.v.u, .string q.is.v.t, .int .i64 q.is.m, .slice q.is.a q.is.len q.is.cap, .string q.to, .int .u8 q.od, .int .u8 q.ou, .bool q.late, .bool q.valid] _ ((HQ0.out.below B103.out).at0) Try.underlying29 rfl (by kernel_rfl) ?_))
  refine (show Calls Try.prog _ _ _ _ from hcon).mono ?_
  rintro e w154 ⟨⟨b, rfl, h60q⟩, hb154⟩
  have B154 := Lib.hid (below_tr B103.out hb154)
  clear hcon hb154
  cases b
  case true =>
    have hcon := awake_is w154
    go_wp2_with (fail)
    refine (show Calls Try.prog _ _ _ _ from hcon).mono ?_
    rintro e w155 ⟨rfl, hb155⟩
    have B155 := Lib.hid (below_tr B154.out hb155)
    clear hcon hb155
    go_wp2_with fail
    go_ret
    exact ⟨rfl, below_tr HB.out B155.out⟩
  have h60q := h60q rfl
  have c0 := (HX0.out.below B154.out).get 0 _ rfl
  have c5 := (HX0.out.below B154.out).get 5 _ rfl
  have hxw1 := HXW.out.s
  have hxw2 := HXW.out.v.t
  by_cases z0 : 200 < (x.nm.size : Int)
  · have y0 : decide (200 < (x.nm.size : Int)) = true := by simpa using z0
    have hcon := awake_is w154
    go_wp2_with (fail)
    refine (show Calls Try.prog _ _ _ _ from hcon).mono ?_
    rintro e w205 ⟨rfl, hb205⟩
    have B205 := Lib.hid (below_tr B154.out hb205)
    clear hcon hb205
    go_wp2_with fail
    go_ret
    exact ⟨rfl, below_tr HB.out B205.out⟩
  have y0 : decide (200 < (x.nm.size : Int)) = false := by simpa using z0
  by_cases z1 : 1000 < (x.v.t.size : Int)
  · have y1 : decide (1000 < (x.v.t.size : Int)) = true := by simpa using z1
    have hcon := awake_is w154
    go_wp2_with (fail)
    refine (show Calls Try.prog _ _ _ _ from hcon).mono ?_
    rintro e w305 ⟨rfl, hb305⟩
    have B305 := Lib.hid (below_tr B154.out hb305)
    clear hcon hb305
    go_wp2_with fail
    go_ret
    exact ⟨rfl, below_tr HB.out B305.out⟩
  have y1 : decide (1000 < (x.v.t.size : Int)) = false := by simpa using z1
  have hcon := awake_is w154
  go_wp2_with (fail)
  refine (show Calls Try.prog _ _ _ _ from hcon).mono ?_
  rintro e w405 ⟨rfl, hb405⟩
  have B405 := Lib.hid (below_tr B154.out hb405)
  clear hcon hb405
  clear c0 c5 y0 y1 z0 z1 hxw1 hxw2
  have h40n : n ≤ 40 := by first | exact h40 | exact h40 trivial
  obtain ⟨k, hK, hkn⟩ := at_num i n h40n (by omega)
  have hun : IntKind.u64.wrap (n : Int) = (n : Int) := by simp only [IntKind.wrap, IntKind.signed, IntKind.bits]; simp; omega
  have HKN := Lib.hid hkn
  have hcon := maytable_is (Tb.mk nm (some ⟨b, o, none⟩) n cap cols ow) true HMT.out w405 (HT.out.below B405.out)
  go_wp2_with (first | (refine at_dst (some 48) rfl ?_; refine load_step 48 32 6 _ _ _ _ rfl g 0 rfl [.string (Tb.mk nm (some ⟨b, o, none⟩) n cap cols ow).nm, .slice (Tb.mk nm (some ⟨b, o, none⟩) n cap cols ow).a (Tb.mk nm (some ⟨b, o, none⟩) n cap cols ow).n (Tb.mk nm (some ⟨b, o, none⟩) n cap cols ow).cap, .string (Tb.mk nm (some ⟨b, o, none⟩) n cap cols ow).ow] _ ((HT0.out.below B405.out).at0) Try.underlying32 rfl (by kernel_rfl) ?_))
  refine (show Calls Try.prog _ _ _ _ from hcon).mono ?_
  rintro e w406 ⟨rfl, hb406⟩
  have B406 := Lib.hid (below_tr B405.out hb406)
  clear hcon hb406
  have cc1 := (HT0.out.below B406.out).get 1 _ rfl
  have yn : decide (1 < (n : Int)) = true := by simp; omega
  have yz : ¬ (n : Int) = 0 := by omega
  obtain ⟨W6, gl, hW6, hgl, B6, hb6⟩ := boxT w406 (Tb.mk nm (some ⟨b, o, none⟩) n cap cols ow)
  have HGL : Hid (gl < W6.drew.heap.size) := Lib.hid (show gl < W6.heap.size by rw [← hW6, ← hgl]; simp)
  have HFZ : Hid (W6.frozen? ⟨gl, 1, none⟩ = false) := Lib.hid (by rw [← hW6, ← hgl]; exact alloc_frozen _ _ _ _)
  have HLE : Hid (W.heap.size ≤ gl) := Lib.hid (by rw [← hgl]; exact B406.out.size)
  have HB6 := Lib.hid (below_tr B406.out hb6)
  have HBL := Lib.hid B6
  clear B6 hb6
  have HLN : Hid (cols.length = n) := Lib.hid HT.out.len
  have HFL : Hid ((lessL cols k).length = n - 1) := Lib.hid (by rw [lessL_len (by rw [HLN.out]; exact HKN.out), HLN.out])
  have HF1 : Hid ((lessL cols k).take k = cols.take k) := Lib.hid (lessL_take (by rw [HLN.out]; omega))
  have HKL : Hid ((cols.take k).length = k) := Lib.hid (by rw [List.length_take, HLN.out]; omega)
  have HDL : Hid ((cols.drop (k + 1)).length = n - (k + 1)) := Lib.hid (by rw [List.length_drop, HLN.out])
  have HWT : Hid (∀ y ∈ cols, y.wf) := Lib.hid HT.out.sl.wf
  have HWF : Hid (∀ y ∈ lessL cols k, y.wf) := Lib.hid (fun y hy => HWT.out y (lessL_mem hy))
  have cc2 := (HT0.out.below HB6.out).get 1 _ rfl
  go_wp2_with (first | (refine at_dst (some 56) rfl ?_; refine load_step 56 32 6 _ _ _ _ rfl g 0 rfl [.string (Tb.mk nm (some ⟨b, o, none⟩) n cap cols ow).nm, .slice (Tb.mk nm (some ⟨b, o, none⟩) n cap cols ow).a (Tb.mk nm (some ⟨b, o, none⟩) n cap cols ow).n (Tb.mk nm (some ⟨b, o, none⟩) n cap cols ow).cap, .string (Tb.mk nm (some ⟨b, o, none⟩) n cap cols ow).ow] _ ((HT0.out.below B406.out).at0) Try.underlying32 rfl (by kernel_rfl) ?_))
  have hlc0 : n ≤ cap := by have := HT.out.sl.lc; rw [HLN.out] at this; exact this
  have hcm0 : cap ≤ 9223372036854775807 := by have := HT.out.sl.cm; unfold maxLen at this; exact this
  have zk1 : k + 1 ≤ n := hkn
  have zk2 : k ≤ cap := by omega
  have zk3 : k + 1 ≤ cap := by omega
  obtain ⟨pd, hpd⟩ : ∃ pd, (if cap = k + 1 then some ⟨b, o, none⟩ else some ⟨b, o + (k + 1) * 6, none⟩ : Option Addr) = pd := ⟨_, rfl⟩
  have HPD := Lib.hid hpd
  clear hpd
  have zk4 : 0 ≤ (k : Int) + 1 ∧ (k : Int) + 1 ≤ (n : Int) := by omega
  have zk5 : IntKind.i64.wrap ((k : Int) + 1) = (k : Int) + 1 := by rw [IntKind.wrap_i64]; omega
  refine RX.wp_region_plan (KR gl (lessL cols k) (([] : List Col))) [.of (NilC (gl + 1)), .it (.pointer (some ⟨g, 1, none⟩)), .it (.slice (some ⟨b, o, none⟩) n cap), .it (.int .i64 (k : Int)), .it (.slice (some ⟨b, o, none⟩) k cap), .of (fun w v => OwnC (gl + 1) w v (cols.take k)), .it (.pointer (some ⟨g, 1, none⟩)), .it (.slice (some ⟨b, o, none⟩) n cap), .it (.int .i64 (k : Int)), .it (.int .i64 ((k : Int) + 1)), .it (.slice pd (n - (k + 1)) (cap - (k + 1))), .of (fun w v => OwnC (gl + 1) w v (lessL cols k)), .it (.pointer (some ⟨gl, 1, none⟩)), .of (fun w _ => GoodC gl (lessL cols k) w)] (by kernel_rfl) (by kernel_rfl) (KR.refl _ _ _) KR.trans ?_
  refine RX.seqP_make (NilC (gl + 1)) (fun w w' v hR hV => ⟨hV.1, hR.own v [] (PK.nil _ _) hV.2⟩) (by first | rfl | simp) (fun w' hw' hctx => ?_) (fun u0 => ?_)
  · have hlt : gl < w'.heap.size := Nat.lt_of_lt_of_le HGL.out hw'.size
    have hBW := KR.to HB6.out HLE.out hw'
    exact ⟨.slice (some ⟨w'.heap.size, 0, none⟩) 0 0, w'.alloc (.cells #[] 49), by go_simp, KR.alloc hlt _, NilC.new _ hlt⟩
  simp only [Act.put, List.setIfInBounds_toArray, List.set_cons_zero, List.set_cons_succ]
  refine RX.seqP_value (KR.refl gl _ _) _ (by first | rfl | simp) (fun w' hw' hctx => by (go_simp); (try first | with_reducible rfl | simp)) ?_
  simp only [Act.put, List.setIfInBounds_toArray, List.set_cons_zero, List.set_cons_succ]
  refine RX.seqP_value (KR.refl gl _ _) _ (by first | rfl | simp) (fun w' hw' hctx => ?_) ?_
  · have e1 := (HT0.out.below (KR.to HB6.out HLE.out hw')).get 1 _ rfl
    go_simp
    try first | with_reducible rfl | simp
  simp only [Act.put, List.setIfInBounds_toArray, List.set_cons_zero, List.set_cons_succ]
  refine RX.seqP_value (KR.refl gl _ _) _ (by first | rfl | simp) (fun w' hw' hctx => by (go_simp); (try first | with_reducible rfl | simp)) ?_
  simp only [Act.put, List.setIfInBounds_toArray, List.set_cons_zero, List.set_cons_succ]
  refine RX.seqP_value (KR.refl gl _ _) _ (by first | rfl | simp) (fun w' hw' hctx => by (go_simp); (try first | with_reducible rfl | simp)) ?_
  simp only [Act.put, List.setIfInBounds_toArray, List.set_cons_zero, List.set_cons_succ]
  refine RX.seqP_make (fun w v => OwnC (gl + 1) w v (cols.take k)) (fun w w' v hR hV => hR.own v _ (.inl ⟨k, by rw [HFL.out]; have := HKN.out; omega, HF1.out.symm⟩) hV) (by first | rfl | simp) (fun w' hw' hctx => ?_) (fun u5 => ?_)
  · have hlt : gl < w'.heap.size := Nat.lt_of_lt_of_le HGL.out hw'.size
    have hBW := KR.to HB6.out HLE.out hw'
    obtain ⟨v, w2, hrun, hown, hkr⟩ := KR.append (F := lessL cols k) (E := []) (n := k) hlt hctx.1.2 (show SlC w' (some ⟨b, o, none⟩) cap (cols.take k) from (HT.out.below hBW).sl.take k) HKL.out (by show 0 + (cols.take k).length ≤ 1000000; rw [HKL.out]; omega) (fun _ h => by cases h) k (by rw [HFL.out]; have := HKN.out; omega) (by rw [HF1.out]; rfl) (.inr (.inr hctx.1.1))
    rw [HF1.out] at hown
    exact ⟨v, w2, exec_append _ _ _ _ _ _ _ _ _ _ _ _ _ _ rfl rfl hrun, hkr, hown⟩
  simp only [Act.put, List.setIfInBounds_toArray, List.set_cons_zero, List.set_cons_succ]
  refine RX.seqP_value (KR.refl gl _ _) _ (by first | rfl | simp) (fun w' hw' hctx => by (go_simp); (try first | with_reducible rfl | simp)) ?_
  simp only [Act.put, List.setIfInBounds_toArray, List.set_cons_zero, List.set_cons_succ]
  refine RX.seqP_value (KR.refl gl _ _) _ (by first | rfl | simp) (fun w' hw' hctx => ?_) ?_
  · have e1 := (HT0.out.below (KR.to HB6.out HLE.out hw')).get 1 _ rfl
    go_simp
    try first | with_reducible rfl | simp
  simp only [Act.put, List.setIfInBounds_toArray, List.set_cons_zero, List.set_cons_succ]
  refine RX.seqP_value (KR.refl gl _ _) _ (by first | rfl | simp) (fun w' hw' hctx => by (go_simp); (try first | with_reducible rfl | simp)) ?_
  simp only [Act.put, List.setIfInBounds_toArray, List.set_cons_zero, List.set_cons_succ]
  refine RX.seqP_value (KR.refl gl _ _) _ (by first | rfl | simp) (fun w' hw' hctx => by (go_simp); (try first | with_reducible rfl | simp)) ?_
  simp only [Act.put, List.setIfInBounds_toArray, List.set_cons_zero, List.set_cons_succ]
  refine RX.seqP_value (KR.refl gl _ _) _ (by first | rfl | simp) (fun w' hw' hctx => ?_) ?_
  · rw [← HPD.out]
    go_simp
    try first | with_reducible rfl | simp
  simp only [Act.put, List.setIfInBounds_toArray, List.set_cons_zero, List.set_cons_succ]
  refine RX.seqP_make (fun w v => OwnC (gl + 1) w v (lessL cols k)) (fun w w' v hR hV => hR.own v _ (PK.all _ _) hV) (by first | rfl | simp) (fun w' hw' hctx => ?_) (fun u11 => ?_)
  · have hlt : gl < w'.heap.size := Nat.lt_of_lt_of_le HGL.out hw'.size
    have hBW := KR.to HB6.out HLE.out hw'
    obtain ⟨v, w2, hrun, hown, hkr⟩ := KR.append (F := lessL cols k) (E := []) (n := n - (k + 1)) hlt hctx.1 (show SlC w' pd (cap - (k + 1)) (cols.drop (k + 1)) from HPD.out ▸ (show SlC w' (some ⟨b, o, none⟩) cap cols from (HT.out.below hBW).sl).dropIf (k + 1) (by rw [HLN.out]; have := HKN.out; omega)) HDL.out (by show (cols.take k).length + (cols.drop (k + 1)).length ≤ 1000000; rw [HKL.out, HDL.out]; omega) (fun y hy => HWT.out y (List.mem_of_mem_take hy)) (lessL cols k).length (Nat.le_refl _) (by rw [List.take_length]; rfl) (.inl ⟨0, Nat.zero_le _, rfl⟩)
    rw [List.take_length] at hown
    exact ⟨v, w2, exec_append _ _ _ _ _ _ _ _ _ _ _ _ _ _ rfl rfl hrun, hkr, hown⟩
  simp only [Act.put, List.setIfInBounds_toArray, List.set_cons_zero, List.set_cons_succ]
  refine RX.seqP_value (KR.refl gl _ _) _ (by first | rfl | simp) (fun w' hw' hctx => by (go_simp); (try first | with_reducible rfl | simp)) ?_
  simp only [Act.put, List.setIfInBounds_toArray, List.set_cons_zero, List.set_cons_succ]
  refine RX.seqP_writeOf (fun w _ => GoodC gl (lessL cols k) w) (fun w w' v hR hV => hR.good hV) (by first | rfl | simp) (fun w' hw' hctx => ?_) (fun u13 => ?_)
  · have hlt : gl < w'.heap.size := Nat.lt_of_lt_of_le HGL.out hw'.size
    have hown6 : OwnC (gl + 1) w' _ _ := hctx.1
    have hown7 := hown6
    obtain ⟨a6, n6, e6, _⟩ := hown7.sl HWF.out
    rw [e6] at hown6
    have h1 := hw'.is1 (show (W6.cell? ⟨gl, 1, none⟩).isSome = true by rw [HBL.out.get 1 _ rfl]; rfl)
    have h2 := hw'.fz.trans (show W6.frozen? ⟨gl, 1, none⟩ = false from HFZ.out)
    have hkr := KR.store (E := ([] : List Col)) hlt h1 hown6
    obtain ⟨y, hy⟩ := Option.isSome_iff_exists.1 h1
    refine ⟨_, ?_, hkr.1, hkr.2⟩
    rw [e6]
    clear hkr hown6 hown7 h1 e6
    go_simp
  simp only [Act.put]
  refine RX.seqP_nil (fun v1 hR hctx _ => ?_)
  obtain ⟨sx, hcell, hown⟩ := hctx.1
  obtain ⟨a', c', rfl, hsl⟩ := hown.sl HWF.out
  have HSL := Lib.hid hsl
  have B407 : Hid (Below W.heap.size W v1) := Lib.hid (KR.to HB6.out HLE.out hR)
  have d0 : v1.cell? ⟨gl, 0, none⟩ = some (.string (Tb.mk nm (some ⟨b, o, none⟩) n cap cols ow).nm) := hR.c0.trans (HBL.out.get 0 _ rfl)
  have d1 : v1.cell? ⟨gl, 1, none⟩ = some (.slice a' (n - 1) c') := by rw [hcell, HFL.out]
  have d2 : v1.cell? ⟨gl, 2, none⟩ = some (.string (Tb.mk nm (some ⟨b, o, none⟩) n cap cols ow).ow) := hR.c2.trans (HBL.out.get 2 _ rfl)
  clear hcell hown hsl hctx hR hW6 hgl
  clear cc1 cc2 yn yz hK hun
  have hcon := maytable_is ((Tb.mk nm (some ⟨b, o, none⟩) n cap cols ow).withC a' (n - 1) c' (lessL cols k)) true (table_less HMT.out (show k < cols.length by rw [HLN.out]; exact HKN.out) (show 1 < cols.length by rw [HLN.out]; exact hn1)) v1 ⟨HSL.out, HFL.out, HT.out.nm, HT.out.ow⟩
  go_wp2_with (fail)
  refine (show Calls Try.prog _ _ _ _ from hcon).mono ?_
  rintro e w408 ⟨rfl, hb408⟩
  have B408 := Lib.hid (below_tr B407.out hb408)
  clear hcon hb408
  clear d0 d1 d2
  clear h40u
  have hcon := rfits_is r (Tb.mk nm (some ⟨b, o, none⟩) n cap cols ow) q u w408 (HR.out.below B408.out) (HT.out.below B408.out) (HQ.out.below B408.out) (HU.out.below B408.out) (by omega) (by omega) fz HFZ0.out
  go_wp2_with (first | (refine at_dst (some 81) rfl ?_; refine load_step 81 29 8 _ _ _ _ rfl (g + 1) 0 rfl [.int .u8 r.kind, .string r.nm, .string r.tb, .slice r.a r.n r.cap, .int .u8 r.is.op, .int .u8 r.is.v.k, .int .i64 r.is.v.n, .int .i64 r.is.v.u, .string r.is.v.t, .int .i64 r.is.m, .slice r.is.a r.is.len r.is.cap, .string r.to, .int .u8 r.od, .int .u8 r.ou, .bool r.late, .bool r.valid] _ ((HR0.out.below B408.out).at0) Try.underlying29 rfl (by kernel_rfl) ?_) | (refine at_dst (some 82) rfl ?_; refine load_step 82 32 6 _ _ _ _ rfl g 0 rfl [.string (Tb.mk nm (some ⟨b, o, none⟩) n cap cols ow).nm, .slice (Tb.mk nm (some ⟨b, o, none⟩) n cap cols ow).a (Tb.mk nm (some ⟨b, o, none⟩) n cap cols ow).n (Tb.mk nm (some ⟨b, o, none⟩) n cap cols ow).cap, .string (Tb.mk nm (some ⟨b, o, none⟩) n cap cols ow).ow] _ ((HT0.out.below B408.out).at0) Try.underlying32 rfl (by kernel_rfl) ?_) | (refine at_dst (some 83) rfl ?_; refine load_step 83 29 9 _ _ _ _ rfl (g + 1 + 1) 0 rfl [.int .u8 q.kind, .string q.nm, .string q.tb, .slice q.a q.n q.cap, .int .u8 q.is.op, .int .u8 q.is.v.k, .int .i64 q.is.v.n, .int .i64 q.is.v.u, .string q.is.v.t, .int .i64 q.is.m, .slice q.is.a q.is.len q.is.cap, .string q.to, .int .u8 q.od, .int .u8 q.ou, .bool q.late, .bool q.valid] _ ((HQ0.out.below B408.out).at0) Try.underlying29 rfl (by kernel_rfl) ?_) | (refine at_dst (some 84) rfl ?_; refine load_step 84 32 10 _ _ _ _ rfl (g + 1 + 1 + 1) 0 rfl [.string u.nm, .slice u.a u.n u.cap, .string u.ow] _ ((HU0.out.below B408.out).at0) Try.underlying32 rfl (by kernel_rfl) ?_))
  refine (show Calls Try.prog _ _ _ _ from hcon).mono ?_
  rintro e w409 ⟨rfl, hb409⟩
  have B409 := Lib.hid (below_tr B408.out hb409)
  clear hcon hb409
  by_cases hfz : fz = 0
  case neg =>
    have hfz1 : (fz != 0) = true := by simpa using hfz
    go_wp2_with fail
    go_ret
    exact ⟨rfl, below_tr HB.out B409.out⟩
  subst hfz
  obtain ⟨W6, gl, hW6, hgl, B6, hb6⟩ := boxT w409 (Tb.mk nm (some ⟨b, o, none⟩) n cap cols ow)
  have HGL : Hid (gl < W6.drew.heap.size) := Lib.hid (show gl < W6.heap.size by rw [← hW6, ← hgl]; simp)
  have HFZ : Hid (W6.frozen? ⟨gl, 1, none⟩ = false) := Lib.hid (by rw [← hW6, ← hgl]; exact alloc_frozen _ _ _ _)
  have HLE : Hid (W.heap.size ≤ gl) := Lib.hid (by rw [← hgl]; exact B409.out.size)
  have HB6 := Lib.hid (below_tr B409.out hb6)
  have HBL := Lib.hid B6
  clear B6 hb6
  have HFL : Hid ((cols ++ [x]).length = n + 1) := Lib.hid (by rw [List.length_append, HLN.out]; rfl)
  have HF1 : Hid ((cols ++ [x]).take n = cols) := Lib.hid (by rw [List.take_append_of_le_length (by rw [HLN.out]; exact Nat.le_refl _), List.take_of_length_le (by rw [HLN.out]; exact Nat.le_refl _)])
  have HWT : Hid (∀ y ∈ cols, y.wf) := Lib.hid HT.out.sl.wf
  have HWF : Hid (∀ y ∈ cols ++ [x], y.wf) := Lib.hid (fun y hy => by
    rcases List.mem_append.1 hy with h | h
    · exact HWT.out y h
    · simp only [List.mem_singleton] at h; subst h; exact HXW.out)
  have HEX : Hid ((∃ k, k ≤ (cols ++ [x]).length ∧ [x] = (cols ++ [x]).take k) ∨ [x].length ≤ cols.length) := Lib.hid (by
    rcases Nat.eq_zero_or_pos cols.length with h | h
    · exact .inl ⟨1, by rw [List.length_append]; simp, by rw [List.length_eq_zero_iff.1 h]; rfl⟩
    · exact .inr h)
  go_wp2_with (first | (refine at_dst (some 87) rfl ?_; refine load_step 87 32 6 _ _ _ _ rfl g 0 rfl [.string (Tb.mk nm (some ⟨b, o, none⟩) n cap cols ow).nm, .slice (Tb.mk nm (some ⟨b, o, none⟩) n cap cols ow).a (Tb.mk nm (some ⟨b, o, none⟩) n cap cols ow).n (Tb.mk nm (some ⟨b, o, none⟩) n cap cols ow).cap, .string (Tb.mk nm (some ⟨b, o, none⟩) n cap cols ow).ow] _ ((HT0.out.below B409.out).at0) Try.underlying32 rfl (by kernel_rfl) ?_))
  refine RX.wp_region_plan (KR gl (cols ++ [x]) ([x])) [.of (NilC (gl + 1)), .it (.pointer (some ⟨g, 1, none⟩)), .it (.slice (Tb.mk nm (some ⟨b, o, none⟩) n cap cols ow).a (Tb.mk nm (some ⟨b, o, none⟩) n cap cols ow).n (Tb.mk nm (some ⟨b, o, none⟩) n cap cols ow).cap), .of (fun w v => OwnC (gl + 1) w v (cols)), .it (.agg #[.string x.nm, .int .u8 x.ty, .int .u8 x.v.k, .int .i64 x.v.n, .int .i64 x.v.u, .string x.v.t]), .of (fun w v => OwnC (gl + 1) w v ([x])), .of (fun w v => OwnC (gl + 1) w v (cols ++ [x])), .it (.pointer (some ⟨gl, 1, none⟩)), .of (fun w _ => GoodC gl (cols ++ [x]) w)] (by kernel_rfl) (by kernel_rfl) (KR.refl _ _ _) KR.trans ?_
  refine RX.seqP_make (NilC (gl + 1)) (fun w w' v hR hV => ⟨hV.1, hR.own v [] (PK.nil _ _) hV.2⟩) (by first | rfl | simp) (fun w' hw' hctx => ?_) (fun u0 => ?_)
  · have hlt : gl < w'.heap.size := Nat.lt_of_lt_of_le HGL.out hw'.size
    have hBW := KR.to HB6.out HLE.out hw'
    exact ⟨.slice (some ⟨w'.heap.size, 0, none⟩) 0 0, w'.alloc (.cells #[] 49), by go_simp, KR.alloc hlt _, NilC.new _ hlt⟩
  simp only [Act.put, List.setIfInBounds_toArray, List.set_cons_zero, List.set_cons_succ]
  refine RX.seqP_value (KR.refl gl _ _) _ (by first | rfl | simp) (fun w' hw' hctx => by (go_simp); (try first | with_reducible rfl | simp)) ?_
  simp only [Act.put, List.setIfInBounds_toArray, List.set_cons_zero, List.set_cons_succ]
  refine RX.seqP_value (KR.refl gl _ _) _ (by first | rfl | simp) (fun w' hw' hctx => ?_) ?_
  · have e1 := (HT0.out.below (KR.to HB6.out HLE.out hw')).get 1 _ rfl
    go_simp
    try first | with_reducible rfl | simp
  simp only [Act.put, List.setIfInBounds_toArray, List.set_cons_zero, List.set_cons_succ]
  refine RX.seqP_make (fun w v => OwnC (gl + 1) w v (cols)) (fun w w' v hR hV => hR.own v _ (.inl ⟨n, by rw [HFL.out]; omega, HF1.out.symm⟩) hV) (by first | rfl | simp) (fun w' hw' hctx => ?_) (fun u3 => ?_)
  · have hlt : gl < w'.heap.size := Nat.lt_of_lt_of_le HGL.out hw'.size
    have hBW := KR.to HB6.out HLE.out hw'
    obtain ⟨v, w2, hrun, hown, hkr⟩ := KR.append (F := cols ++ [x]) (E := [x]) hlt hctx.1.2 (show SlC w' (some ⟨b, o, none⟩) cap cols from (HT.out.below hBW).sl) HLN.out (by show 0 + cols.length ≤ 1000000; rw [HLN.out]; omega) (fun _ h => by cases h) n (by rw [HFL.out]; omega) (by rw [HF1.out, List.nil_append]) (.inr (.inr hctx.1.1))
    rw [HF1.out] at hown
    exact ⟨v, w2, exec_append _ _ _ _ _ _ _ _ _ _ _ _ _ _ rfl rfl hrun, hkr, hown⟩
  simp only [Act.put, List.setIfInBounds_toArray, List.set_cons_zero, List.set_cons_succ]
  refine RX.seqP_value (KR.refl gl _ _) _ (by first | rfl | simp) (fun w' hw' hctx => exec_load _ _ _ _ _ _ _ _ _ (g + 1 + 1 + 1 + 1) 0 rfl [.string x.nm, .int .u8 x.ty, .int .u8 x.v.k, .int .i64 x.v.n, .int .i64 x.v.u, .string x.v.t] _ ((HX0.out.below (KR.to HB6.out HLE.out hw')).at0) Try.underlying49 rfl (by kernel_rfl)) ?_
  simp only [Act.put, List.setIfInBounds_toArray, List.set_cons_zero, List.set_cons_succ]
  refine RX.seqP_make (fun w v => OwnC (gl + 1) w v ([x])) (fun w w' v hR hV => hR.own v _ (.inr rfl) hV) (by first | rfl | simp) (fun w' hw' hctx => ?_) (fun u5 => ?_)
  · have hlt : gl < w'.heap.size := Nat.lt_of_lt_of_le HGL.out hw'.size
    have hBW := KR.to HB6.out HLE.out hw'
    exact ⟨.slice (some ⟨w'.heap.size, 0, none⟩) 1 1, w'.alloc (.cells #[.string x.nm, .int .u8 x.ty, .int .u8 x.v.k, .int .i64 x.v.n, .int .i64 x.v.u, .string x.v.t] 49), by go_simp, KR.alloc hlt _, one_own w' x hlt⟩
  simp only [Act.put, List.setIfInBounds_toArray, List.set_cons_zero, List.set_cons_succ]
  refine RX.seqP_make (fun w v => OwnC (gl + 1) w v (cols ++ [x])) (fun w w' v hR hV => hR.own v _ (PK.all _ _) hV) (by first | rfl | simp) (fun w' hw' hctx => ?_) (fun u6 => ?_)
  · have hlt : gl < w'.heap.size := Nat.lt_of_lt_of_le HGL.out hw'.size
    have hBW := KR.to HB6.out HLE.out hw'
    obtain ⟨a5, n5, e5, hsl5⟩ := hctx.1.sl (fun y hy => by simp only [List.mem_singleton] at hy; subst hy; exact HXW.out)
    obtain ⟨v, w2, hrun, hown, hkr⟩ := KR.append (F := cols ++ [x]) (E := [x]) (n := 1) hlt hctx.2.1 hsl5 rfl (by show cols.length + 1 ≤ 1000000; rw [HLN.out]; omega) HWT.out (cols ++ [x]).length (Nat.le_refl _) (by rw [List.take_length]) (HEX.out.imp id (fun h => .inl h))
    rw [List.take_length] at hown
    exact ⟨v, w2, exec_append _ _ _ _ _ _ _ _ _ _ _ _ _ _ rfl (by rw [e5]; rfl) hrun, hkr, hown⟩
  simp only [Act.put, List.setIfInBounds_toArray, List.set_cons_zero, List.set_cons_succ]
  refine RX.seqP_value (KR.refl gl _ _) _ (by first | rfl | simp) (fun w' hw' hctx => by (go_simp); (try first | with_reducible rfl | simp)) ?_
  simp only [Act.put, List.setIfInBounds_toArray, List.set_cons_zero, List.set_cons_succ]
  refine RX.seqP_writeOf (fun w _ => GoodC gl (cols ++ [x]) w) (fun w w' v hR hV => hR.good hV) (by first | rfl | simp) (fun w' hw' hctx => ?_) (fun u8 => ?_)
  · have hlt : gl < w'.heap.size := Nat.lt_of_lt_of_le HGL.out hw'.size
    have hown6 : OwnC (gl + 1) w' _ _ := hctx.1
    have hown7 := hown6
    obtain ⟨a6, n6, e6, _⟩ := hown7.sl HWF.out
    rw [e6] at hown6
    have h1 := hw'.is1 (show (W6.cell? ⟨gl, 1, none⟩).isSome = true by rw [HBL.out.get 1 _ rfl]; rfl)
    have h2 := hw'.fz.trans (show W6.frozen? ⟨gl, 1, none⟩ = false from HFZ.out)
    have hkr := KR.store (E := [x]) hlt h1 hown6
    obtain ⟨y, hy⟩ := Option.isSome_iff_exists.1 h1
    refine ⟨_, ?_, hkr.1, hkr.2⟩
    rw [e6]
    clear hkr hown6 hown7 h1 e6
    go_simp
  simp only [Act.put]
  refine RX.seqP_nil (fun v1 hR hctx _ => ?_)
  obtain ⟨sx, hcell, hown⟩ := hctx.1
  obtain ⟨a', c', rfl, hsl⟩ := hown.sl HWF.out
  have HSL := Lib.hid hsl
  have B460 : Hid (Below W.heap.size W v1) := Lib.hid (KR.to HB6.out HLE.out hR)
  have d0 : v1.cell? ⟨gl, 0, none⟩ = some (.string (Tb.mk nm (some ⟨b, o, none⟩) n cap cols ow).nm) := hR.c0.trans (HBL.out.get 0 _ rfl)
  have d1 : v1.cell? ⟨gl, 1, none⟩ = some (.slice a' (n + 1) c') := by rw [hcell, HFL.out]
  have d2 : v1.cell? ⟨gl, 2, none⟩ = some (.string (Tb.mk nm (some ⟨b, o, none⟩) n cap cols ow).ow) := hR.c2.trans (HBL.out.get 2 _ rfl)
  clear hcell hown hsl hctx hR hW6 hgl
  have hcon := rfits_is r ((Tb.mk nm (some ⟨b, o, none⟩) n cap cols ow).withC a' (n + 1) c' (cols ++ [x])) q u v1 (HR.out.below B460.out) ⟨HSL.out, HFL.out, HT.out.nm, HT.out.ow⟩ (HQ.out.below B460.out) (HU.out.below B460.out) (by omega) (by omega) 0 (fits_more a' c' x HLN.out HFZ0.out)
  go_wp2_with (first | (refine at_dst (some 96) rfl ?_; refine load_step 96 29 8 _ _ _ _ rfl (g + 1) 0 rfl [.int .u8 r.kind, .string r.nm, .string r.tb, .slice r.a r.n r.cap, .int .u8 r.is.op, .int .u8 r.is.v.k, .int .i64 r.is.v.n, .int .i64 r.is.v.u, .string r.is.v.t, .int .i64 r.is.m, .slice r.is.a r.is.len r.is.cap, .string r.to, .int .u8 r.od, .int .u8 r.ou, .bool r.late, .bool r.valid] _ ((HR0.out.below B460.out).at0) Try.underlying29 rfl (by kernel_rfl) ?_) | (refine at_dst (some 98) rfl ?_; refine load_step 98 29 9 _ _ _ _ rfl (g + 1 + 1) 0 rfl [.int .u8 q.kind, .string q.nm, .string q.tb, .slice q.a q.n q.cap, .int .u8 q.is.op, .int .u8 q.is.v.k, .int .i64 q.is.v.n, .int .i64 q.is.v.u, .string q.is.v.t, .int .i64 q.is.m, .slice q.is.a q.is.len q.is.cap, .string q.to, .int .u8 q.od, .int .u8 q.ou, .bool q.late, .bool q.valid] _ ((HQ0.out.below B460.out).at0) Try.underlying29 rfl (by kernel_rfl) ?_) | (refine at_dst (some 99) rfl ?_; refine load_step 99 32 10 _ _ _ _ rfl (g + 1 + 1 + 1) 0 rfl [.string u.nm, .slice u.a u.n u.cap, .string u.ow] _ ((HU0.out.below B460.out).at0) Try.underlying32 rfl (by kernel_rfl) ?_))
  refine (show Calls Try.prog _ _ _ _ from hcon).mono ?_
  rintro e w461 ⟨rfl, hb461⟩
  have B461 := Lib.hid (below_tr B460.out hb461)
  clear hcon hb461
  clear d0 d1 d2
  go_wp2_with fail
  go_ret
  exact ⟨rfl, below_tr HB.out B461.out⟩

theorem less_law (t : Tb) (i : Int) (r q : Rl) (u : Tb) (x : Col) (w : World) (ht : t.In w) (hr : r.In w) (hq : q.In w) (hu : u.In w) (hx : x.wf) :
    Calls Try.prog 5 #[.agg #[.string t.nm, .slice t.a t.n t.cap, .string t.ow], .int .i64 i, .agg #[.int .u8 r.kind, .string r.nm, .string r.tb, .slice r.a r.n r.cap, .int .u8 r.is.op, .int .u8 r.is.v.k, .int .i64 r.is.v.n, .int .i64 r.is.v.u, .string r.is.v.t, .int .i64 r.is.m, .slice r.is.a r.is.len r.is.cap, .string r.to, .int .u8 r.od, .int .u8 r.ou, .bool r.late, .bool r.valid], .agg #[.int .u8 q.kind, .string q.nm, .string q.tb, .slice q.a q.n q.cap, .int .u8 q.is.op, .int .u8 q.is.v.k, .int .i64 q.is.v.n, .int .i64 q.is.v.u, .string q.is.v.t, .int .i64 q.is.m, .slice q.is.a q.is.len q.is.cap, .string q.to, .int .u8 q.od, .int .u8 q.ou, .bool q.late, .bool q.valid], .agg #[.string u.nm, .slice u.a u.n u.cap, .string u.ow], .agg #[.string x.nm, .int .u8 x.ty, .int .u8 x.v.k, .int .i64 x.v.n, .int .i64 x.v.u, .string x.v.t]] w fun e w' => e = .returned (.bool true) ∧ Below w.heap.size w w' := by
  cases hm : tableB t
  · exact less_a t i r q u x w ht hr hq hu hx (Lib.hid hm)
  by_cases hn : t.n ≤ 1
  · exact less_b t i r q u x w ht hr hq hu hx (Lib.hid hm) hn
  · obtain ⟨nm, a, n, cap, cols, ow⟩ := t
    have hl : cols.length = n := ht.len
    have hn' : ¬ n ≤ 1 := hn
    obtain ⟨b, o, e, _⟩ := ht.sl.at' (show cols ≠ [] by rintro rfl; simp at hl; omega)
    have e' : a = some ⟨b, o, none⟩ := e
    subst e'
    exact less_c nm b o n cap cols ow i r q u x w ht hr hq hu hx (Lib.hid hm) (by omega)
end Go.Proofs.Ytkipnkbmpgjcoaa
