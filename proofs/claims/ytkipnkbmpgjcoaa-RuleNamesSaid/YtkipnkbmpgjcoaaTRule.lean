/-
  Rules in memory; the columns that a rule on its table has (stage 8: rule.placed).
-/
import Derived.Test.YtkipnkbmpgjcoaaTType
import Derived.Test.YtkipnkbmpgjcoaaKMay
import Derived.Laws.OwnMore
namespace Go.Proofs.Ytkipnkbmpgjcoaa
open Go.RowKit

/-- An api.Rule. -/
structure Rl where
  kind : Int
  nm : ByteArray
  tb : ByteArray
  a : Option Addr
  n : Nat
  cap : Nat
  cols : List Int
  is : Ex
  to : ByteArray
  od : Int
  ou : Int
  late : Bool
  valid : Bool

structure Rl.In (W : World) (r : Rl) : Prop where
  sl : SlI W r.a r.cap r.cols
  len : r.cols.length = r.n
  is : r.is.In W
  k0 : 0 ≤ r.kind ∧ r.kind ≤ 255
  od : 0 ≤ r.od ∧ r.od ≤ 255
  ou : 0 ≤ r.ou ∧ r.ou ≤ 255
  nm : r.nm.size ≤ 9223372036854775807
  tb : r.tb.size ≤ 9223372036854775807
  to : r.to.size ≤ 9223372036854775807

theorem Rl.In.below {W W' : World} {r : Rl} (h : r.In W) (hb : Below W.heap.size W W') : r.In W' :=
  ⟨h.sl.below hb, h.len, h.is.below hb, h.k0, h.od, h.ou, h.nm, h.tb, h.to⟩

/-- The cells of a rule on its table. -/
def plc (r : Rl) (t : Tb) : List Value := [.int .u8 r.kind, .string r.nm, .string r.tb, .slice r.a r.n r.cap, .int .u8 r.is.op, .int .u8 r.is.v.k, .int .i64 r.is.v.n, .int .i64 r.is.v.u, .string r.is.v.t, .int .i64 r.is.m, .slice r.is.a r.is.len r.is.cap, .string r.to, .int .u8 r.od, .int .u8 r.ou, .bool r.late, .bool r.valid, .string t.nm, .slice t.a t.n t.cap, .string t.ow]
theorem plc_len (r : Rl) (t : Tb) : (plc r t).length = 19 := rfl

/-- The types of the rule's columns. -/
def typesL (r : Rl) (t : Tb) : List Int := r.cols.map fun i => (tys t.cols).getD i.toNat 0

theorem boxP (w : World) (r : Rl) (t : Tb) : ∃ W g, w.alloc (.cells #[.int .u8 r.kind, .string r.nm, .string r.tb, .slice r.a r.n r.cap, .int .u8 r.is.op, .int .u8 r.is.v.k, .int .i64 r.is.v.n, .int .i64 r.is.v.u, .string r.is.v.t, .int .i64 r.is.m, .slice r.is.a r.is.len r.is.cap, .string r.to, .int .u8 r.od, .int .u8 r.ou, .bool r.late, .bool r.valid, .string t.nm, .slice t.a t.n t.cap, .string t.ow] 64) = W ∧ w.heap.size = g ∧ Blk W g (plc r t) ∧ Below w.heap.size w W :=
  ⟨_, _, rfl, rfl, Blk.new w _ _, Below.allocs w _⟩

set_option maxRecDepth 100000 in
set_option maxHeartbeats 1000000 in
theorem hascols_is (r : Rl) (t : Tb) (w : World) (hr : r.In w) (hs : r.n ≤ 1000000) (z : Bool) (hz : mayC r.cols t.n = z) :
    Calls Try.prog 51 #[.agg #[.int .u8 r.kind, .string r.nm, .string r.tb, .slice r.a r.n r.cap, .int .u8 r.is.op, .int .u8 r.is.v.k, .int .i64 r.is.v.n, .int .i64 r.is.v.u, .string r.is.v.t, .int .i64 r.is.m, .slice r.is.a r.is.len r.is.cap, .string r.to, .int .u8 r.od, .int .u8 r.ou, .bool r.late, .bool r.valid, .string t.nm, .slice t.a t.n t.cap, .string t.ow]] w fun e w' => e = .returned (.bool z) ∧ Below w.heap.size w w' := by
  obtain ⟨W, g, hW, hg, B, hb⟩ := boxP w r t
  have HB := Lib.hid hb
  have hcon := kmay_is r.a r.cap r.n r.cols (t.n : Int) z hr.len hs (by rw [Int.toNat_natCast]; exact hz) W (hr.below hb).sl
  have c3 := B.get 3 _ rfl
  have c17 := B.get 17 _ rfl
  clear hr hz B hb
  go_enter Try.func51, Try.ntmps51
  go_wp2_with fail
  refine hcon.mono ?_
  rintro e w1 ⟨rfl, hb1⟩
  have HB1 := Lib.hid (below_tr HB.out hb1)
  clear hcon hb1 c3 c17 hW
  go_wp2_with fail
  go_ret
  first | exact ⟨rfl, HB1.out⟩ | exact ⟨rfl, hg ▸ HB1.out⟩

set_option maxRecDepth 100000 in
set_option maxHeartbeats 1000000 in
theorem truth_is (r : Rl) (t : Tb) (w : World) (hr : r.In w) (ht : t.In w) (v f : Int) (hv : typeR (tys t.cols) r.is = (v, f)) (z : Int) (hz : (if f = 0 ∧ v ≠ 2 ∧ v ≠ 0 then 60 else f) = z) :
    Calls Try.prog 53 #[.agg #[.int .u8 r.kind, .string r.nm, .string r.tb, .slice r.a r.n r.cap, .int .u8 r.is.op, .int .u8 r.is.v.k, .int .i64 r.is.v.n, .int .i64 r.is.v.u, .string r.is.v.t, .int .i64 r.is.m, .slice r.is.a r.is.len r.is.cap, .string r.to, .int .u8 r.od, .int .u8 r.ou, .bool r.late, .bool r.valid, .string t.nm, .slice t.a t.n t.cap, .string t.ow]] w fun e w' => e = .returned (.int .i64 z) ∧ Below w.heap.size w w' := by
  obtain ⟨W, g, hW, hg, B, hb⟩ := boxP w r t
  have HB := Lib.hid hb
  have hcon := type_is r.is t.a t.n t.cap t.cols ht.len W (hr.below hb).is (ht.below hb).sl v f hv
  have c4 := B.get 4 _ rfl
  have c5 := B.get 5 _ rfl
  have c6 := B.get 6 _ rfl
  have c7 := B.get 7 _ rfl
  have c8 := B.get 8 _ rfl
  have c9 := B.get 9 _ rfl
  have c10 := B.get 10 _ rfl
  have c17 := B.get 17 _ rfl
  clear hr ht hv B hb
  go_enter Try.func53, Try.ntmps53
  go_wp2_with fail
  refine hcon.mono ?_
  rintro e w1 ⟨rfl, hb1⟩
  have HB1 := Lib.hid (below_tr HB.out hb1)
  clear hcon hb1 c4 c5 c6 c7 c8 c9 c10 c17 hW
  by_cases h0 : f = 0
  · have f0 : (f == 0) = true := by simpa using h0
    by_cases h2 : v = 2
    · have v2 : (v != 2) = false := by simpa using h2
      obtain rfl : f = z := by rw [← hz]; simp [h2]
      clear h0 h2 hz
      go_wp2_with fail
      go_ret
      first | exact ⟨rfl, HB1.out⟩ | exact ⟨rfl, hg ▸ HB1.out⟩
    · have v2 : (v != 2) = true := by simpa using h2
      by_cases h3 : v = 0
      · have v3 : (v != 0) = false := by simpa using h3
        obtain rfl : f = z := by rw [← hz]; simp [h3]
        clear h0 h2 h3 hz
        go_wp2_with fail
        go_ret
        first | exact ⟨rfl, HB1.out⟩ | exact ⟨rfl, hg ▸ HB1.out⟩
      · have v3 : (v != 0) = true := by simpa using h3
        obtain rfl : z = 60 := by rw [← hz]; simp [h0, h2, h3]
        clear h0 h2 h3 hz
        go_wp2_with fail
        go_ret
        first | exact ⟨rfl, HB1.out⟩ | exact ⟨rfl, hg ▸ HB1.out⟩
  · have f0 : (f == 0) = false := by simpa using h0
    obtain rfl : f = z := by rw [← hz]; simp [h0]
    clear h0 hz
    go_wp2_with fail
    go_ret
    first | exact ⟨rfl, HB1.out⟩ | exact ⟨rfl, hg ▸ HB1.out⟩

/-! ### types -/

/-- The numbers l lie in block g from its head on, and may be written. -/
structure OwnU (W : World) (g : Nat) (l : List Int) : Prop where
  at' : ∀ (i : Nat) x, l[i]? = some x → W.cell? ⟨g, i, none⟩ = some (.int .u8 x)
  fz : ∀ t, W.frozen? ⟨g, t, none⟩ = false
  lt : g < W.heap.size

theorem OwnU.below {W W' : World} {g : Nat} {l : List Int} (h : OwnU W g l) (hb : Below W.heap.size W W') : OwnU W' g l :=
  ⟨fun i x hx => by rw [hb.cell h.lt]; exact h.at' i x hx, fun t => by rw [hb.frozen (p := ⟨g, t, none⟩) h.lt]; exact h.fz t, Nat.lt_of_lt_of_le h.lt hb.size⟩

theorem OwnU.lst {W : World} {g : Nat} {l : List Int} (h : OwnU W g l) : LstU W g 0 l := ⟨h.lt, fun i x hx => by rw [Nat.zero_add]; exact h.at' i x hx⟩

theorem OwnU.put {W : World} {g : Nat} {l : List Int} (h : OwnU W g l) {i : Nat} (hi : i < l.length) (v : Int) : OwnU (W.setCell ⟨g, i, none⟩ (.int .u8 v)) g (l.set i v) := by
  refine ⟨fun j x hx => ?_, fun t => ?_, by simpa [World.setCell] using h.lt⟩
  · by_cases e : i = j
    · subst e
      rw [List.getElem?_set_self hi, Option.some.injEq] at hx
      subst hx
      have h0 := h.at' i l[i] (List.getElem?_eq_getElem hi)
      go_simp
    · rw [List.getElem?_set_ne e] at hx
      rw [World.cell?_setCell_other _ _ _ _ (fun h => e (by injection h))]
      exact h.at' j x hx
  · simp only [World.frozen?_setCell]
    exact h.fz t

theorem info_u : (Try.prog.info? 5).map (fun i => (i.zero, i.size, i.bytes)) = some (some (.int .u8 0), 1, 1) := by kernel_rfl

theorem make_u (w : World) (n : Nat) (hn : n ≤ 1000000) : ∃ w', (Instr.makeSlice 44 (.int .i64 (n : Int)) (.int .i64 (n : Int))).run Try.prog w = .ok (.slice (some ⟨w.heap.size, 0, none⟩) n n) w' ∧ OwnU w' w.heap.size (List.replicate n 0) ∧ Below w.heap.size w w' := by
  obtain ⟨i0, hi, hz0, hz1, hz2⟩ := info_parts info_u
  obtain ⟨w', hrun, r1, r2⟩ := run_make_full (P := Try.prog) w w.heap.size 44 5 i0 (.int .u8 0) 1 Try.underlying44 hi hz0 hz1 .i64 .i64 n (by rw [hz2]; omega) (by unfold maxLen; omega) (Nat.le_refl _)
  have hb := (Below.refl w.heap.size w).grown r2 (Nat.le_refl _) (fun k e => by cases e)
  refine ⟨w', hrun, ?_, hb⟩
  rcases r1.2 with ⟨h1, _⟩ | ⟨g, cap, cur, h1, hbg, hg, hnc, hcm, hcs, hxs⟩
  · cases h1
  · injection h1 with h1 h2 h3
    injection h1 with h1
    injection h1 with h1
    subst h1
    subst h3
    refine ⟨fun i x hx => ?_, fun t => by simp [World.frozen?, show w'.heap[w.heap.size]? = _ from hg], some_lt hg⟩
    have hi' : i < n := by have := (List.getElem?_eq_some_iff.mp hx).1; simpa using this
    have hx' : x = 0 := by
      obtain ⟨h1, h2⟩ := List.getElem?_eq_some_iff.mp hx
      simp at h2
      exact h2.symm
    subst hx'
    have hm : (madeCells (Value.int .u8 0 : Value).cells (n * 1)).toList[i]? = some (.int .u8 0) := by
      simp [madeCells, Value.cells, hi', Nat.mod_one]
    rw [← hxs, List.getElem?_take_of_lt (by omega)] at hm
    simp [World.cell?, show w'.heap[w.heap.size]? = _ from hg]
    simpa using hm

/-- What types has filled in so far. -/
def fillU (r : Rl) (t : Tb) (i : Nat) : List Int := (typesL r t).take i ++ List.replicate (r.cols.length - i) 0

theorem fillU_len (r : Rl) (t : Tb) (i : Nat) (h : i ≤ r.cols.length) : (fillU r t i).length = r.cols.length := by
  simp only [fillU, typesL, List.length_append, List.length_take, List.length_map, List.length_replicate]; omega

theorem fillU_next {r : Rl} {t : Tb} {i : Nat} {y : Int} (h : r.cols[i]? = some y) : (fillU r t i).set i ((tys t.cols).getD y.toNat 0) = fillU r t (i + 1) := by
  have hi := (List.getElem?_eq_some_iff.1 h).1
  unfold fillU
  have hl : ((typesL r t).take i).length = i := by simp [typesL]; omega
  have hx : (typesL r t)[i]? = some ((tys t.cols).getD y.toNat 0) := by simp [typesL, h]
  rw [List.take_add_one, hx, show r.cols.length - i = (r.cols.length - (i + 1)) + 1 by omega, List.replicate_succ, List.set_append, if_neg (by omega), hl]
  simp

theorem fillU_end (r : Rl) (t : Tb) : fillU r t r.cols.length = typesL r t := by
  unfold fillU
  rw [List.take_of_length_le (by simp [typesL])]
  simp

set_option maxRecDepth 100000 in
set_option maxHeartbeats 1000000 in
theorem types_is (r : Rl) (t : Tb) (w : World) (hr : r.In w) (ht : t.In w) (hs : r.n ≤ 1000000) (hz : mayC r.cols t.n = true) :
    Calls Try.prog 55 #[.agg #[.int .u8 r.kind, .string r.nm, .string r.tb, .slice r.a r.n r.cap, .int .u8 r.is.op, .int .u8 r.is.v.k, .int .i64 r.is.v.n, .int .i64 r.is.v.u, .string r.is.v.t, .int .i64 r.is.m, .slice r.is.a r.is.len r.is.cap, .string r.to, .int .u8 r.od, .int .u8 r.ou, .bool r.late, .bool r.valid, .string t.nm, .slice t.a t.n t.cap, .string t.ow]] w fun e w' => ∃ g, e = .returned (.slice (some ⟨g, 0, none⟩) r.n r.n) ∧ w.heap.size ≤ g ∧ LstU w' g 0 (typesL r t) ∧ Below w.heap.size w w' := by
  obtain ⟨W, g, hW, hg, B, hb⟩ := boxP w r t
  obtain ⟨w1, hmk, ho, hb1⟩ := make_u W r.n hs
  have HB := Lib.hid hb
  have hb1' := hb1
  have HB1 := Lib.hid (below_tr hb hb1)
  have HBK := Lib.hid B
  have HR := Lib.hid (hr.below hb)
  have HT := Lib.hid (ht.below hb)
  have HV : Hid (∀ x ∈ r.cols, 0 ≤ x ∧ x < t.cols.length) := Lib.hid (by rw [ht.len]; exact ((mayC_iff _ _).1 hz).2.1)
  obtain ⟨m, hm⟩ : ∃ m, W.heap.size = m := ⟨_, rfl⟩
  rw [hm] at hmk ho
  have HM : Hid (w.heap.size ≤ m) := Lib.hid (by rw [← hm]; exact hb.size)
  have HO : Hid (OwnU w1 m (fillU r t 0)) := Lib.hid (by
    unfold fillU
    rw [List.take_zero, show r.cols.length - 0 = r.n by rw [hr.len]; rfl]
    exact ho)
  have HL := Lib.hid hr.len
  have HTL := Lib.hid ht.len
  have HGM : Hid (g < m) := Lib.hid (by rw [← hm]; exact B.lt)
  have HBW : Hid (Below m W w1) := Lib.hid (by rw [← hm]; exact hb1')
  have hbk : r.n ≤ 9223372036854775807 := by omega
  have c3 := B.get 3 _ rfl
  have c17 := B.get 17 _ rfl
  have HWM := Lib.hid hm
  have HGG := Lib.hid hg
  have d3 := (B.below hb1).get 3 _ rfl
  obtain ⟨b', o', hra, hLI⟩ := HR.out.sl.at' ((mayC_iff _ _).1 hz).1
  have HLI := Lib.hid hLI
  rw [hra] at c3 d3 hW ⊢
  clear hr ht hz B hb hb1 hb1' ho hm hLI hra
  go_enter Try.func55, Try.ntmps55
  go_wp2_with fail
  clear d3 c3 c17
  go_loopg [15] r.n (fun gg s15 wr => ∃ i : Nat, s15 = .int .i64 i ∧ i ≤ r.n ∧ r.n - i ≤ gg ∧ Hid (OwnU wr m (fillU r t i)) ∧ Hid (Below m W wr))
  case atStart => exact ⟨0, rfl, Nat.zero_le _, by omega, HO, HBW⟩
  case round =>
    obtain ⟨i, rfl, hin, hgg, HOW, BW⟩ := hrel
    by_cases hlt : i < r.n
    · have hltz : (i : Int) < (r.n : Int) := by omega
      have z1 : ¬ r.n ≤ i := by omega
      obtain ⟨y, hy⟩ : ∃ y, r.cols[i]? = some y := ⟨r.cols[i]'(by rw [HL.out]; exact hlt), by simp⟩
      have hyr := HV.out y (List.mem_of_getElem? hy)
      obtain ⟨j, rfl⟩ : ∃ j : Nat, y = j := ⟨y.toNat, by omega⟩
      obtain ⟨x, hx⟩ := getC (l := t.cols) (i := j) (by omega)
      have hbW : Below W.heap.size W wr := by rw [HWM.out]; exact BW.out
      have hc := (HLI.out.below hbW).2 i _ hy
      obtain ⟨b, o, hta, hat⟩ := at_c (HT.out.below hbW).sl hx
      have e17 := (HBK.out.below hbW).get 17 _ rfl
      rw [hta] at e17
      have hjn : j < t.n := by rw [← HTL.out]; omega
      have hjz : (j : Int) < (t.n : Int) := by omega
      have htn : t.n ≤ 9223372036854775807 := by have := HT.out.sl.lc; have := HT.out.sl.cm; have := HTL.out; unfold maxLen at *; omega
      have hf0 := HOW.out.fz i
      have e0 := HOW.out.at' i ((fillU r t i)[i]'(by rw [fillU_len _ _ _ (by rw [HL.out]; omega), HL.out]; exact hlt)) (by simp)
      have HY := Lib.hid hy
      have HX : Hid ((tys t.cols).getD (j : Int).toNat 0 = x.ty) := Lib.hid (by unfold tys; rw [List.getD_eq_getElem?_getD, List.getElem?_map, Int.toNat_natCast, hx]; rfl)
      obtain ⟨a0, a1, a2, a3, a4, a5, a6⟩ := hat
      clear hy hx hyr hbW
      go_wp2_with fail
      go_roundg (r.n - (i + 1))
      case measure => omega
      case rel =>
        refine ⟨i + 1, by go_num, by omega, Nat.le_refl _, Lib.hid ?_, Lib.hid (BW.out.setCell (by exact Nat.le_refl _) _)⟩
        have := HOW.out.put (i := i) (by rw [fillU_len _ _ _ (by rw [HL.out]; omega), HL.out]; exact hlt) x.ty
        rw [← HX.out, fillU_next HY.out, HX.out] at this
        exact this
    · have hltz : ¬ (i : Int) < (r.n : Int) := by omega
      have hi : i = r.n := by omega
      have HI := Lib.hid hi
      clear hi
      go_wp2_with fail
      go_ret
      have := HOW.out
      rw [HI.out, ← HL.out, fillU_end] at this
      refine ⟨m, rfl, ?_, this.lst, ?_⟩
      · first | exact HM.out | exact HGG.out ▸ HM.out
      · first | exact HB.out.trans (BW.out.mono HM.out) | exact HGG.out ▸ HB.out.trans (BW.out.mono HM.out)
end Go.Proofs.Ytkipnkbmpgjcoaa
