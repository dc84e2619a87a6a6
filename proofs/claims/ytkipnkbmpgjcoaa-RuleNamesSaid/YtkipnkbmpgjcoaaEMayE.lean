/-
  expr.valid, expr.May, expr.below.
-/
import Derived.Test.YtkipnkbmpgjcoaaEValid2
import Derived.Laws.EntriesVeiled
namespace Go.Proofs.Ytkipnkbmpgjcoaa
open Go.RowKit

theorem mayR_top (has : Int → Bool) (e : Ex) : mayR has 0 1 e = validB mayV has e := by
  unfold mayR validB
  rw [show decide ((0 : Int) + e.sz ≤ 64) = decide (e.sz ≤ 64) by rw [decide_eq_decide]; omega, show decide ((1 : Int) + e.dp ≤ 17) = decide (e.dp ≤ 16) by rw [decide_eq_decide]; omega]

/-- The world in which expr.valid calls its closure. -/
theorem valid_world (W : World) (n : Nat) (hn : W.heap.size = n) (f : FuncId) (cap : Array Value) : ∃ V,
    ((W.alloc (.cells #[.func (.func f) #[] cap] 113)).alloc (.cells #[.int .i64 0] 3)).alloc (.cells #[.func (.func 92) #[] #[.pointer (some ⟨n + 1, 0, none⟩), .pointer (some ⟨n, 0, none⟩), .pointer (some ⟨n + 1 + 1, 0, none⟩)]] 80) = V ∧
    St V (n + 1) n (n + 1 + 1) 0 f cap ∧ Below W.heap.size W V := by
  subst hn
  refine ⟨_, rfl, ⟨?_, ?_, ?_, ?_, by simp, by simp; omega, by simp, by omega, by omega⟩, (((Below.refl _ W).alloc (Nat.le_refl _) _).alloc (by simp) _).alloc (by simp; omega) _⟩ <;> go_simp

set_option maxRecDepth 100000 in
set_option maxHeartbeats 2000000 in
theorem valid_is (e : Ex) (f : FuncId) (cap : Array Value) (has : Int → Bool) (w : World) (hin : e.In w) (hh : HasC w f cap has) (b : Bool) (hb : validB mayV has e = b) :
    Calls Try.prog 78 #[.agg #[.int .u8 e.op, .int .u8 e.v.k, .int .i64 e.v.n, .int .i64 e.v.u, .string e.v.t, .int .i64 e.m, .slice e.a e.len e.cap], .func (.func f) #[] cap] w fun x w' => x = .returned (.bool b) ∧ Below w.heap.size w w' := by
  rw [← mayR_top] at hb
  have HB := Lib.hid hb
  have HH := Lib.hid hh
  have HIN := Lib.hid hin
  clear hb hh hin
  obtain ⟨W1, g, hW1, hg, B1, hb1, hs1⟩ := boxE w e
  have hgn : w.heap.size ≤ g + 1 := by omega
  obtain ⟨V, hV, hst, hbV⟩ := valid_world W1 (g + 1) hs1 f cap
  have BV := B1.below hbV
  have HV := Lib.hid (below_tr hb1 hbV)
  have HST := Lib.hid hst
  have HGN := Lib.hid hgn
  obtain ⟨t1, t2, t3, t4, t5, t6, t7, t8, t9⟩ := hst
  obtain ⟨e0, e1, e2, e3, e4, e5, e6, e7⟩ := BV
  clear B1 hb1 hbV hgn
  go_enter Try.func78, Try.ntmps78
  go_wp2_with fail
  have hc := valid_rec f cap has (g + 1 + 1) (g + 1) (g + 1 + 1 + 1) w HH.out (by have := HGN.out; omega) e HIN.out 0 1 V HV.out HST.out (by omega) (by omega) (by omega) (by omega)
  rw [HB.out] at hc
  refine hc.mono ?_
  rintro x W5 ⟨rfl, hbut, -⟩
  have hf := HV.out.trans (hbut.below (by have := HGN.out; omega) HV.out.size)
  have HF := Lib.hid hf
  clear hf hbut hc
  go_wp2_with fail
  go_ret
  exact ⟨rfl, HF.out⟩

/-- expr.below: the check of a column that it makes. -/
theorem belowf_is (n : Nat) (w : World) : Calls Try.prog 79 #[.int .i64 n] w fun x w' => (∃ g, x = .returned (.func (.func 94) #[] #[.pointer (some ⟨g, 0, none⟩)]) ∧ g < w'.heap.size ∧ w.heap.size ≤ g ∧ w'.cell? ⟨g, 0, none⟩ = some (.int .i64 n)) ∧ Below w.heap.size w w' := by
  go_enter Try.func79, Try.ntmps79
  go_wp2_with fail
  go_ret
  exact ⟨⟨w.heap.size, rfl, by simp, Nat.le_refl _, by go_simp⟩, Below.allocs _ _⟩
end Go.Proofs.Ytkipnkbmpgjcoaa
