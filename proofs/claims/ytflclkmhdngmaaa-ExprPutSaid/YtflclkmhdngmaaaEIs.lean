/-
  is and fails: what the laws of package expr ask of Eval at an example.
-/
import Derived.Test.YtflclkmhdngmaaaEBuild
import Derived.Test.YtflclkmhdngmaaaEEql
namespace Go.Proofs.Ytflclkmhdngmaaa
open Go.RowKit

set_option maxRecDepth 100000 in
set_option maxHeartbeats 1000000 in
theorem is_is (e : Ex) (r : Rw) (v : Val) (w : World) (hin : e.In w) (hrin : r.In w) (h : evalR r e = (v, 0)) :
    Calls Try.prog 26 #[.agg #[.int .u8 e.op, .int .u8 e.v.k, .int .i64 e.v.n, .int .i64 e.v.u, .string e.v.t, .int .i64 e.m, .slice e.a e.len e.cap], .agg #[.int .u8 v.k, .int .i64 v.n, .int .i64 v.u, .string v.t], .slice r.a r.len r.cap] w fun x w' => x = .returned (.bool true) ∧ Below w.heap.size w w' := by
  obtain ⟨W1, g, hW1, hg, B, hb1⟩ := boxE' w e
  obtain ⟨W2, g2, hW2, hg2, B2, hb2⟩ := boxX W1 v
  have HB := Lib.hid (below_tr hb1 hb2)
  have HX := Lib.hid B2
  have HIN := Lib.hid (hin.below HB.out)
  have HRIN := Lib.hid (hrin.below HB.out)
  have HE := Lib.hid h
  obtain ⟨c0, c1, c2, c3, c4, c5, c6, c7⟩ := B.below hb2
  clear hb1 hb2 B B2 hin hrin h
  go_enter Try.func26, Try.ntmps26
  go_wp2_with fail
  refine (eval_is e r _ HIN.out HRIN.out v 0 HE.out).mono ?_
  rintro _ U ⟨rfl, hbU⟩
  obtain ⟨U1, m, hU1, hm, BU, hbU1⟩ := boxX U v
  have HBU := Lib.hid (below_tr HB.out (below_tr hbU hbU1))
  obtain ⟨k0, k1, k2, k3, k4⟩ := BU
  obtain ⟨x0, x1, x2, x3, x4⟩ := HX.out.below (below_tr hbU hbU1)
  have hq := fun w => eql_is v v true (eqB_iff.2 rfl) w
  clear c0 c1 c2 c3 c4 c5 c6 c7 hbU hbU1 hW1 hW2
  go_wp2_with fail
  go_ret
  exact ⟨rfl, HBU.out⟩

set_option maxRecDepth 100000 in
set_option maxHeartbeats 1000000 in
theorem fails_is (e : Ex) (r : Rw) (f : Int) (w : World) (hin : e.In w) (hrin : r.In w) (h : evalR r e = (Val.zero, f)) :
    Calls Try.prog 27 #[.agg #[.int .u8 e.op, .int .u8 e.v.k, .int .i64 e.v.n, .int .i64 e.v.u, .string e.v.t, .int .i64 e.m, .slice e.a e.len e.cap], .int .i64 f, .slice r.a r.len r.cap] w fun x w' => x = .returned (.bool true) ∧ Below w.heap.size w w' := by
  obtain ⟨W1, g, hW1, hg, B, hb1⟩ := boxE' w e
  have HB := Lib.hid hb1
  have HIN := Lib.hid (hin.below HB.out)
  have HRIN := Lib.hid (hrin.below HB.out)
  have HE := Lib.hid h
  obtain ⟨c0, c1, c2, c3, c4, c5, c6, c7⟩ := B
  clear hb1 hin hrin h
  go_enter Try.func27, Try.ntmps27
  go_wp2_with fail
  refine (eval_is e r _ HIN.out HRIN.out Val.zero f HE.out).mono ?_
  rintro _ U ⟨rfl, hbU⟩
  have HBU := Lib.hid (below_tr HB.out (below_tr hbU (Below.allocs U (.cells #[.int .u8 0, .int .i64 0, .int .i64 0, .string ⟨#[]⟩] 23))))
  have hq := fun w => eql_any 0 0 0 ⟨#[]⟩ 0 0 0 ⟨#[]⟩ w
  rw [show eqB ⟨0, 0, 0, ⟨#[]⟩⟩ ⟨0, 0, 0, ⟨#[]⟩⟩ = true from eqB_iff.2 rfl] at hq
  clear c0 c1 c2 c3 c4 c5 c6 c7 hbU hW1
  rw [show Val.zero = ⟨0, 0, 0, ⟨#[]⟩⟩ from rfl]
  dsimp only
  go_wp2_with fail
  go_ret
  exact ⟨rfl, HBU.out⟩

theorem is_of (T : Ex) (n : Nat) (S : Nat → Val) (v : Val) (h : evalR ⟨none, n, n, S⟩ T = (v, 0)) (x y : Value) (w : World) (hx : IsE T w x) (hy : IsR n S w y) :
    Calls Try.prog 26 #[x, .agg #[.int .u8 v.k, .int .i64 v.n, .int .i64 v.u, .string v.t], y] w fun x w' => x = .returned (.bool true) ∧ Below w.heap.size w w' := by
  obtain ⟨e, rfl, hin, hs⟩ := hx
  obtain ⟨r, rfl, hr, hl, hv⟩ := hy
  exact is_is e r v w hin hr (by rw [← h]; exact evalR_congr hl (fun i hi => hv i (by omega)) hs)

theorem fails_of (T : Ex) (n : Nat) (S : Nat → Val) (f : Int) (h : evalR ⟨none, n, n, S⟩ T = (Val.zero, f)) (x y : Value) (w : World) (hx : IsE T w x) (hy : IsR n S w y) :
    Calls Try.prog 27 #[x, .int .i64 f, y] w fun x w' => x = .returned (.bool true) ∧ Below w.heap.size w w' := by
  obtain ⟨e, rfl, hin, hs⟩ := hx
  obtain ⟨r, rfl, hr, hl, hv⟩ := hy
  exact fails_is e r f w hin hr (by rw [← h]; exact evalR_congr hl (fun i hi => hv i (by omega)) hs)

def moreT : Ex := mk2 6 (mkCol 0) (mkLit ⟨1, 1, 0, ⟨#[]⟩⟩)

theorem ex1 : evalR ⟨none, 1, 1, fun _ => ⟨1, 4, 0, ⟨#[]⟩⟩⟩ moreT = (⟨1, 5, 0, ⟨#[]⟩⟩, 0) := by kernel_rfl
theorem ex2 : evalR ⟨none, 1, 1, fun _ => ⟨0, 0, 0, ⟨#[]⟩⟩⟩ moreT = (⟨0, 0, 0, ⟨#[]⟩⟩, 0) := by kernel_rfl
theorem ex3 : evalR ⟨none, 1, 1, fun _ => ⟨1, 9223372036854775807, 0, ⟨#[]⟩⟩⟩ moreT = (Val.zero, 61) := by kernel_rfl
theorem ex4 : evalR ⟨none, 1, 1, fun _ => ⟨3, 0, 0, ⟨#[97]⟩⟩⟩ moreT = (Val.zero, 60) := by kernel_rfl
theorem ex5 : evalR ⟨none, 0, 0, fun _ => Val.zero⟩ moreT = (Val.zero, 4) := by kernel_rfl
theorem ex6 : evalR ⟨none, 1, 1, fun _ => ⟨1, 9223372036854775807, 0, ⟨#[]⟩⟩⟩ (mk2 11 (mkLit ⟨2, 0, 0, ⟨#[]⟩⟩) moreT) = (Val.zero, 61) := by kernel_rfl
theorem ex7 : evalR ⟨none, 0, 0, fun _ => Val.zero⟩ (mk2 13 (mkLit ⟨4, 1, 3, ⟨#[]⟩⟩) (mkLit ⟨4, 2, 5, ⟨#[]⟩⟩)) = (⟨2, 1, 0, ⟨#[]⟩⟩, 0) := by kernel_rfl
theorem ex8 : evalR ⟨none, 0, 0, fun _ => Val.zero⟩ (mk2 13 (mkLit ⟨4, 1, 3, ⟨#[]⟩⟩) (mkLit ⟨4, 3, 5, ⟨#[]⟩⟩)) = (⟨2, 0, 0, ⟨#[]⟩⟩, 0) := by kernel_rfl
end Go.Proofs.Ytflclkmhdngmaaa
