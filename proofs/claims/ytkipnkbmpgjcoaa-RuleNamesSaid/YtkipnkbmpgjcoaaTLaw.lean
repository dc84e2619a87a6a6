/-
  The laws' own (covenantlaw08): parts, size, long, wide.
-/
import Derived.Test.YtkipnkbmpgjcoaaTFit
namespace Go.Proofs.Ytkipnkbmpgjcoaa
open Go.RowKit

set_option maxRecDepth 100000 in
set_option maxHeartbeats 2000000 in
theorem parts_is : ∀ (e : Ex) (most : Nat) (w : World), 1 ≤ most → most ≤ 1000 → e.In w →
    Calls Try.prog 47 #[.agg #[.int .u8 e.op, .int .u8 e.v.k, .int .i64 e.v.n, .int .i64 e.v.u, .string e.v.t, .int .i64 e.m, .slice e.a e.len e.cap], .int .i64 most] w fun x w' => (∃ n : Nat, x = .returned (.int .i64 n) ∧ n ≤ most + 92233720368547800) ∧ Below w.heap.size w w' := by
  intro e
  induction e using Ex.ind with
  | h e ih =>
  intro most w hm1 hmost hin
  have IH := Lib.hid ih
  have HIN := Lib.hid hin
  obtain ⟨W1, g, hW1, hg, B1, hb1⟩ := boxE' w e
  have hm : e.len ≤ 9223372036854775807 := by have := hin.wf'.lc; have := hin.wf'.cm; unfold maxLen at this; omega
  have ht : e.v.t.size ≤ 9223372036854775807 := by have := hin.wf'.t; unfold maxLen at this; omega
  have HB1 := Lib.hid hb1
  have HE1 := Lib.hid B1
  clear ih hin hb1
  obtain ⟨c0, c1, c2, c3, c4, c5, c6, c7⟩ := B1
  go_enter Try.func47, Try.ntmps47
  go_wp2_with fail
  clear c0 c1 c2 c3 c4 c5 c6 c7 hW1
  go_loopg [5, 6] e.len (fun gk n i wr => ∃ k m : Nat, k ≤ e.len ∧ gk = e.len - k ∧ i = .int .i64 k ∧ n = .int .i64 m ∧ 1 ≤ m ∧ m ≤ most + 92233720368547800 ∧ Hid (Below w.heap.size w wr) ∧ Hid (BoxE wr g e))
  case atStart => exact ⟨0, 1 + e.v.t.size / 100, Nat.zero_le _, by omega, rfl, by simp, by omega, by omega, HB1, HE1⟩
  case round =>
    obtain ⟨k, m, hk, hgk, rfl, rfl, hm0, hmb, HB, HE⟩ := hrel
    obtain ⟨e0, e1, e2, e3, e4, e5, e6, e7⟩ := HE.out
    by_cases hlt : k < e.len
    · have hlt1 : decide (k < e.len) = true := by simpa using hlt
      by_cases hle : m < most
      · have hle1 : decide (m < most) = true := by simpa using hle
        obtain ⟨b, o, hea, hat⟩ := HIN.out.args (by omega)
        have hat' := (hat k hlt).below HB.out
        have hkin := (HIN.out.kid' hlt).below HB.out
        obtain ⟨d, hd⟩ : ∃ d : Nat, most - m = d := ⟨_, rfl⟩
        have HI := Lib.hid (IH.out k hlt d wr (by omega) (by omega) hkin)
        obtain ⟨q, hq⟩ : ∃ q, e.kid k = q := ⟨_, rfl⟩
        rw [hq] at hat' HI
        have hsub : (most : Int) - (m : Int) = (d : Int) := by omega
        rw [hea] at e6
        obtain ⟨a0, a1, a2, a3, a4, a5, a6, a7⟩ := hat'
        have HD := Lib.hid hd
        clear hea hat hkin hq hd
        go_wp2_with fail
        refine HI.out.mono ?_
        rintro _ w2 ⟨⟨s, rfl, hs⟩, hb2⟩
        have HB2 := Lib.hid (below_tr HB.out hb2)
        have HE2 := Lib.hid (HE.out.below hb2)
        have hs' : m + s ≤ most + 92233720368547800 := by have := HD.out; omega
        clear hb2 e0 e1 e2 e3 e4 e5 e6 e7 a0 a1 a2 a3 a4 a5 a6 a7 HI hs
        go_wp2_with fail
        go_roundg (e.len - (k + 1))
        case measure => omega
        case rel => exact ⟨k + 1, m + s, by omega, rfl, by go_num, by go_num, by omega, hs', HB2, HE2⟩
      · have hle1 : decide (m < most) = false := by simpa using hle
        go_wp2_with fail
        go_ret
        exact ⟨⟨m, rfl, hmb⟩, HB.out⟩
    · have hlt1 : decide (k < e.len) = false := by simpa using hlt
      go_wp2_with fail
      go_ret
      exact ⟨⟨m, rfl, hmb⟩, HB.out⟩

theorem size_is (e : Ex) (w : World) (hin : e.In w) : Calls Try.prog 25 #[.agg #[.int .u8 e.op, .int .u8 e.v.k, .int .i64 e.v.n, .int .i64 e.v.u, .string e.v.t, .int .i64 e.m, .slice e.a e.len e.cap]] w fun x w' => (∃ n : Nat, x = .returned (.int .i64 n) ∧ n ≤ 92233720368548800) ∧ Below w.heap.size w w' := by
  obtain ⟨W1, g, hW1, hg, B1, hb1⟩ := boxE' w e
  have HB1 := Lib.hid hb1
  have hcon := parts_is e 1000 W1 (by omega) (by omega) (hin.below hb1)
  obtain ⟨c0, c1, c2, c3, c4, c5, c6, c7⟩ := B1
  clear hb1
  go_enter Try.func25, Try.ntmps25
  go_wp2_with fail
  refine hcon.mono ?_
  rintro _ w2 ⟨⟨s, rfl, hs⟩, hb2⟩
  have HB2 := Lib.hid (below_tr HB1.out hb2)
  clear hb2 hcon
  go_wp2_with fail
  go_ret
  exact ⟨⟨s, rfl, by omega⟩, by first | exact HB2.out | exact hg ▸ HB2.out⟩

/-- A bool, and what follows if it is no. -/
def SaysNo (p : Prop) (x : Ending) : Prop := ∃ b : Bool, x = .returned (.bool b) ∧ (b = false → p)

theorem boxR (w : World) (r : Rl) : ∃ W g, w.alloc (.cells #[.int .u8 r.kind, .string r.nm, .string r.tb, .slice r.a r.n r.cap, .int .u8 r.is.op, .int .u8 r.is.v.k, .int .i64 r.is.v.n, .int .i64 r.is.v.u, .string r.is.v.t, .int .i64 r.is.m, .slice r.is.a r.is.len r.is.cap, .string r.to, .int .u8 r.od, .int .u8 r.ou, .bool r.late, .bool r.valid] 29) = W ∧ w.heap.size = g ∧ Blk W g (ruc r) ∧ Below w.heap.size w W :=
  ⟨_, _, rfl, rfl, Blk.new w _ _, Below.allocs w _⟩

set_option maxRecDepth 100000 in
set_option maxHeartbeats 2000000 in
theorem long_is (r : Rl) (w : World) (hr : r.In w) :
    Calls Try.prog 8 #[.agg #[.int .u8 r.kind, .string r.nm, .string r.tb, .slice r.a r.n r.cap, .int .u8 r.is.op, .int .u8 r.is.v.k, .int .i64 r.is.v.n, .int .i64 r.is.v.u, .string r.is.v.t, .int .i64 r.is.m, .slice r.is.a r.is.len r.is.cap, .string r.to, .int .u8 r.od, .int .u8 r.ou, .bool r.late, .bool r.valid]] w fun x w' => SaysNo (r.n ≤ 60) x ∧ Below w.heap.size w w' := by
  obtain ⟨W, g, hW, hg, B, hb⟩ := boxR w r
  have HB := Lib.hid hb
  have hcon := size_is r.is W (hr.below hb).is
  have c0 := B.get 0 _ rfl
  have c1 := B.get 1 _ rfl
  have c2 := B.get 2 _ rfl
  have c3 := B.get 3 _ rfl
  have c4 := B.get 4 _ rfl
  have c5 := B.get 5 _ rfl
  have c6 := B.get 6 _ rfl
  have c7 := B.get 7 _ rfl
  have c8 := B.get 8 _ rfl
  have c9 := B.get 9 _ rfl
  have c10 := B.get 10 _ rfl
  have c11 := B.get 11 _ rfl
  have c12 := B.get 12 _ rfl
  have c13 := B.get 13 _ rfl
  have c14 := B.get 14 _ rfl
  have c15 := B.get 15 _ rfl
  clear hr B hb
  by_cases z0 : 200 < (r.nm.size : Int)
  · have y0 : decide (200 < (r.nm.size : Int)) = true := by simpa using z0
    go_enter Try.func8, Try.ntmps8
    go_wp2_with fail
    go_ret
    exact ⟨⟨true, rfl, fun h => by cases h⟩, by first | exact HB.out | exact hg ▸ HB.out⟩
  have y0 : decide (200 < (r.nm.size : Int)) = false := by simpa using z0
  by_cases z1 : 200 < (r.tb.size : Int)
  · have y1 : decide (200 < (r.tb.size : Int)) = true := by simpa using z1
    go_enter Try.func8, Try.ntmps8
    go_wp2_with fail
    go_ret
    exact ⟨⟨true, rfl, fun h => by cases h⟩, by first | exact HB.out | exact hg ▸ HB.out⟩
  have y1 : decide (200 < (r.tb.size : Int)) = false := by simpa using z1
  by_cases z2 : 200 < (r.to.size : Int)
  · have y2 : decide (200 < (r.to.size : Int)) = true := by simpa using z2
    go_enter Try.func8, Try.ntmps8
    go_wp2_with fail
    go_ret
    exact ⟨⟨true, rfl, fun h => by cases h⟩, by first | exact HB.out | exact hg ▸ HB.out⟩
  have y2 : decide (200 < (r.to.size : Int)) = false := by simpa using z2
  by_cases z3 : 60 < (r.n : Int)
  · have y3 : decide (60 < (r.n : Int)) = true := by simpa using z3
    go_enter Try.func8, Try.ntmps8
    go_wp2_with fail
    go_ret
    exact ⟨⟨true, rfl, fun h => by cases h⟩, by first | exact HB.out | exact hg ▸ HB.out⟩
  have y3 : decide (60 < (r.n : Int)) = false := by simpa using z3
  go_enter Try.func8, Try.ntmps8
  go_wp2_with fail
  refine hcon.mono ?_
  rintro _ w1 ⟨⟨n, rfl, hn⟩, hb1⟩
  have HB1 := Lib.hid (below_tr HB.out hb1)
  clear hcon hb1 hW c0 c1 c2 c3 c4 c5 c6 c7 c8 c9 c10 c11 c12 c13 c14 c15
  go_wp2_with fail
  go_ret
  exact ⟨⟨_, rfl, fun _ => by omega⟩, by first | exact HB1.out | exact hg ▸ HB1.out⟩

set_option maxRecDepth 100000 in
set_option maxHeartbeats 2000000 in
theorem wide_ex (nm : ByteArray) (a : Option Addr) (n cap : Nat) (cols : List Col) (ow : ByteArray) (w : World) (ht : (Tb.mk nm a n cap cols ow).In w) :
    Calls Try.prog 9 #[.agg #[.string nm, .slice a n cap, .string ow]] w fun x w' => SaysNo (n ≤ 40) x ∧ Below w.heap.size w w' := by
  obtain ⟨W, g, hW, hg, B, hb⟩ := boxT w ⟨nm, a, n, cap, cols, ow⟩
  dsimp only at hW B
  have HB := Lib.hid hb
  have HT := Lib.hid (ht.below hb)
  have HBK := Lib.hid B
  have htn : n ≤ 9223372036854775807 := ht.le
  have hnm : nm.size ≤ 9223372036854775807 := ht.nm
  have how : ow.size ≤ 9223372036854775807 := ht.ow
  have c0 := B.get 0 _ rfl
  have c1 := B.get 1 _ rfl
  have c2 := B.get 2 _ rfl
  clear ht B hb
  by_cases z0 : 40 < (n : Int)
  · have y0 : decide (40 < (n : Int)) = true := by simpa using z0
    go_enter Try.func9, Try.ntmps9
    go_wp2_with fail
    go_ret
    exact ⟨⟨true, rfl, fun h => by cases h⟩, by first | exact HB.out | exact hg ▸ HB.out⟩
  have y0 : decide (40 < (n : Int)) = false := by simpa using z0
  by_cases z1 : 200 < (nm.size : Int)
  · have y1 : decide (200 < (nm.size : Int)) = true := by simpa using z1
    go_enter Try.func9, Try.ntmps9
    go_wp2_with fail
    go_ret
    exact ⟨⟨true, rfl, fun h => by cases h⟩, by first | exact HB.out | exact hg ▸ HB.out⟩
  have y1 : decide (200 < (nm.size : Int)) = false := by simpa using z1
  by_cases z2 : 200 < (ow.size : Int)
  · have y2 : decide (200 < (ow.size : Int)) = true := by simpa using z2
    go_enter Try.func9, Try.ntmps9
    go_wp2_with fail
    go_ret
    exact ⟨⟨true, rfl, fun h => by cases h⟩, by first | exact HB.out | exact hg ▸ HB.out⟩
  have y2 : decide (200 < (ow.size : Int)) = false := by simpa using z2
  have h40 : n ≤ 40 := by omega
  have H40 := Lib.hid h40
  have HW := Lib.hid hW
  clear z0 z1 z2 hnm how
  go_enter Try.func9, Try.ntmps9
  go_wp2_with fail
  clear y0 y1 y2 c0 c1 c2 hW
  go_loopg [3] n (fun gk i wr => ∃ k : Nat, k ≤ n ∧ gk = n - k ∧ i = .int .i64 k ∧ wr = W)
  case atStart => exact ⟨0, Nat.zero_le _, by omega, rfl, rfl⟩
  case round =>
    obtain ⟨k, hk, hgk, rfl, rfl⟩ := hrel
    have c0 := HBK.out.get 0 _ rfl
    have c1 := HBK.out.get 1 _ rfl
    have c2 := HBK.out.get 2 _ rfl
    by_cases hlt : k < n
    · have hlt1 : (k : Int) < (n : Int) := by omega
      obtain ⟨x, hx⟩ := getC (l := cols) (i := k) (by rw [HT.out.len]; exact hlt)
      obtain ⟨b, o, rfl, hat⟩ := at_c HT.out.sl hx
      obtain ⟨a0, a1, a2, a3, a4, a5, a6⟩ := hat
      clear hx
      by_cases z1 : 200 < (x.nm.size : Int)
      · have y1 : decide (200 < (x.nm.size : Int)) = true := by simpa using z1
        go_wp2_with fail
        go_ret
        exact ⟨⟨true, rfl, fun h => by cases h⟩, by first | exact HB.out | exact hg ▸ HB.out⟩
      have y1 : decide (200 < (x.nm.size : Int)) = false := by simpa using z1
      by_cases z2 : 1000 < (x.v.t.size : Int)
      · have y2 : decide (1000 < (x.v.t.size : Int)) = true := by simpa using z2
        go_wp2_with fail
        go_ret
        exact ⟨⟨true, rfl, fun h => by cases h⟩, by first | exact HB.out | exact hg ▸ HB.out⟩
      have y2 : decide (1000 < (x.v.t.size : Int)) = false := by simpa using z2
      go_wp2_with fail
      go_roundg (n - (k + 1))
      case measure => omega
      case rel => exact ⟨k + 1, by omega, rfl, by go_num, rfl⟩
    · have hlt1 : ¬ (k : Int) < (n : Int) := by omega
      go_wp2_with fail
      go_ret
      exact ⟨⟨false, rfl, fun _ => by first | exact h40 | trivial⟩, by first | exact HB.out | exact hg ▸ HB.out⟩
theorem wide_is (t : Tb) (w : World) (ht : t.In w) :
    Calls Try.prog 9 #[.agg #[.string t.nm, .slice t.a t.n t.cap, .string t.ow]] w fun x w' => SaysNo (t.n ≤ 40) x ∧ Below w.heap.size w w' := wide_ex t.nm t.a t.n t.cap t.cols t.ow w ht
end Go.Proofs.Ytkipnkbmpgjcoaa
