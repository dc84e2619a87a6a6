/-
  The law LogicNumbers as a walk over this translation (F12): it answers true, and of what was there nothing has turned.
-/
import Derived.Test.YtmbjhahlbbhdaaaQTwo
import Derived.Deep.DeepCutAuto
namespace Go.Proofs.Ytmbjhahlbbhdaaa
open Go.RowKit

set_option maxRecDepth 100000 in
set_option maxHeartbeats 8000000 in
theorem numbers_F12T (n m sk sn se bk bn pk pn pe lk ln le mk mn me nk nn ne : Int) (o1 o2 o3 o4 : Bool) 
    (a1 : calcR 1 1 (n + m) = ⟨sk, sn, se⟩) (a2 : calcR 1 1 (m + n) = ⟨sk, sn, se⟩) (b1 : calcR sk 1 (sn - m) = ⟨bk, bn, 0⟩) (p1 : calcR 1 1 (n * m) = ⟨pk, pn, pe⟩) (p2 : calcR 1 1 (m * n) = ⟨pk, pn, pe⟩) (l1 : calcR 1 1 (n - m) = ⟨lk, ln, le⟩) (l2 : calcR 1 1 (m - n) = ⟨mk, mn, me⟩) (l3 : calcR 1 1 (0 - m) = ⟨nk, nn, ne⟩) (i1 : I64 n) (i2 : I64 m) (i3 : I64 sn) (i4 : I64 nn) (e1 : (se == 0) = o1) (e2 : (pe == 0) = o2) (e3 : (le == 0) = o3) (e4 : (me == 0) = o4) (c1 : o1 = true ∧ sk = 1 ∧ sn = n + m ∧ bk = 1 ∧ bn = n ∧ wrap64 (n + m) = n + m) (c2 : (o2 = true ∧ m ≠ 0 ∧ pk = 1 ∧ wrap64 (pn.tdiv m) = n ∧ wrap64 (pn.tmod m) = 0 ∧ pn.tmod m = 0) ∨ (o2 = true ∧ m = 0) ∨ (o2 = false ∧ n ≠ 0 ∧ m ≠ 0)) (c3 : (o3 = true ∧ ne = 61 ∧ (m != -9223372036854775808) = false ∧ o4 = false)) (d1 : calcR 1 1 (n * 1) = ⟨1, n, 0⟩) (d2 : calcR 1 1 (n + 0) = ⟨1, n, 0⟩) (w : World) :
    Calls Try.prog 6 #[.int .i64 n, .int .i64 m] w fun e w' => e = .returned (.bool true) ∧ Below w.heap.size w w' := by
  obtain ⟨rfl, q1, q2, q3, q4, hwr⟩ := c1
  have Hq1 := Lib.hid q1
  have Hq2 := Lib.hid q2
  have Hq3 := Lib.hid q3
  have Hq4 := Lib.hid q4
  have Hq5 := Lib.hid hwr
  clear q1 q2 q3 q4 hwr
  have Ha1 := Lib.hid a1
  clear a1
  have Ha2 := Lib.hid a2
  clear a2
  have Hb1 := Lib.hid b1
  clear b1
  have Hp1 := Lib.hid p1
  clear p1
  have Hp2 := Lib.hid p2
  clear p2
  have Hl1 := Lib.hid l1
  clear l1
  have Hl2 := Lib.hid l2
  clear l2
  have Hl3 := Lib.hid l3
  clear l3
  have Hi1 := Lib.hid i1
  clear i1
  have Hi2 := Lib.hid i2
  clear i2
  have Hi3 := Lib.hid i3
  clear i3
  have Hi4 := Lib.hid i4
  clear i4
  have He1 := Lib.hid e1
  clear e1
  have He2 := Lib.hid e2
  clear e2
  have He3 := Lib.hid e3
  clear e3
  have He4 := Lib.hid e4
  clear e4
  have Hc2 := Lib.hid c2
  clear c2
  have Hc3 := Lib.hid c3
  clear c3
  have Hd1 := Lib.hid d1
  clear d1
  have Hd2 := Lib.hid d2
  clear d2
  have hw0 := Below.refl w.heap.size w
  go_enter Try.func6, Try.ntmps6
  go_wp2_with fail
  refine (int_is n _).mono ?_
  rintro e v1 ⟨rfl, hv1⟩
  have hw1 := below_tr hw0 hv1
  clear hv1
  go_wp2_with fail
  refine (int_is m _).mono ?_
  rintro e v2 ⟨rfl, hv2⟩
  have hw2 := below_tr hw1 hv2
  clear hv2
  go_wp2_with fail
  have hn2 := Below.allocs v2 (.cells #[.int .u8 1, .int .i64 n, .int .i64 0, .string ⟨#[]⟩] 23)
  have An := Boxed.new v2 1 n 0 ⟨#[]⟩ 23
  have hw3 := below_tr hw2 hn2
  have A3 := An
  clear An hn2
  have hn3 := Below.allocs (v2.alloc (.cells #[.int .u8 1, .int .i64 n, .int .i64 0, .string ⟨#[]⟩] 23)) (.cells #[.int .u8 1, .int .i64 m, .int .i64 0, .string ⟨#[]⟩] 23)
  have Bn := Boxed.new (v2.alloc (.cells #[.int .u8 1, .int .i64 n, .int .i64 0, .string ⟨#[]⟩] 23)) 1 m 0 ⟨#[]⟩ 23
  rw [show (v2.alloc (.cells #[.int .u8 1, .int .i64 n, .int .i64 0, .string ⟨#[]⟩] 23)).heap.size = v2.heap.size + 1 by simp] at Bn
  have A4 := A3.below hn3
  have hw4 := below_tr hw3 hn3
  clear A3
  have B4 := Bn
  clear Bn hn3
  refine (two_add 1 n 0 ⟨#[]⟩ 1 m 0 ⟨#[]⟩ Hi1.out Hi2.out ⟨sk, sn, se⟩ Ha1.out true He1.out _).mono ?_
  rintro e v3 ⟨rfl, hv3⟩
  have A5 := A4.below hv3
  have B5 := B4.below hv3
  have hw5 := below_tr hw4 hv3
  clear A4 B4
  clear hv3
  have a' := A5
  obtain ⟨a0, a1, a2, a3, a4⟩ := a'
  have b' := B5
  obtain ⟨b0, b1, b2, b3, b4⟩ := b'
  go_wp2_with fail
  clear a0 a1 a2 a3 a4 b0 b1 b2 b3 b4
  have hn5 := Below.allocs v3 (.cells #[.int .u8 sk, .int .i64 sn, .int .i64 0, .string ⟨#[]⟩] 23)
  have Sn := Boxed.new v3 sk sn 0 ⟨#[]⟩ 23
  have A6 := A5.below hn5
  have B6 := B5.below hn5
  have hw6 := below_tr hw5 hn5
  clear A5 B5
  have S6 := Sn
  clear Sn hn5
  refine (two_add 1 m 0 ⟨#[]⟩ 1 n 0 ⟨#[]⟩ Hi2.out Hi1.out ⟨sk, sn, se⟩ Ha2.out true He1.out _).mono ?_
  rintro e v4 ⟨rfl, hv4⟩
  have A7 := A6.below hv4
  have B7 := B6.below hv4
  have S7 := S6.below hv4
  have hw7 := below_tr hw6 hv4
  clear A6 B6 S6
  clear hv4
  have a' := A7
  obtain ⟨a0, a1, a2, a3, a4⟩ := a'
  have b' := B7
  obtain ⟨b0, b1, b2, b3, b4⟩ := b'
  have s' := S7
  obtain ⟨s0, s1, s2, s3, s4⟩ := s'
  go_wp2_with fail
  clear a0 a1 a2 a3 a4 b0 b1 b2 b3 b4 s0 s1 s2 s3 s4
  have hn7 := Below.allocs v4 (.cells #[.int .u8 sk, .int .i64 sn, .int .i64 0, .string ⟨#[]⟩] 23)
  have Tn := Boxed.new v4 sk sn 0 ⟨#[]⟩ 23
  have A8 := A7.below hn7
  have B8 := B7.below hn7
  have S8 := S7.below hn7
  have hw8 := below_tr hw7 hn7
  clear A7 B7 S7
  have T8 := Tn
  clear Tn hn7
  refine (awake_is _).mono ?_
  rintro e v5 ⟨rfl, hv5⟩
  have A9 := A8.below hv5
  have B9 := B8.below hv5
  have S9 := S8.below hv5
  have T9 := T8.below hv5
  have hw9 := below_tr hw8 hv5
  clear A8 B8 S8 T8
  clear hv5
  have a' := A9
  obtain ⟨a0, a1, a2, a3, a4⟩ := a'
  have b' := B9
  obtain ⟨b0, b1, b2, b3, b4⟩ := b'
  have s' := S9
  obtain ⟨s0, s1, s2, s3, s4⟩ := s'
  go_wp2_with fail
  clear a0 a1 a2 a3 a4 b0 b1 b2 b3 b4 s0 s1 s2 s3 s4
  refine (two_sub sk sn 0 ⟨#[]⟩ 1 m 0 ⟨#[]⟩ Hi3.out Hi2.out ⟨bk, bn, 0⟩ Hb1.out true rfl _).mono ?_
  rintro e v6 ⟨rfl, hv6⟩
  have A10 := A9.below hv6
  have B10 := B9.below hv6
  have S10 := S9.below hv6
  have T10 := T9.below hv6
  have hw10 := below_tr hw9 hv6
  clear A9 B9 S9 T9
  clear hv6
  have a' := A10
  obtain ⟨a0, a1, a2, a3, a4⟩ := a'
  have b' := B10
  obtain ⟨b0, b1, b2, b3, b4⟩ := b'
  have s' := S10
  obtain ⟨s0, s1, s2, s3, s4⟩ := s'
  have q1 := Hq1.out
  have q2 := Hq2.out
  have q3 := Hq3.out
  have q4 := Hq4.out
  have hwr := Hq5.out
  go_wp2_with fail
  clear q1 q2 q3 q4 hwr
  clear a0 a1 a2 a3 a4 b0 b1 b2 b3 b4 s0 s1 s2 s3 s4
  have hn10 := Below.allocs v6 (.cells #[.int .u8 1, .int .i64 n, .int .i64 0, .string ⟨#[]⟩] 23)
  have Un := Boxed.new v6 1 n 0 ⟨#[]⟩ 23
  have A11 := A10.below hn10
  have B11 := B10.below hn10
  have S11 := S10.below hn10
  have T11 := T10.below hn10
  have hw11 := below_tr hw10 hn10
  clear A10 B10 S10 T10
  have U11 := Un
  clear Un hn10
  clear S11
  clear T11
  clear U11
  refine (two_mul 1 n 0 ⟨#[]⟩ 1 m 0 ⟨#[]⟩ Hi1.out Hi2.out ⟨pk, pn, pe⟩ Hp1.out o2 He2.out _).mono ?_
  rintro e v7 ⟨rfl, hv7⟩
  have A12 := A11.below hv7
  have B12 := B11.below hv7
  have hw12 := below_tr hw11 hv7
  clear A11 B11
  clear hv7
  have a' := A12
  obtain ⟨a0, a1, a2, a3, a4⟩ := a'
  have b' := B12
  obtain ⟨b0, b1, b2, b3, b4⟩ := b'
  go_wp2_with fail
  clear a0 a1 a2 a3 a4 b0 b1 b2 b3 b4
  have hn12 := Below.allocs v7 (.cells #[.int .u8 pk, .int .i64 pn, .int .i64 0, .string ⟨#[]⟩] 23)
  have Pn := Boxed.new v7 pk pn 0 ⟨#[]⟩ 23
  have A13 := A12.below hn12
  have B13 := B12.below hn12
  have hw13 := below_tr hw12 hn12
  clear A12 B12
  have P13 := Pn
  clear Pn hn12
  refine (two_mul 1 m 0 ⟨#[]⟩ 1 n 0 ⟨#[]⟩ Hi2.out Hi1.out ⟨pk, pn, pe⟩ Hp2.out o2 He2.out _).mono ?_
  rintro e v8 ⟨rfl, hv8⟩
  have A14 := A13.below hv8
  have B14 := B13.below hv8
  have P14 := P13.below hv8
  have hw14 := below_tr hw13 hv8
  clear A13 B13 P13
  clear hv8
  have a' := A14
  obtain ⟨a0, a1, a2, a3, a4⟩ := a'
  have b' := B14
  obtain ⟨b0, b1, b2, b3, b4⟩ := b'
  have p' := P14
  obtain ⟨p0, p1, p2, p3, p4⟩ := p'
  go_upto_region 11 with (fail)
  clear a0 a1 a2 a3 a4 b0 b1 b2 b3 b4 p0 p1 p2 p3 p4
  have hn14 := Below.allocs v8 (.cells #[.int .u8 pk, .int .i64 pn, .int .i64 0, .string ⟨#[]⟩] 23)
  have Qn := Boxed.new v8 pk pn 0 ⟨#[]⟩ 23
  have A15 := A14.below hn14
  have B15 := B14.below hn14
  have P15 := P14.below hn14
  have hw15 := below_tr hw14 hn14
  clear A14 B14 P14
  have Q15 := Qn
  clear Qn hn14
  go_cut [106] (fun s106 wx => s106 = .bool false ∧ Boxed wx (v2.heap.size) 1 n 0 ⟨#[]⟩ ∧ Boxed wx (v2.heap.size + 1) 1 m 0 ⟨#[]⟩ ∧ Boxed wx (v7.heap.size) pk pn 0 ⟨#[]⟩ ∧ Below w.heap.size w wx)
  case first =>
    cases o2
    all_goals
      have p' := P15
      obtain ⟨p0, p1, p2, p3, p4⟩ := p'
      have q' := Q15
      obtain ⟨q0, q1, q2, q3, q4⟩ := q'
      go_wp2_with fail
      go_meet
      exact ⟨rfl, A15, B15, P15, hw15⟩

  case rest =>
  obtain ⟨rfl, A16c, B16c, P16c, hw16c⟩ := hcut
  clear A15 B15 P15 Q15
  have A16 := A16c
  clear A16c
  have B16 := B16c
  clear B16c
  have P16 := P16c
  clear P16c
  have hw16 := hw16c
  clear hw16c
  have a' := A16
  obtain ⟨a0, a1, a2, a3, a4⟩ := a'
  have b' := B16
  obtain ⟨b0, b1, b2, b3, b4⟩ := b'
  have p' := P16
  obtain ⟨p0, p1, p2, p3, p4⟩ := p'
  go_upto_region 13 with (fail)
  clear a0 a1 a2 a3 a4 b0 b1 b2 b3 b4 p0 p1 p2 p3 p4
  go_cut [138] (fun s138 wx => s138 = .bool false ∧ Boxed wx (v2.heap.size) 1 n 0 ⟨#[]⟩ ∧ Boxed wx (v2.heap.size + 1) 1 m 0 ⟨#[]⟩ ∧ Below w.heap.size w wx)
  case first =>
    rcases Hc2.out with ⟨rfl, h0, rfl, h1, h2, h3⟩ | ⟨rfl, rfl⟩ | ⟨rfl, h0, h1⟩
    · have g0 : (m != 0) = true := by simpa using h0
      have HM0 := Lib.hid h0
      have h0' : ¬ m = 0 := h0
      have p' := P16
      obtain ⟨p0, p1, p2, p3, p4⟩ := p'
      go_wp2_with fail
      go_meet
      exact ⟨rfl, A16, B16, hw16⟩
    · skip
      have p' := P16
      obtain ⟨p0, p1, p2, p3, p4⟩ := p'
      go_wp2_with fail
      go_meet
      exact ⟨rfl, A16, B16, hw16⟩
    · have g0 : (n == 0) = false := by simpa using h0
      have g1 : (m == 0) = false := by simpa using h1
      have p' := P16
      obtain ⟨p0, p1, p2, p3, p4⟩ := p'
      go_wp2_with fail
      go_meet
      exact ⟨rfl, A16, B16, hw16⟩

  case rest =>
  obtain ⟨rfl, A17c, B17c, hw17c⟩ := hcut
  clear A16 B16 P16
  have A17 := A17c
  clear A17c
  have B17 := B17c
  clear B17c
  have hw17 := hw17c
  clear hw17c
  have a' := A17
  obtain ⟨a0, a1, a2, a3, a4⟩ := a'
  have b' := B17
  obtain ⟨b0, b1, b2, b3, b4⟩ := b'
  go_wp2_with fail
  clear a0 a1 a2 a3 a4 b0 b1 b2 b3 b4
  refine (two_sub 1 n 0 ⟨#[]⟩ 1 m 0 ⟨#[]⟩ Hi1.out Hi2.out ⟨lk, ln, le⟩ Hl1.out o3 He3.out _).mono ?_
  rintro e v9 ⟨rfl, hv9⟩
  have A18 := A17.below hv9
  have B18 := B17.below hv9
  have hw18 := below_tr hw17 hv9
  clear A17 B17
  clear hv9
  have a' := A18
  obtain ⟨a0, a1, a2, a3, a4⟩ := a'
  have b' := B18
  obtain ⟨b0, b1, b2, b3, b4⟩ := b'
  go_wp2_with fail
  clear a0 a1 a2 a3 a4 b0 b1 b2 b3 b4
  have hn18 := Below.allocs v9 (.cells #[.int .u8 lk, .int .i64 ln, .int .i64 0, .string ⟨#[]⟩] 23)
  have Ln := Boxed.new v9 lk ln 0 ⟨#[]⟩ 23
  have A19 := A18.below hn18
  have B19 := B18.below hn18
  have hw19 := below_tr hw18 hn18
  clear A18 B18
  have L19 := Ln
  clear Ln hn18
  refine (two_sub 1 m 0 ⟨#[]⟩ 1 n 0 ⟨#[]⟩ Hi2.out Hi1.out ⟨mk, mn, me⟩ Hl2.out o4 He4.out _).mono ?_
  rintro e v10 ⟨rfl, hv10⟩
  have A20 := A19.below hv10
  have B20 := B19.below hv10
  have L20 := L19.below hv10
  have hw20 := below_tr hw19 hv10
  clear A19 B19 L19
  clear hv10
  have a' := A20
  obtain ⟨a0, a1, a2, a3, a4⟩ := a'
  have b' := B20
  obtain ⟨b0, b1, b2, b3, b4⟩ := b'
  go_wp2_with fail
  clear a0 a1 a2 a3 a4 b0 b1 b2 b3 b4
  have hn20 := Below.allocs v10 (.cells #[.int .u8 mk, .int .i64 mn, .int .i64 0, .string ⟨#[]⟩] 23)
  have Mn := Boxed.new v10 mk mn 0 ⟨#[]⟩ 23
  have A21 := A20.below hn20
  have B21 := B20.below hn20
  have L21 := L20.below hn20
  have hw21 := below_tr hw20 hn20
  clear A20 B20 L20
  have M21 := Mn
  clear Mn hn20
  refine (neg_is 1 m 0 ⟨#[]⟩ ⟨nk, nn, ne⟩ Hl3.out Hi2.out _).mono ?_
  rintro e v11 ⟨rfl, hv11⟩
  have A22 := A21.below hv11
  have B22 := B21.below hv11
  have L22 := L21.below hv11
  have M22 := M21.below hv11
  have hw22 := below_tr hw21 hv11
  clear A21 B21 L21 M21
  clear hv11
  have a' := A22
  obtain ⟨a0, a1, a2, a3, a4⟩ := a'
  have b' := B22
  obtain ⟨b0, b1, b2, b3, b4⟩ := b'
  go_upto_region 18 with (fail)
  clear a0 a1 a2 a3 a4 b0 b1 b2 b3 b4
  have hn22 := Below.allocs v11 (.cells #[.int .u8 nk, .int .i64 nn, .int .i64 0, .string ⟨#[]⟩] 23)
  have Nn := Boxed.new v11 nk nn 0 ⟨#[]⟩ 23
  have A23 := A22.below hn22
  have B23 := B22.below hn22
  have L23 := L22.below hn22
  have M23 := M22.below hn22
  have hw23 := below_tr hw22 hn22
  clear A22 B22 L22 M22
  have N23 := Nn
  clear Nn hn22
  obtain ⟨rfl, rfl, hmm, rfl⟩ := Hc3.out
  skip
  have HMM := Lib.hid hmm
  clear hmm
  have a' := A23
  obtain ⟨a0, a1, a2, a3, a4⟩ := a'
  have b' := B23
  obtain ⟨b0, b1, b2, b3, b4⟩ := b'
  have l' := L23
  obtain ⟨l0, l1, l2, l3, l4⟩ := l'
  have m' := M23
  obtain ⟨m0, m1, m2, m3, m4⟩ := m'
  go_wp2_with fail
  clear B23
  clear L23
  clear M23
  clear N23
  clear a0 a1 a2 a3 a4 b0 b1 b2 b3 b4 l0 l1 l2 l3 l4 m0 m1 m2 m3 m4
  have hd := below_drew (v11.alloc (.cells #[.int .u8 nk, .int .i64 nn, .int .i64 0, .string ⟨#[]⟩] 23))
  refine wp_region_plan (KeepR ((v11.alloc (.cells #[.int .u8 nk, .int .i64 nn, .int .i64 0, .string ⟨#[]⟩] 23))).heap.size 1 n 0 ⟨#[]⟩) [.it (.agg #[.int .u8 1, .int .i64 n, .int .i64 0, .string ⟨#[]⟩]), .it (.agg #[.int .u8 1, .int .i64 1, .int .i64 0, .string ⟨#[]⟩]), .it (.tuple #[.agg #[.int .u8 1, .int .i64 n, .int .i64 0, .string ⟨#[]⟩], .bool true]), .it (.tuple #[.agg #[.int .u8 1, .int .i64 n, .int .i64 0, .string ⟨#[]⟩], .bool true]), .it (.agg #[.int .u8 1, .int .i64 n, .int .i64 0, .string ⟨#[]⟩]), .it (.bool true), .of (fun w v => ∃ h, v = .pointer (some ⟨h, 0, none⟩) ∧ ((v11.alloc (.cells #[.int .u8 nk, .int .i64 nn, .int .i64 0, .string ⟨#[]⟩] 23))).heap.size ≤ h ∧ Soft w h ∧ Cells w h), .on 6 (fun p w _ => ∀ h, p = .pointer (some ⟨h, 0, none⟩) → Boxed w h 1 n 0 ⟨#[]⟩), .it (.bool true)] (by kernel_rfl) (by kernel_rfl) (KeepR.refl _ _ _ _ _) KeepR.trans ?_
  refine seqP_value (KeepR.refl _ _ _ _ _) _ (by first | rfl | simp) (fun w' hw' hctx => ?_) ?_
  · obtain ⟨c0, c1, c2, c3, c4⟩ := A23.below (below_tr hd hw'.below)
    go_simp
    try first | with_reducible rfl | simp
  simp only [Act.put, List.setIfInBounds_toArray, List.set_cons_zero, List.set_cons_succ]
  refine seqP_call 14 #[.int .i64 (1)] (.agg #[.int .u8 1, .int .i64 1, .int .i64 0, .string ⟨#[]⟩]) (by first | rfl | simp) (fun w' hw' hctx => ?_) (fun w' hw' hctx => (int_is 1 w').mono fun e w2 ⟨he, hb⟩ => ⟨he, KeepR.of_below hb hw'.below.size⟩) ?_
  · go_simp
  simp only [Act.put, List.setIfInBounds_toArray, List.set_cons_zero, List.set_cons_succ]
  refine seqP_call 39 #[.func (.func 30) #[] #[], .agg #[.int .u8 1, .int .i64 n, .int .i64 0, .string ⟨#[]⟩], .agg #[.int .u8 1, .int .i64 1, .int .i64 0, .string ⟨#[]⟩]] (.tuple #[.agg #[.int .u8 1, .int .i64 n, .int .i64 0, .string ⟨#[]⟩], .bool true]) (by first | rfl | simp) (fun w' hw' hctx => ?_) (fun w' hw' hctx => (two_mul 1 n 0 ⟨#[]⟩ 1 1 0 ⟨#[]⟩ Hi1.out (by unfold I64; omega) ⟨1, n, 0⟩ Hd1.out true rfl w').mono fun e w2 ⟨he, hb⟩ => ⟨he, KeepR.of_below hb hw'.below.size⟩) ?_
  · go_simp
  simp only [Act.put, List.setIfInBounds_toArray, List.set_cons_zero, List.set_cons_succ]
  refine seqP_value (KeepR.refl _ _ _ _ _) _ (by first | rfl | simp) (fun w' hw' hctx => ?_) ?_
  · go_simp
    try first | with_reducible rfl | simp
  simp only [Act.put, List.setIfInBounds_toArray, List.set_cons_zero, List.set_cons_succ]
  refine seqP_value (KeepR.refl _ _ _ _ _) _ (by first | rfl | simp) (fun w' hw' hctx => ?_) ?_
  · go_simp
    try first | with_reducible rfl | simp
  simp only [Act.put, List.setIfInBounds_toArray, List.set_cons_zero, List.set_cons_succ]
  refine seqP_value (KeepR.refl _ _ _ _ _) _ (by first | rfl | simp) (fun w' hw' hctx => ?_) ?_
  · go_simp
    try first | with_reducible rfl | simp
  simp only [Act.put, List.setIfInBounds_toArray, List.set_cons_zero, List.set_cons_succ]
  refine seqP_make _ (fun w w' v hR hV => by obtain ⟨h, h1, h2, h3, h4⟩ := hV; exact ⟨h, h1, h2, hR.soft _ h3, hR.cells _ h4⟩) (by first | rfl | simp) (fun w' hw' hctx => ?_) (fun v => ?_)
  · exact ⟨_, _, by go_simp; first | with_reducible rfl | rfl, KeepR.of_below (Below.allocs _ _) hw'.below.size, ⟨_, rfl, hw'.below.size, Soft.new _ _ _ _ _ _, ⟨_, _, _, _, Boxed.new _ _ _ _ _ _⟩⟩⟩
  simp only [Act.put, List.setIfInBounds_toArray, List.set_cons_zero, List.set_cons_succ]
  refine seqP_write 6 _ (by decide) (fun w w' v hR hV h hh => hR.same _ (hV h hh)) (by first | rfl | simp) (fun w' hw' hctx => ?_) (fun v' => ?_)
  · obtain ⟨h, rfl, h2, h3, h4⟩ : ∃ h, v = .pointer (some ⟨h, 0, none⟩) ∧ ((v11.alloc (.cells #[.int .u8 nk, .int .i64 nn, .int .i64 0, .string ⟨#[]⟩] 23))).heap.size ≤ h ∧ Soft w' h ∧ Cells w' h := hctx.1
    have hk := KeepR.put (k := 1) (n := n) (u := 0) (t := ⟨#[]⟩) h2 h4
    obtain ⟨x0, x1, x2, x3, hbx⟩ := h4
    have hbp := boxed_put4 hbx (1) (n) 0 ⟨#[]⟩
    obtain ⟨b0, b1, b2, b3, b4⟩ := hbx
    obtain ⟨s0, s1, s2, s3, s4⟩ := h3
    refine ⟨put4 w' h (1) (n) 0 ⟨#[]⟩, ?_, hk, fun h' hh' => ?_⟩
    · go_simp
      rfl
    · simp [upd] at hh'
      subst hh'
      exact hbp
  simp only [Act.put]
  refine seqP_value (KeepR.refl _ _ _ _ _) _ (by first | rfl | simp) (fun w' hw' hctx => ?_) ?_
  · go_simp
    try first | with_reducible rfl | simp
  simp only [Act.put, List.setIfInBounds_toArray, List.set_cons_zero, List.set_cons_succ]
  refine seqP_nil (fun v101 hR hctx => ?_)
  obtain ⟨g101, rfl, hg101, hs101, -⟩ : ∃ h, v = .pointer (some ⟨h, 0, none⟩) ∧ ((v11.alloc (.cells #[.int .u8 nk, .int .i64 nn, .int .i64 0, .string ⟨#[]⟩] 23))).heap.size ≤ h ∧ Soft v101 h ∧ Cells v101 h := hctx.2.1
  have En : Boxed v101 g101 (1) (n) 0 ⟨#[]⟩ := hctx.1 g101 (by simp [upd])
  have hv101 := below_tr hd hR.below
  clear hctx hR hd hs101
  have A24 := A23.below hv101
  have hw24 := below_tr hw23 hv101
  clear A23
  have E24 := En
  clear En hv101
  go_wp2_with fail
  have hd := below_drew v101
  refine wp_region_plan (KeepR (v101).heap.size 1 n 0 ⟨#[]⟩) [.it (.agg #[.int .u8 1, .int .i64 n, .int .i64 0, .string ⟨#[]⟩]), .it (.agg #[.int .u8 1, .int .i64 0, .int .i64 0, .string ⟨#[]⟩]), .it (.tuple #[.agg #[.int .u8 1, .int .i64 n, .int .i64 0, .string ⟨#[]⟩], .bool true]), .it (.tuple #[.agg #[.int .u8 1, .int .i64 n, .int .i64 0, .string ⟨#[]⟩], .bool true]), .it (.agg #[.int .u8 1, .int .i64 n, .int .i64 0, .string ⟨#[]⟩]), .it (.bool true), .of (fun w v => ∃ h, v = .pointer (some ⟨h, 0, none⟩) ∧ (v101).heap.size ≤ h ∧ Soft w h ∧ Cells w h), .on 6 (fun p w _ => ∀ h, p = .pointer (some ⟨h, 0, none⟩) → Boxed w h 1 n 0 ⟨#[]⟩), .it (.bool true)] (by kernel_rfl) (by kernel_rfl) (KeepR.refl _ _ _ _ _) KeepR.trans ?_
  refine seqP_value (KeepR.refl _ _ _ _ _) _ (by first | rfl | simp) (fun w' hw' hctx => ?_) ?_
  · obtain ⟨c0, c1, c2, c3, c4⟩ := A24.below (below_tr hd hw'.below)
    go_simp
    try first | with_reducible rfl | simp
  simp only [Act.put, List.setIfInBounds_toArray, List.set_cons_zero, List.set_cons_succ]
  refine seqP_call 14 #[.int .i64 (0)] (.agg #[.int .u8 1, .int .i64 0, .int .i64 0, .string ⟨#[]⟩]) (by first | rfl | simp) (fun w' hw' hctx => ?_) (fun w' hw' hctx => (int_is 0 w').mono fun e w2 ⟨he, hb⟩ => ⟨he, KeepR.of_below hb hw'.below.size⟩) ?_
  · go_simp
  simp only [Act.put, List.setIfInBounds_toArray, List.set_cons_zero, List.set_cons_succ]
  refine seqP_call 39 #[.func (.func 26) #[] #[], .agg #[.int .u8 1, .int .i64 n, .int .i64 0, .string ⟨#[]⟩], .agg #[.int .u8 1, .int .i64 0, .int .i64 0, .string ⟨#[]⟩]] (.tuple #[.agg #[.int .u8 1, .int .i64 n, .int .i64 0, .string ⟨#[]⟩], .bool true]) (by first | rfl | simp) (fun w' hw' hctx => ?_) (fun w' hw' hctx => (two_add 1 n 0 ⟨#[]⟩ 1 0 0 ⟨#[]⟩ Hi1.out (by unfold I64; omega) ⟨1, n, 0⟩ Hd2.out true rfl w').mono fun e w2 ⟨he, hb⟩ => ⟨he, KeepR.of_below hb hw'.below.size⟩) ?_
  · go_simp
  simp only [Act.put, List.setIfInBounds_toArray, List.set_cons_zero, List.set_cons_succ]
  refine seqP_value (KeepR.refl _ _ _ _ _) _ (by first | rfl | simp) (fun w' hw' hctx => ?_) ?_
  · go_simp
    try first | with_reducible rfl | simp
  simp only [Act.put, List.setIfInBounds_toArray, List.set_cons_zero, List.set_cons_succ]
  refine seqP_value (KeepR.refl _ _ _ _ _) _ (by first | rfl | simp) (fun w' hw' hctx => ?_) ?_
  · go_simp
    try first | with_reducible rfl | simp
  simp only [Act.put, List.setIfInBounds_toArray, List.set_cons_zero, List.set_cons_succ]
  refine seqP_value (KeepR.refl _ _ _ _ _) _ (by first | rfl | simp) (fun w' hw' hctx => ?_) ?_
  · go_simp
    try first | with_reducible rfl | simp
  simp only [Act.put, List.setIfInBounds_toArray, List.set_cons_zero, List.set_cons_succ]
  refine seqP_make _ (fun w w' v hR hV => by obtain ⟨h, h1, h2, h3, h4⟩ := hV; exact ⟨h, h1, h2, hR.soft _ h3, hR.cells _ h4⟩) (by first | rfl | simp) (fun w' hw' hctx => ?_) (fun v => ?_)
  · exact ⟨_, _, by go_simp; first | with_reducible rfl | rfl, KeepR.of_below (Below.allocs _ _) hw'.below.size, ⟨_, rfl, hw'.below.size, Soft.new _ _ _ _ _ _, ⟨_, _, _, _, Boxed.new _ _ _ _ _ _⟩⟩⟩
  simp only [Act.put, List.setIfInBounds_toArray, List.set_cons_zero, List.set_cons_succ]
  refine seqP_write 6 _ (by decide) (fun w w' v hR hV h hh => hR.same _ (hV h hh)) (by first | rfl | simp) (fun w' hw' hctx => ?_) (fun v' => ?_)
  · obtain ⟨h, rfl, h2, h3, h4⟩ : ∃ h, v = .pointer (some ⟨h, 0, none⟩) ∧ (v101).heap.size ≤ h ∧ Soft w' h ∧ Cells w' h := hctx.1
    have hk := KeepR.put (k := 1) (n := n) (u := 0) (t := ⟨#[]⟩) h2 h4
    obtain ⟨x0, x1, x2, x3, hbx⟩ := h4
    have hbp := boxed_put4 hbx (1) (n) 0 ⟨#[]⟩
    obtain ⟨b0, b1, b2, b3, b4⟩ := hbx
    obtain ⟨s0, s1, s2, s3, s4⟩ := h3
    refine ⟨put4 w' h (1) (n) 0 ⟨#[]⟩, ?_, hk, fun h' hh' => ?_⟩
    · go_simp
      rfl
    · simp [upd] at hh'
      subst hh'
      exact hbp
  simp only [Act.put]
  refine seqP_value (KeepR.refl _ _ _ _ _) _ (by first | rfl | simp) (fun w' hw' hctx => ?_) ?_
  · go_simp
    try first | with_reducible rfl | simp
  simp only [Act.put, List.setIfInBounds_toArray, List.set_cons_zero, List.set_cons_succ]
  refine seqP_nil (fun v102 hR hctx => ?_)
  obtain ⟨g102, rfl, hg102, hs102, -⟩ : ∃ h, v = .pointer (some ⟨h, 0, none⟩) ∧ (v101).heap.size ≤ h ∧ Soft v102 h ∧ Cells v102 h := hctx.2.1
  have Gn : Boxed v102 g102 (1) (n) 0 ⟨#[]⟩ := hctx.1 g102 (by simp [upd])
  have hv102 := below_tr hd hR.below
  clear hctx hR hd hs102
  have A25 := A24.below hv102
  have E25 := E24.below hv102
  have hw25 := below_tr hw24 hv102
  clear A24 E24
  have G25 := Gn
  clear Gn hv102
  have a' := A25
  obtain ⟨a0, a1, a2, a3, a4⟩ := a'
  have e' := E25
  obtain ⟨e0, e1, e2, e3, e4⟩ := e'
  have g' := G25
  obtain ⟨g0, g1, g2, g3, g4⟩ := g'
  have hmm := HMM.out
  go_wp2_with fail
  go_ret
  exact ⟨rfl, hw25⟩

end Go.Proofs.Ytmbjhahlbbhdaaa
