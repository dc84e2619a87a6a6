/-
  SightOne: a session writes a row: walked (stage 12).
-/
import Derived.Test.YtbgnbaogclnpgaaMOneH
import Derived.Test.YtbgnbaogclnpgaaMOneP
import Derived.Test.YtbgnbaogclnpgaaMOneJ
namespace Go.Proofs.Ytbgnbaogclnpgaa
open Go.RowKit
set_option linter.unusedVariables false

structure Act1 where
  who : Int
  kind : Int
  row : Int
  n : Int
structure Act1.wf (s : Act1) : Prop where
  who : 0 ≤ s.who ∧ s.who ≤ 255
  kind : 0 ≤ s.kind ∧ s.kind ≤ 255
  row : 0 ≤ s.row ∧ s.row ≤ 255
  n : -128 ≤ s.n ∧ s.n ≤ 127
/-- The i-th act, in memory. -/
structure ActAt (W : World) (sb so i : Nat) (x : Act1) : Prop where
  lt : sb < W.heap.size
  who : W.cell? ⟨sb, so + i * 4, none⟩ = some (.int .u8 x.who)
  kind : W.cell? ⟨sb, so + i * 4 + 1, none⟩ = some (.int .u8 x.kind)
  row : W.cell? ⟨sb, so + i * 4 + 2, none⟩ = some (.int .u8 x.row)
  n : W.cell? ⟨sb, so + i * 4 + 3, none⟩ = some (.int .i8 x.n)
  wf : x.wf

set_option maxRecDepth 100000 in
set_option maxHeartbeats 8000000 in
theorem owrB_is {v1 s2 s3 s4 : Value} {tk : Bool} {sb so n0 cq i : Nat} {x13 x14 x15 x16 x17 x18 x19 x20 x21 : Value} {L : Nat → Lb} {w0 w : World} {h t gw gc gk gs gq z m : Nat} {A : Ab} {T : Tb} {ss : Nat → List Int} {P : Int → List Wt} {f kept : Int → Int} {at0 : Int} {sv wv : Nat → Value} (H : Me L w0 w h t gw gc gk gs gq z m A T ss ss P f kept at0 sv wv) {k : Nat} (hk : k < 3) (hn : T.n ≤ 1000) (hz : z ≤ 80000) (hm : m ≤ 999) {l : List Int} {sub hd : Int} (hl : ss k = l ++ [sub]) (hl9 : l.length ≤ 1000) (hhd : (ss k).headD 0 = hd) (hp : 1 ≤ hd ∧ hd ≤ 1000) (hsub : 1 ≤ sub ∧ sub ≤ 1000)
    {r : Nat} (hr4 : r < 4) {nn : Int} (hnr : -1 ≤ nn ∧ nn ≤ 127) {bb : Bool} (hbb : wrB T A hd ((r : Int) + 1) nn = bb) {A' : Ab} (hA : wrA T A hd sub ((r : Int) + 1) nn = A') {P' : Int → List Wt} (hP : bb = true → ∀ i, i < 3 → ∀ s' ∈ ss i, ∀ y, lastBy s' (P' y) = if s' = sub ∧ y = (r : Int) + 1 then some nn else lastBy s' (P y)) (hs0 : ∀ i, i < 3 → i ≠ k → sub ∉ ss i) (hsl : sub ∉ l) {a : Act}
    (HF : Fr [.slice (some ⟨sb, so, none⟩) n0 cq, v1, s2, s3, s4, .pointer (some ⟨gw, 0, none⟩), .pointer (some ⟨gc, 0, none⟩), .pointer (some ⟨gk, 0, none⟩), .pointer (some ⟨gs, 0, none⟩), .bool tk, .pointer (some ⟨gq, 0, none⟩), .int .i64 (i : Int), .pointer (some ⟨gq, k * 3, none⟩), x13, x14, x15, x16, x17, x18, x19, x20, x21, .int .i64 (r : Int), .int .i64 nn] a) {Q : Exit → Act → World → Prop} (hQ1 : bb = false → ∀ a' w', Fr [.slice (some ⟨sb, so, none⟩) n0 cq, v1, s2, s3, s4, .pointer (some ⟨gw, 0, none⟩), .pointer (some ⟨gc, 0, none⟩), .pointer (some ⟨gk, 0, none⟩), .pointer (some ⟨gs, 0, none⟩), .bool tk, .pointer (some ⟨gq, 0, none⟩), .int .i64 (i : Int)] a' → Me L w0 w' h t gw gc gk gs gq (z + 3) m A' T ss ss P f kept at0 sv wv → Q .normal a' w') (hQ2 : bb = true → ∀ a' w', Fr [.slice (some ⟨sb, so, none⟩) n0 cq, v1, s2, s3, s4, .pointer (some ⟨gw, 0, none⟩), .pointer (some ⟨gc, 0, none⟩), .pointer (some ⟨gk, 0, none⟩), .pointer (some ⟨gs, 0, none⟩), .bool tk, .pointer (some ⟨gq, 0, none⟩), .int .i64 (i : Int)] a' → Me L w0 w' h t gw gc gk gs gq (z + 3) (m + 1) A' T ss ss P' f kept at0 sv wv → Q .normal a' w') :
    Code.wp Try.prog (nav [true, true, true, true, true, true, true, true, false, true, false, false, true, false, false, true, true, false, false, true, true, true, true, true, true, true, true, true, true, true, true, true] (Try.f3.body.getD .skip)) Q a w := by
  have mixed : Try.prog.follows Departure.mixedOrders = true := by kernel_rfl
  obtain ⟨j, hj⟩ : ∃ j, l.length = j := ⟨_, rfl⟩
  obtain ⟨n, hnj⟩ : ∃ n, j + 1 = n := ⟨_, rfl⟩
  have hln : (ss k).length = n := by rw [hl, List.length_append, List.length_singleton, hj, hnj]
  obtain ⟨b, c, hsv, hnc, hcm, hb, hcell, -⟩ := RowI.at (H.mb.sub k hk).row (j := j) (by omega)
  rw [hln] at hsv hnc hcell
  have hcell := hcell j (by omega)
  rw [hl, show (l ++ [sub]).getD j 0 = sub by rw [← hj]; simp] at hcell
  have hcon := fun W (hb : Below w.heap.size w W) => write_is (H.duo.below hb) hn hz gw (show L gw ≠ .no by rw [H.mb.lw]; simp) (H.mb.wri.below hb) hd sub ((r : Int) + 1) nn (by unfold I64; omega) (by unfold I64; omega) (by unfold Most; omega) (by unfold I64; omega) bb hbb A' hA
  have HCON := Lib.hid hcon
  have HM := Lib.hid H
  have HHD := Lib.hid hhd
  have HSV := Lib.hid hsv
  have HBL := Lib.hid hb
  have HCE := Lib.hid hcell
  have HL := Lib.hid hl
  have HJ := Lib.hid hj
  have HP := Lib.hid hP
  have HS0 := Lib.hid hs0
  have HSL := Lib.hid hsl
  have HLN := Lib.hid hln
  have HQ1 := Lib.hid hQ1
  have HQ2 := Lib.hid hQ2
  have hjz : ¬ (n : Int) ≤ (j : Int) := by omega
  have hjz2 : ¬ n ≤ j := by omega
  have hw1 : IntKind.i64.wrap ((n : Int) - 1) = (j : Int) := (congrArg IntKind.i64.wrap (show (n : Int) - 1 = (j : Int) by omega)).trans (iwrap (by omega) (by omega))
  have hwr : IntKind.i64.wrap ((r : Int) + 1) = (r : Int) + 1 := iwrap (by omega) (by omega)
  have hrw : wrap64 ((r : Int) + 1) = (r : Int) + 1 := wrOk ⟨by omega, by omega⟩
  clear H hQ1 hQ2 hsv hln hl hl9 hj hcell hb hnc hcm hP hs0 hsl hbb hA hhd hcon
  obtain ⟨tl, rfl, hlen⟩ := HF
  refine open_24 tl (by have h := hlen; simp only [List.length_cons, List.length_nil] at h; omega) fun x24 x25 x26 x27 x28 x29 x30 x31 x32 x33 x34 x35 x36 x37 x38 x39 x40 x41 x42 x43 x44 x45 x46 x47 x48 x49 x50 x51 x52 x53 x54 x55 x56 x57 x58 x59 x60 x61 x62 x63 x64 x65 x66 x67 x68 x69 x70 x71 x72 x73 x74 x75 x76 x77 x78 x79 x80 x81 x82 x83 x84 x85 x86 x87 x88 x89 x90 x91 x92 x93 x94 x95 x96 x97 x98 x99 x100 x101 x102 x103 x104 x105 x106 x107 x108 x109 x110 x111 x112 x113 x114 x115 x116 x117 x118 x119 x120 x121 x122 x123 x124 x125 x126 x127 x128 x129 x130 x131 x132 x133 x134 x135 x136 x137 x138 x139 x140 x141 x142 x143 x144 x145 x146 x147 x148 x149 x150 x151 x152 x153 x154 x155 x156 x157 x158 x159 x160 x161 x162 x163 x164 x165 x166 x167 x168 x169 x170 x171 x172 x173 x174 x175 x176 x177 x178 x179 x180 x181 x182 x183 x184 x185 x186 x187 x188 x189 x190 x191 x192 x193 x194 x195 x196 x197 x198 x199 x200 x201 x202 x203 x204 x205 x206 x207 x208 x209 x210 x211 x212 x213 x214 x215 x216 x217 x218 x219 x220 x221 x222 x223 x224 x225 x226 x227 x228 x229 x230 x231 x232 x233 x234 x235 x236 x237 x238 x239 x240 x241 x242 x243 x244 x245 x246 x247 x248 x249 x250 x251 x252 x253 x254 x255 x256 x257 x258 x259 x260 x261 x262 x263 x264 x265 x266 x267 x268 x269 x270 x271 x272 x273 x274 x275 x276 x277 x278 x279 x280 x281 x282 x283 x284 x285 x286 x287 x288 x289 x290 x291 x292 x293 x294 x295 x296 x297 x298 x299 x300 x301 x302 x303 x304 x305 x306 x307 x308 x309 x310 x311 x312 x313 x314 x315 x316 x317 x318 x319 x320 x321 x322 x323 x324 x325 x326 x327 x328 x329 x330 x331 x332 x333 x334 x335 x336 x337 x338 x339 x340 x341 x342 x343 x344 x345 x346 x347 x348 x349 x350 x351 x352 x353 x354 x355 x356 x357 x358 x359 x360 x361 x362 x363 x364 x365 x366 x367 x368 x369 x370 x371 x372 x373 x374 x375 x376 x377 x378 x379 x380 x381 x382 x383 x384 x385 x386 x387 x388 x389 e => ?_
  subst e
  clear hlen
  simp only [List.cons_append, List.nil_append]
  show Code.wp Try.prog (Code.seq _ _) _ _ _
  go_upto_region 21 with (fail)
  have hdr := below_drw w
  try simp only [List.append_eq, List.cons_append, List.nil_append]
  refine RX.wp_region_planG 20 (fun w w' => Below w.heap.size w w') [.it (.pointer (some ⟨gw, 0, none⟩)), .it (.pointer (some ⟨gq, k * 3, none⟩)), .it (.pointer (some ⟨gq, k * 3, none⟩)), .it (.pointer (some ⟨gq, k * 3, none⟩)), .it (.int .i64 hd), .it (.pointer (some ⟨gq, k * 3, none⟩)), .it (.pointer (some ⟨gq, k * 3, none⟩)), .it (.pointer (some ⟨gq, k * 3 + 1, none⟩)), .it (.slice (some ⟨b, 0, none⟩) n c), .it (.pointer (some ⟨gq, k * 3, none⟩)), .it (.pointer (some ⟨gq, k * 3, none⟩)), .it (.pointer (some ⟨gq, k * 3 + 1, none⟩)), .it (.slice (some ⟨b, 0, none⟩) n c), .it (.int .i64 (n : Int)), .it (.int .i64 (j : Int)), .it (.pointer (some ⟨b, j, none⟩)), .it (.int .i64 sub), .it (.int .i64 (r : Int)), .it (.int .i64 ((r : Int) + 1)), .it (.int .i64 nn)] mixed (by kernel_rfl) (fun _ => Below.refl _ _) (fun _ _ _ => below_tr) ?_
  simp only [List.take_succ_cons, List.take_zero, List.drop_succ_cons, List.drop_zero]
  refine RX.seqP_value (fun _ => Below.refl _ _) _ (by first | rfl | simp) (fun w' hw' hctx => by (go_simp); (try first | with_reducible rfl | simp)) ?_
  simp only [Act.put, List.setIfInBounds_toArray, List.set_cons_zero, List.set_cons_succ]
  refine RX.seqP_value (fun _ => Below.refl _ _) _ (by first | rfl | simp) (fun w' hw' hctx => by (go_simp); (try first | with_reducible rfl | simp)) ?_
  simp only [Act.put, List.setIfInBounds_toArray, List.set_cons_zero, List.set_cons_succ]
  refine RX.seqP_value (fun _ => Below.refl _ _) _ (by first | rfl | simp) (fun w' hw' hctx => by (go_simp); (try first | with_reducible rfl | simp)) ?_
  simp only [Act.put, List.setIfInBounds_toArray, List.set_cons_zero, List.set_cons_succ]
  refine RX.seqP_value (fun _ => Below.refl _ _) _ (by first | rfl | simp) (fun w' hw' hctx => by (go_simp); (try first | with_reducible rfl | simp)) ?_
  simp only [Act.put, List.setIfInBounds_toArray, List.set_cons_zero, List.set_cons_succ]
  refine RX.seqP_value (fun _ => Below.refl _ _) _ (by first | rfl | simp) (fun w' hw' hctx => ?_) ?_
  · have y0 := ((HM.out.mb.who).below (below_tr hdr hw')).cell (who_top hk ss sv wv).1
    rw [HHD.out] at y0
    have yl := ((HM.out.mb.who).below (below_tr hdr hw')).lt
    go_simp
    try first | with_reducible rfl | simp
  simp only [Act.put, List.setIfInBounds_toArray, List.set_cons_zero, List.set_cons_succ]
  refine RX.seqP_value (fun _ => Below.refl _ _) _ (by first | rfl | simp) (fun w' hw' hctx => by (go_simp); (try first | with_reducible rfl | simp)) ?_
  simp only [Act.put, List.setIfInBounds_toArray, List.set_cons_zero, List.set_cons_succ]
  refine RX.seqP_value (fun _ => Below.refl _ _) _ (by first | rfl | simp) (fun w' hw' hctx => by (go_simp); (try first | with_reducible rfl | simp)) ?_
  simp only [Act.put, List.setIfInBounds_toArray, List.set_cons_zero, List.set_cons_succ]
  refine RX.seqP_value (fun _ => Below.refl _ _) _ (by first | rfl | simp) (fun w' hw' hctx => by (go_simp); (try first | with_reducible rfl | simp)) ?_
  simp only [Act.put, List.setIfInBounds_toArray, List.set_cons_zero, List.set_cons_succ]
  refine RX.seqP_value (fun _ => Below.refl _ _) _ (by first | rfl | simp) (fun w' hw' hctx => ?_) ?_
  · have y0 := ((HM.out.mb.who).below (below_tr hdr hw')).cell (who_top hk ss sv wv).2.1
    rw [HSV.out] at y0
    have yl := ((HM.out.mb.who).below (below_tr hdr hw')).lt
    go_simp
    try first | with_reducible rfl | simp
  simp only [Act.put, List.setIfInBounds_toArray, List.set_cons_zero, List.set_cons_succ]
  refine RX.seqP_value (fun _ => Below.refl _ _) _ (by first | rfl | simp) (fun w' hw' hctx => by (go_simp); (try first | with_reducible rfl | simp)) ?_
  simp only [Act.put, List.setIfInBounds_toArray, List.set_cons_zero, List.set_cons_succ]
  refine RX.seqP_value (fun _ => Below.refl _ _) _ (by first | rfl | simp) (fun w' hw' hctx => by (go_simp); (try first | with_reducible rfl | simp)) ?_
  simp only [Act.put, List.setIfInBounds_toArray, List.set_cons_zero, List.set_cons_succ]
  refine RX.seqP_value (fun _ => Below.refl _ _) _ (by first | rfl | simp) (fun w' hw' hctx => by (go_simp); (try first | with_reducible rfl | simp)) ?_
  simp only [Act.put, List.setIfInBounds_toArray, List.set_cons_zero, List.set_cons_succ]
  refine RX.seqP_value (fun _ => Below.refl _ _) _ (by first | rfl | simp) (fun w' hw' hctx => ?_) ?_
  · have y0 := ((HM.out.mb.who).below (below_tr hdr hw')).cell (who_top hk ss sv wv).2.1
    rw [HSV.out] at y0
    have yl := ((HM.out.mb.who).below (below_tr hdr hw')).lt
    go_simp
    try first | with_reducible rfl | simp
  simp only [Act.put, List.setIfInBounds_toArray, List.set_cons_zero, List.set_cons_succ]
  refine RX.seqP_value (fun _ => Below.refl _ _) _ (by first | rfl | simp) (fun w' hw' hctx => by (go_simp); (try first | with_reducible rfl | simp)) ?_
  simp only [Act.put, List.setIfInBounds_toArray, List.set_cons_zero, List.set_cons_succ]
  refine RX.seqP_value (fun _ => Below.refl _ _) _ (by first | rfl | simp) (fun w' hw' hctx => by (go_simp); (try first | with_reducible rfl | simp)) ?_
  simp only [Act.put, List.setIfInBounds_toArray, List.set_cons_zero, List.set_cons_succ]
  refine RX.seqP_value (fun _ => Below.refl _ _) _ (by first | rfl | simp) (fun w' hw' hctx => by (go_simp); (try first | with_reducible rfl | simp)) ?_
  simp only [Act.put, List.setIfInBounds_toArray, List.set_cons_zero, List.set_cons_succ]
  refine RX.seqP_value (fun _ => Below.refl _ _) _ (by first | rfl | simp) (fun w' hw' hctx => ?_) ?_
  · have y0 := ((below_tr hdr hw')).cell (p := ⟨b, j, none⟩) HBL.out
    rw [HCE.out] at y0
    have yl := Nat.lt_of_lt_of_le HBL.out ((below_tr hdr hw')).size
    go_simp
    try first | with_reducible rfl | simp
  simp only [Act.put, List.setIfInBounds_toArray, List.set_cons_zero, List.set_cons_succ]
  refine RX.seqP_value (fun _ => Below.refl _ _) _ (by first | rfl | simp) (fun w' hw' hctx => by (go_simp); (try first | with_reducible rfl | simp)) ?_
  simp only [Act.put, List.setIfInBounds_toArray, List.set_cons_zero, List.set_cons_succ]
  refine RX.seqP_value (fun _ => Below.refl _ _) _ (by first | rfl | simp) (fun w' hw' hctx => by (go_simp); (try first | with_reducible rfl | simp)) ?_
  simp only [Act.put, List.setIfInBounds_toArray, List.set_cons_zero, List.set_cons_succ]
  refine RX.seqP_value (fun _ => Below.refl _ _) _ (by first | rfl | simp) (fun w' hw' hctx => by (go_simp); (try first | with_reducible rfl | simp)) ?_
  simp only [Act.put, List.setIfInBounds_toArray, List.set_cons_zero, List.set_cons_succ]
  refine RX.seqP_nil (fun w2 hR hctx _ => ?_)
  have hb2 := below_tr hdr hR
  have HB2 := Lib.hid hb2
  clear hctx hR hb2 hdr
  unfold RX.lastQ
  have hcon := HCON.out _ HB2.out
  have HC2 := Lib.hid hcon
  clear hcon
  go_wp2_with fail
  refine HC2.out.mono ?_
  rintro e w4 ⟨rfl, hd4, hs4⟩
  have HM4 := Lib.hid ((HM.out.below HB2.out).turn hd4 hs4)
  clear hd4 hs4 HC2 HCON HM HB2 HBL HCE HSV
  cases bb with
  | false =>
    go_wp2_with fail
    exact HQ1.out (by first | rfl | trivial) _ _ ⟨_, rfl, rfl⟩ HM4.out
  | true =>
    obtain ⟨d, e, mg, hwv, hne1, hem, hdl, hdc, hput⟩ := HM4.out.put (P' := P') hk HL.out HJ.out (by omega) hr4 (fun i hi => (HP.out (by first | rfl | trivial)) i hi) HS0.out HSL.out
    rw [hnj] at hwv hne1
    have HWV := Lib.hid hwv
    have HDL := Lib.hid hdl
    have HDC := Lib.hid hdc
    have HPUT := Lib.hid hput
    clear hwv hdl hdc hput HP HS0 HSL HHD
    go_upto_region 22 with (fail)
    have hdr := below_drw w4
    try simp only [List.append_eq, List.cons_append, List.nil_append]
    refine RX.wp_region_planG 14 (fun w w' => Below w.heap.size w w') [.it (.pointer (some ⟨gq, k * 3, none⟩)), .it (.pointer (some ⟨gq, k * 3, none⟩)), .it (.pointer (some ⟨gq, k * 3 + 2, none⟩)), .it (.slice (some ⟨d, 0, none⟩) n e), .it (.pointer (some ⟨gq, k * 3, none⟩)), .it (.pointer (some ⟨gq, k * 3, none⟩)), .it (.pointer (some ⟨gq, k * 3 + 2, none⟩)), .it (.slice (some ⟨d, 0, none⟩) n e), .it (.int .i64 (n : Int)), .it (.int .i64 (j : Int)), .it (.pointer (some ⟨d, j, none⟩)), .it (.map (some mg)), .it (.int .i64 (r : Int)), .it (.int .i64 nn)] mixed (by kernel_rfl) (fun _ => Below.refl _ _) (fun _ _ _ => below_tr) ?_
    simp only [List.take_succ_cons, List.take_zero, List.drop_succ_cons, List.drop_zero]
    refine RX.seqP_value (fun _ => Below.refl _ _) _ (by first | rfl | simp) (fun w' hw' hctx => by (go_simp); (try first | with_reducible rfl | simp)) ?_
    simp only [Act.put, List.setIfInBounds_toArray, List.set_cons_zero, List.set_cons_succ]
    refine RX.seqP_value (fun _ => Below.refl _ _) _ (by first | rfl | simp) (fun w' hw' hctx => by (go_simp); (try first | with_reducible rfl | simp)) ?_
    simp only [Act.put, List.setIfInBounds_toArray, List.set_cons_zero, List.set_cons_succ]
    refine RX.seqP_value (fun _ => Below.refl _ _) _ (by first | rfl | simp) (fun w' hw' hctx => by (go_simp); (try first | with_reducible rfl | simp)) ?_
    simp only [Act.put, List.setIfInBounds_toArray, List.set_cons_zero, List.set_cons_succ]
    refine RX.seqP_value (fun _ => Below.refl _ _) _ (by first | rfl | simp) (fun w' hw' hctx => ?_) ?_
    · have y0 := ((HM4.out.mb.who).below (below_tr hdr hw')).cell (who_top hk ss sv wv).2.2
      rw [HWV.out] at y0
      have yl := ((HM4.out.mb.who).below (below_tr hdr hw')).lt
      go_simp
      try first | with_reducible rfl | simp
    simp only [Act.put, List.setIfInBounds_toArray, List.set_cons_zero, List.set_cons_succ]
    refine RX.seqP_value (fun _ => Below.refl _ _) _ (by first | rfl | simp) (fun w' hw' hctx => by (go_simp); (try first | with_reducible rfl | simp)) ?_
    simp only [Act.put, List.setIfInBounds_toArray, List.set_cons_zero, List.set_cons_succ]
    refine RX.seqP_value (fun _ => Below.refl _ _) _ (by first | rfl | simp) (fun w' hw' hctx => by (go_simp); (try first | with_reducible rfl | simp)) ?_
    simp only [Act.put, List.setIfInBounds_toArray, List.set_cons_zero, List.set_cons_succ]
    refine RX.seqP_value (fun _ => Below.refl _ _) _ (by first | rfl | simp) (fun w' hw' hctx => by (go_simp); (try first | with_reducible rfl | simp)) ?_
    simp only [Act.put, List.setIfInBounds_toArray, List.set_cons_zero, List.set_cons_succ]
    refine RX.seqP_value (fun _ => Below.refl _ _) _ (by first | rfl | simp) (fun w' hw' hctx => ?_) ?_
    · have y0 := ((HM4.out.mb.who).below (below_tr hdr hw')).cell (who_top hk ss sv wv).2.2
      rw [HWV.out] at y0
      have yl := ((HM4.out.mb.who).below (below_tr hdr hw')).lt
      go_simp
      try first | with_reducible rfl | simp
    simp only [Act.put, List.setIfInBounds_toArray, List.set_cons_zero, List.set_cons_succ]
    refine RX.seqP_value (fun _ => Below.refl _ _) _ (by first | rfl | simp) (fun w' hw' hctx => by (go_simp); (try first | with_reducible rfl | simp)) ?_
    simp only [Act.put, List.setIfInBounds_toArray, List.set_cons_zero, List.set_cons_succ]
    refine RX.seqP_value (fun _ => Below.refl _ _) _ (by first | rfl | simp) (fun w' hw' hctx => by (go_simp); (try first | with_reducible rfl | simp)) ?_
    simp only [Act.put, List.setIfInBounds_toArray, List.set_cons_zero, List.set_cons_succ]
    refine RX.seqP_value (fun _ => Below.refl _ _) _ (by first | rfl | simp) (fun w' hw' hctx => by (go_simp); (try first | with_reducible rfl | simp)) ?_
    simp only [Act.put, List.setIfInBounds_toArray, List.set_cons_zero, List.set_cons_succ]
    refine RX.seqP_value (fun _ => Below.refl _ _) _ (by first | rfl | simp) (fun w' hw' hctx => ?_) ?_
    · have y0 := ((below_tr hdr hw')).cell (p := ⟨d, j, none⟩) HDL.out
      rw [HDC.out] at y0
      have yl := Nat.lt_of_lt_of_le HDL.out ((below_tr hdr hw')).size
      go_simp
      try first | with_reducible rfl | simp
    simp only [Act.put, List.setIfInBounds_toArray, List.set_cons_zero, List.set_cons_succ]
    refine RX.seqP_value (fun _ => Below.refl _ _) _ (by first | rfl | simp) (fun w' hw' hctx => by (go_simp); (try first | with_reducible rfl | simp)) ?_
    simp only [Act.put, List.setIfInBounds_toArray, List.set_cons_zero, List.set_cons_succ]
    refine RX.seqP_value (fun _ => Below.refl _ _) _ (by first | rfl | simp) (fun w' hw' hctx => by (go_simp); (try first | with_reducible rfl | simp)) ?_
    simp only [Act.put, List.setIfInBounds_toArray, List.set_cons_zero, List.set_cons_succ]
    refine RX.seqP_nil (fun w5 hR hctx _ => ?_)
    have hb5 := below_tr hdr hR
    obtain ⟨W6, hrun, hm6⟩ := HPUT.out _ hb5
    have HM6 := Lib.hid hm6
    clear hctx hR hb5 hdr hm6 HPUT
    unfold RX.lastQ
    go_wp2_with fail
    exact HQ2.out (by first | rfl | trivial) _ _ ⟨_, rfl, rfl⟩ HM6.out

set_option maxRecDepth 100000 in
set_option maxHeartbeats 8000000 in
theorem owr_is {v1 s2 s3 s4 : Value} {tk : Bool} {sb so n0 cq i : Nat} {L : Nat → Lb} {w0 w : World} {h t gw gc gk gs gq z m : Nat} {A : Ab} {T : Tb} {ss : Nat → List Int} {P : Int → List Wt} {f kept : Int → Int} {at0 : Int} {sv wv : Nat → Value} (H : Me L w0 w h t gw gc gk gs gq z m A T ss ss P f kept at0 sv wv) {x : Act1} (hx : ActAt w sb so i x) (hi : i < n0) (hn0 : n0 ≤ 1000) {k : Nat} (hk : k < 3) (hn : T.n ≤ 1000) (hz : z ≤ 80000) (hm : m ≤ 999) {l : List Int} {sub hd : Int} (hl : ss k = l ++ [sub]) (hl9 : l.length ≤ 1000) (hhd : (ss k).headD 0 = hd) (hp : 1 ≤ hd ∧ hd ≤ 1000) (hsub : 1 ≤ sub ∧ sub ≤ 1000)
    {r : Nat} (hr : x.row % 4 = (r : Int)) {nn : Int} (hnn : (if x.n < 0 then -1 else x.n) = nn) {bb : Bool} (hbb : wrB T A hd ((r : Int) + 1) nn = bb) {A' : Ab} (hA : wrA T A hd sub ((r : Int) + 1) nn = A') {P' : Int → List Wt} (hP : bb = true → ∀ i, i < 3 → ∀ s' ∈ ss i, ∀ y, lastBy s' (P' y) = if s' = sub ∧ y = (r : Int) + 1 then some nn else lastBy s' (P y)) (hs0 : ∀ i, i < 3 → i ≠ k → sub ∉ ss i) (hsl : sub ∉ l) {a : Act}
    (HF : Fr [.slice (some ⟨sb, so, none⟩) n0 cq, v1, s2, s3, s4, .pointer (some ⟨gw, 0, none⟩), .pointer (some ⟨gc, 0, none⟩), .pointer (some ⟨gk, 0, none⟩), .pointer (some ⟨gs, 0, none⟩), .bool tk, .pointer (some ⟨gq, 0, none⟩), .int .i64 (i : Int), .pointer (some ⟨gq, k * 3, none⟩)] a) {Q : Exit → Act → World → Prop} (hQ1 : bb = false → ∀ a' w', Fr [.slice (some ⟨sb, so, none⟩) n0 cq, v1, s2, s3, s4, .pointer (some ⟨gw, 0, none⟩), .pointer (some ⟨gc, 0, none⟩), .pointer (some ⟨gk, 0, none⟩), .pointer (some ⟨gs, 0, none⟩), .bool tk, .pointer (some ⟨gq, 0, none⟩), .int .i64 (i : Int)] a' → Me L w0 w' h t gw gc gk gs gq (z + 3) m A' T ss ss P f kept at0 sv wv → Q .normal a' w') (hQ2 : bb = true → ∀ a' w', Fr [.slice (some ⟨sb, so, none⟩) n0 cq, v1, s2, s3, s4, .pointer (some ⟨gw, 0, none⟩), .pointer (some ⟨gc, 0, none⟩), .pointer (some ⟨gk, 0, none⟩), .pointer (some ⟨gs, 0, none⟩), .bool tk, .pointer (some ⟨gq, 0, none⟩), .int .i64 (i : Int)] a' → Me L w0 w' h t gw gc gk gs gq (z + 3) (m + 1) A' T ss ss P' f kept at0 sv wv → Q .normal a' w') :
    Code.wp Try.prog (nav [true, true, true, true, true, true, true, true, false, true, false, false, true, false, false, true, true, false, false, true, true, true, true, true, true, true, true, true, true] (Try.f3.body.getD .skip)) Q a w := by
  have cw := hx.wf.row
  have cn := hx.wf.n
  have hr4 : r < 4 := by omega
  have hnr : -1 ≤ nn ∧ nn ≤ 127 := by rw [← hnn]; split <;> omega
  have c2 := hx.row
  have c3 := hx.n
  have cl := hx.lt
  have hiz : ¬ (n0 : Int) ≤ (i : Int) := by omega
  have HALL := Lib.hid (fun (a : Act) (x13 x14 x15 x16 x17 x18 x19 x20 x21 : Value) (HF : Fr [.slice (some ⟨sb, so, none⟩) n0 cq, v1, s2, s3, s4, .pointer (some ⟨gw, 0, none⟩), .pointer (some ⟨gc, 0, none⟩), .pointer (some ⟨gk, 0, none⟩), .pointer (some ⟨gs, 0, none⟩), .bool tk, .pointer (some ⟨gq, 0, none⟩), .int .i64 (i : Int), .pointer (some ⟨gq, k * 3, none⟩), x13, x14, x15, x16, x17, x18, x19, x20, x21, .int .i64 (r : Int), .int .i64 nn] a) => owrB_is H hk hn hz hm hl hl9 hhd hp hsub hr4 hnr hbb hA hP hs0 hsl HF hQ1 hQ2)
  clear H hQ1 hQ2 hl hl9 hP hs0 hsl hx hbb hA hhd
  obtain ⟨tl, rfl, hlen⟩ := HF
  refine open_13 tl (by have h := hlen; simp only [List.length_cons, List.length_nil] at h; omega) fun x13 x14 x15 x16 x17 x18 x19 x20 x21 x22 x23 x24 x25 x26 x27 x28 x29 x30 x31 x32 x33 x34 x35 x36 x37 x38 x39 x40 x41 x42 x43 x44 x45 x46 x47 x48 x49 x50 x51 x52 x53 x54 x55 x56 x57 x58 x59 x60 x61 x62 x63 x64 x65 x66 x67 x68 x69 x70 x71 x72 x73 x74 x75 x76 x77 x78 x79 x80 x81 x82 x83 x84 x85 x86 x87 x88 x89 x90 x91 x92 x93 x94 x95 x96 x97 x98 x99 x100 x101 x102 x103 x104 x105 x106 x107 x108 x109 x110 x111 x112 x113 x114 x115 x116 x117 x118 x119 x120 x121 x122 x123 x124 x125 x126 x127 x128 x129 x130 x131 x132 x133 x134 x135 x136 x137 x138 x139 x140 x141 x142 x143 x144 x145 x146 x147 x148 x149 x150 x151 x152 x153 x154 x155 x156 x157 x158 x159 x160 x161 x162 x163 x164 x165 x166 x167 x168 x169 x170 x171 x172 x173 x174 x175 x176 x177 x178 x179 x180 x181 x182 x183 x184 x185 x186 x187 x188 x189 x190 x191 x192 x193 x194 x195 x196 x197 x198 x199 x200 x201 x202 x203 x204 x205 x206 x207 x208 x209 x210 x211 x212 x213 x214 x215 x216 x217 x218 x219 x220 x221 x222 x223 x224 x225 x226 x227 x228 x229 x230 x231 x232 x233 x234 x235 x236 x237 x238 x239 x240 x241 x242 x243 x244 x245 x246 x247 x248 x249 x250 x251 x252 x253 x254 x255 x256 x257 x258 x259 x260 x261 x262 x263 x264 x265 x266 x267 x268 x269 x270 x271 x272 x273 x274 x275 x276 x277 x278 x279 x280 x281 x282 x283 x284 x285 x286 x287 x288 x289 x290 x291 x292 x293 x294 x295 x296 x297 x298 x299 x300 x301 x302 x303 x304 x305 x306 x307 x308 x309 x310 x311 x312 x313 x314 x315 x316 x317 x318 x319 x320 x321 x322 x323 x324 x325 x326 x327 x328 x329 x330 x331 x332 x333 x334 x335 x336 x337 x338 x339 x340 x341 x342 x343 x344 x345 x346 x347 x348 x349 x350 x351 x352 x353 x354 x355 x356 x357 x358 x359 x360 x361 x362 x363 x364 x365 x366 x367 x368 x369 x370 x371 x372 x373 x374 x375 x376 x377 x378 x379 x380 x381 x382 x383 x384 x385 x386 x387 x388 x389 e => ?_
  subst e
  clear hlen
  simp only [List.cons_append, List.nil_append]
  show Code.wp Try.prog (Code.seq _ _) _ _ _
  go_upto_if 85 with fail
  rename_i K hK
  have HK := Lib.hid hK
  clear hK
  by_cases hneg : x.n < 0
  · have hv : nn = -1 := by rw [← hnn, if_pos hneg]
    subst hv
    clear hnn
    go_wp2_with fail
    exact HK.out _ _ (HALL.out _ _ _ _ _ _ _ _ _ _ ⟨_, rfl, rfl⟩)
  · have hv : nn = x.n := by rw [← hnn, if_neg hneg]
    subst hv
    clear hnn
    have hneg2 : 0 ≤ x.n := by omega
    go_wp2_with fail
    exact HK.out _ _ (HALL.out _ _ _ _ _ _ _ _ _ _ ⟨_, rfl, rfl⟩)


end Go.Proofs.Ytbgnbaogclnpgaa

namespace Go.Proofs.Ytbgnbaogclnpgaa
open Go.RowKit
set_option linter.unusedVariables false

/-- What holds ahead of the i-th act. -/
def Lo (w0 : World) (h t gw gc gk gs gq i : Nat) (tk : Bool) (W : World) : Prop := ∃ L sv wv ss C P T A a0 kept, Me L w0 W h t gw gc gk gs gq (3 * i) i A T ss ss P (fun y => valE (C y)) kept a0 sv wv ∧ Bk T A ss C P ∧ (tk = true → Kp T C a0 kept) ∧ T.n ≤ i ∧ T.last ≤ i ∧ ∀ k, k < 3 → (ss k).length ≤ i

theorem lo_below {w0 : World} {h t gw gc gk gs gq i : Nat} {tk : Bool} {W W' : World} (H : Lo w0 h t gw gc gk gs gq i tk W) (hb : Below W.heap.size W W') : Lo w0 h t gw gc gk gs gq i tk W' := by
  obtain ⟨L, sv, wv, ss, C, P, T, A, a0, kept, h1, h2⟩ := H
  exact ⟨L, sv, wv, ss, C, P, T, A, a0, kept, h1.below hb, h2⟩

section
variable {L : Nat → Lb} {w0 W : World} {h t gw gc gk gs gq z m i : Nat} {A : Ab} {T : Tb} {ss : Nat → List Int} {C P : Int → List Wt} {kept : Int → Int} {a0 : Int} {sv wv : Nat → Value} {tk : Bool}

theorem Bk.pos (H : Bk T A ss C P) (hn : T.n ≤ 1000) {k : Nat} (hk : k < 3) {s : Int} (hs : s ∈ ss k) : 1 ≤ s ∧ s ≤ 1000 := by
  have := runs_in (H.inv.run k hk s hs).1
  omega
theorem upd_len (hlen : ∀ k, k < 3 → (ss k).length ≤ i) {k : Nat} (hk : k < 3) {l : List Int} (hl : l.length ≤ i + 1) : ∀ j, j < 3 → (updS ss k l j).length ≤ i + 1 := fun j hj => by
  by_cases e : j = k
  · subst e; rw [updS_at]; exact hl
  · rw [updS_ne _ _ e]; have := hlen j hj; omega
theorem lo_begin (hB : Bk T A ss C P) (hK : tk = true → Kp T C a0 kept) (hn : T.n ≤ i) (hla : T.last ≤ i) (hlen : ∀ k, k < 3 → (ss k).length ≤ i) {k : Nat} (hk : k < 3) {p : Int} (hp : (ss k = [] ∧ p = 0) ∨ p ∈ ss k)
    (hM : ∃ L' sv' wv', Me L' w0 W h t gw gc gk gs gq (3 * i) i A (T.begT p) (updS ss k (ss k ++ [(T.n : Int) + 1])) (updS ss k (ss k ++ [(T.n : Int) + 1])) P (fun y => valE (C y)) kept a0 sv' wv') : Lo w0 h t gw gc gk gs gq (i + 1) tk W := by
  obtain ⟨L', sv', wv', hM⟩ := hM
  obtain ⟨-, -, h3, h4, h5, h6, -⟩ := hB.beg hk hp
  exact ⟨L', sv', wv', _, C, P, _, A, a0, kept, hM.more (by omega) (by omega), h5, fun e => h6 _ _ (hK e), by omega, by omega, upd_len hlen hk (by have := hlen k hk; simp; omega)⟩
theorem lo_commit (hB : Bk T A ss C P) (hK : tk = true → Kp T C a0 kept) (hn : T.n ≤ i) (hla : T.last ≤ i) (hlen : ∀ k, k < 3 → (ss k).length ≤ i) {k : Nat} (hk : k < 3) (hs : ss k ≠ [])
    (hM : ∃ L' sv' wv', Me L' w0 W h t gw gc gk gs gq (3 * i) i A (T.comT ((ss k).headD 0)) (updS ss k []) (updS ss k []) (fun y => (P y).filter fun e => decide (e.1 ∉ ss k)) (fun y => overO (valE (C y)) ((ss k).map fun s => lastBy s (P y))) kept a0 sv' wv') : Lo w0 h t gw gc gk gs gq (i + 1) tk W := by
  obtain ⟨L', sv', wv', hM⟩ := hM
  obtain ⟨-, h3, h4, h5, h6⟩ := hB.com hk hs rfl
  exact ⟨L', sv', wv', _, _, _, _, A, a0, kept, (hM.more (by omega) (by omega)).comcongr (fun y _ _ => (hB.want hk y).symm), h5, fun e => h6 _ _ (hK e), by omega, by omega, upd_len hlen hk (by simp)⟩
theorem lo_abort (hB : Bk T A ss C P) (hK : tk = true → Kp T C a0 kept) (hn : T.n ≤ i) (hla : T.last ≤ i) (hlen : ∀ k, k < 3 → (ss k).length ≤ i) {k : Nat} (hk : k < 3) {l r : List Int} {s : Int} (hl : ss k = l ++ r) (hr : (l = [] ∧ s = (ss k).headD 0 ∧ r ≠ []) ∨ r = [s])
    (hM : ∃ L' sv' wv', Me L' w0 W h t gw gc gk gs gq (3 * i) i A (T.aboT s) (updS ss k l) (updS ss k l) (fun y => (P y).filter fun e => decide (e.1 ∉ r)) (fun y => valE (C y)) kept a0 sv' wv') : Lo w0 h t gw gc gk gs gq (i + 1) tk W := by
  obtain ⟨L', sv', wv', hM⟩ := hM
  obtain ⟨-, h3, h4, h5, h6, -⟩ := hB.abo hk hl hr rfl
  exact ⟨L', sv', wv', _, C, _, _, A, a0, kept, hM.more (by omega) (by omega), h5, fun e => h6 _ _ (hK e), by omega, by omega, upd_len hlen hk (by have := hlen k hk; rw [hl, List.length_append] at this; omega)⟩
theorem lo_same (H : Me L w0 W h t gw gc gk gs gq (3 * i) i A T ss ss P (fun y => valE (C y)) kept a0 sv wv) (hB : Bk T A ss C P) (hK : tk = true → Kp T C a0 kept) (hn : T.n ≤ i) (hla : T.last ≤ i) (hlen : ∀ k, k < 3 → (ss k).length ≤ i) : Lo w0 h t gw gc gk gs gq (i + 1) tk W :=
  ⟨L, sv, wv, ss, C, P, T, A, a0, kept, H.more (by omega) (by omega), hB, hK, by omega, by omega, fun k hk => by have := hlen k hk; omega⟩
theorem lastBy_upd (s sub y n y' : Int) (P : Int → List Wt) : lastBy s (if y' = y then P y ++ [(sub, n)] else P y') = if s = sub ∧ y' = y then some n else lastBy s (P y') := by
  by_cases h : y' = y
  · subst h
    rw [if_pos rfl, lastBy_snoc]
    show (if sub = s then some n else _) = _
    by_cases h2 : sub = s
    · rw [if_pos h2, if_pos ⟨h2.symm, rfl⟩]
    · rw [if_neg h2, if_neg (fun q => h2 q.1.symm)]
  · rw [if_neg h, if_neg (fun q => h q.2)]
theorem snoc_of {l : List Int} (h : l ≠ []) : ∃ r s, l = r ++ [s] := by
  rcases List.eq_nil_or_concat l with e | ⟨r, s, e⟩
  · exact absurd e h
  · exact ⟨r, s, by rw [e, List.concat_eq_append]⟩
end

set_option maxRecDepth 100000 in
set_option maxHeartbeats 8000000 in
theorem oswitch_is {v1 s2 s3 s4 : Value} {sb so n0 cq i : Nat} {L : Nat → Lb} {w0 w : World} {h t gw gc gk gs gq : Nat} {A : Ab} {T : Tb} {ss : Nat → List Int} {C P : Int → List Wt} {kept : Int → Int} {a0 : Int} {sv wv : Nat → Value} {tk : Bool} (H : Me L w0 w h t gw gc gk gs gq (3 * i) i A T ss ss P (fun y => valE (C y)) kept a0 sv wv) (hB : Bk T A ss C P) (hK : tk = true → Kp T C a0 kept) (hn : T.n ≤ i) (hla : T.last ≤ i) (hlen : ∀ k, k < 3 → (ss k).length ≤ i) (hi : i < n0) (hn0 : n0 ≤ 80) {x : Act1} (hx : ActAt w sb so i x) {k : Nat} (hk : k < 3) {a : Act}
    (HF : Fr [.slice (some ⟨sb, so, none⟩) n0 cq, v1, s2, s3, s4, .pointer (some ⟨gw, 0, none⟩), .pointer (some ⟨gc, 0, none⟩), .pointer (some ⟨gk, 0, none⟩), .pointer (some ⟨gs, 0, none⟩), .bool tk, .pointer (some ⟨gq, 0, none⟩), .int .i64 (i : Int), .pointer (some ⟨gq, k * 3, none⟩)] a) {Q : Exit → Act → World → Prop} (hQ : ∀ a' w', Fr [.slice (some ⟨sb, so, none⟩) n0 cq, v1, s2, s3, s4, .pointer (some ⟨gw, 0, none⟩), .pointer (some ⟨gc, 0, none⟩), .pointer (some ⟨gk, 0, none⟩), .pointer (some ⟨gs, 0, none⟩), .bool tk, .pointer (some ⟨gq, 0, none⟩), .int .i64 (i : Int)] a' → Lo w0 h t gw gc gk gs gq (i + 1) tk w' → Q .normal a' w') :
    Code.wp Try.prog (nav [true, true, true, true, true, true, true, true, false, true, false, false, true, false, false, true, true, false] (Try.f3.body.getD .skip)) Q a w := by
  have q0 := H.mb.who.cell (who_top hk ss sv wv).1
  have ql := H.mb.who.lt
  have c1 := hx.kind
  have cl := hx.lt
  have ck := hx.wf.kind
  have hiz : ¬ (n0 : Int) ≤ (i : Int) := by omega
  have HM := Lib.hid H
  have HB := Lib.hid hB
  have HK := Lib.hid hK
  have HLEN := Lib.hid hlen
  have HX := Lib.hid hx
  have HQ := Lib.hid hQ
  clear H hB hK hlen hx hQ
  obtain ⟨tl, rfl, hlen⟩ := HF
  refine open_13 tl (by have h := hlen; simp only [List.length_cons, List.length_nil] at h; omega) fun x13 x14 x15 x16 x17 x18 x19 x20 x21 x22 x23 x24 x25 x26 x27 x28 x29 x30 x31 x32 x33 x34 x35 x36 x37 x38 x39 x40 x41 x42 x43 x44 x45 x46 x47 x48 x49 x50 x51 x52 x53 x54 x55 x56 x57 x58 x59 x60 x61 x62 x63 x64 x65 x66 x67 x68 x69 x70 x71 x72 x73 x74 x75 x76 x77 x78 x79 x80 x81 x82 x83 x84 x85 x86 x87 x88 x89 x90 x91 x92 x93 x94 x95 x96 x97 x98 x99 x100 x101 x102 x103 x104 x105 x106 x107 x108 x109 x110 x111 x112 x113 x114 x115 x116 x117 x118 x119 x120 x121 x122 x123 x124 x125 x126 x127 x128 x129 x130 x131 x132 x133 x134 x135 x136 x137 x138 x139 x140 x141 x142 x143 x144 x145 x146 x147 x148 x149 x150 x151 x152 x153 x154 x155 x156 x157 x158 x159 x160 x161 x162 x163 x164 x165 x166 x167 x168 x169 x170 x171 x172 x173 x174 x175 x176 x177 x178 x179 x180 x181 x182 x183 x184 x185 x186 x187 x188 x189 x190 x191 x192 x193 x194 x195 x196 x197 x198 x199 x200 x201 x202 x203 x204 x205 x206 x207 x208 x209 x210 x211 x212 x213 x214 x215 x216 x217 x218 x219 x220 x221 x222 x223 x224 x225 x226 x227 x228 x229 x230 x231 x232 x233 x234 x235 x236 x237 x238 x239 x240 x241 x242 x243 x244 x245 x246 x247 x248 x249 x250 x251 x252 x253 x254 x255 x256 x257 x258 x259 x260 x261 x262 x263 x264 x265 x266 x267 x268 x269 x270 x271 x272 x273 x274 x275 x276 x277 x278 x279 x280 x281 x282 x283 x284 x285 x286 x287 x288 x289 x290 x291 x292 x293 x294 x295 x296 x297 x298 x299 x300 x301 x302 x303 x304 x305 x306 x307 x308 x309 x310 x311 x312 x313 x314 x315 x316 x317 x318 x319 x320 x321 x322 x323 x324 x325 x326 x327 x328 x329 x330 x331 x332 x333 x334 x335 x336 x337 x338 x339 x340 x341 x342 x343 x344 x345 x346 x347 x348 x349 x350 x351 x352 x353 x354 x355 x356 x357 x358 x359 x360 x361 x362 x363 x364 x365 x366 x367 x368 x369 x370 x371 x372 x373 x374 x375 x376 x377 x378 x379 x380 x381 x382 x383 x384 x385 x386 x387 x388 x389 e => ?_
  subst e
  clear hlen
  simp only [List.cons_append, List.nil_append]
  show Code.wp Try.prog (Code.block _ _) _ _ _
  by_cases he : ss k = []
  · rw [he] at q0
    simp only [List.headD_nil] at q0
    obtain ⟨b1, b2, b3, b4, b5, b6, b7⟩ := HB.out.beg hk (.inl ⟨he, rfl⟩)
    have HBG := Lib.hid (And.intro b1 (And.intro b2 b7))
    clear b1 b2 b3 b4 b5 b6 b7
    go_upto_if 121 with fail
    refine wp_cond_true (by first | rfl | (go_simp; done)) ?_
    refine obegin_is HM.out hk (by omega) HBG.out.2.1 HBG.out.1 HBG.out.2.2 ⟨_, rfl, rfl⟩ (fun a' w' h1 h2 => ?_)
    refine HQ.out _ _ h1 (lo_begin HB.out HK.out hn hla HLEN.out hk (.inl ⟨he, rfl⟩) ?_)
    rw [he]
    exact h2
  · obtain ⟨hd, hhd⟩ : ∃ hd, (ss k).headD 0 = hd := ⟨_, rfl⟩
    rw [hhd] at q0
    have hin := HB.out.inv.headin hk he
    rw [hhd] at hin
    have hp := HB.out.pos (by omega) hk hin
    have hd0 : (hd == 0) = false := by simp; omega
    have HHD := Lib.hid hhd
    clear hhd hin
    by_cases k0 : x.kind = 0
    · rw [k0] at c1
      obtain ⟨b1, -⟩ := HB.out.com hk he rfl
      rw [HHD.out] at b1
      go_upto_if 121 with fail
      refine wp_cond_false (by first | rfl | (go_simp; done)) ?_
      go_upto_if 145 with fail
      refine wp_cond_true (by first | rfl | (go_simp; done)) ?_
      refine ocommit_is (P' := fun y => (P y).filter fun e => decide (e.1 ∉ ss k)) HM.out hk (by omega) (by omega) HHD.out hp b1 (fun j hj hne s hs y => lastBy_filter s (P y) fun e _ q => ?_) ⟨_, rfl, rfl⟩ (fun a' w' h1 h2 => ?_)
      · rw [q]
        exact decide_eq_true fun q2 => HB.out.inv.notin hj hk hne hs q2
      · rw [← HHD.out] at h2
        exact HQ.out _ _ h1 (lo_commit HB.out HK.out hn hla HLEN.out hk he h2)
    · have k0' : (x.kind == 0) = false := by simpa using k0
      by_cases k1 : x.kind = 1
      · rw [k1] at c1
        obtain ⟨b1, -, -, -, -, b2⟩ := HB.out.abo hk (l := []) (r := ss k) rfl (.inl ⟨rfl, rfl, he⟩) rfl
        rw [HHD.out] at b1
        have HB2 := Lib.hid b2
        clear b2
        go_upto_if 121 with fail
        refine wp_cond_false (by first | rfl | (go_simp; done)) ?_
        go_upto_if 145 with fail
        refine wp_cond_false (by first | rfl | (go_simp; done)) ?_
        go_upto_if 194 with fail
        refine wp_cond_true (by first | rfl | (go_simp; done)) ?_
        refine oabort_is (P' := fun y => (P y).filter fun e => decide (e.1 ∉ ss k)) HM.out hk (by omega) (by omega) HHD.out hp b1 (fun j hj hne s hs y => HB2.out j hj s (by rw [updS_ne _ _ hne]; exact hs) y) ⟨_, rfl, rfl⟩ (fun a' w' h1 h2 => ?_)
        rw [← HHD.out] at h2
        exact HQ.out _ _ h1 (lo_abort HB.out HK.out hn hla HLEN.out hk (l := []) (r := ss k) rfl (.inl ⟨rfl, rfl, he⟩) h2)
      · have k1' : (x.kind == 1) = false := by simpa using k1
        obtain ⟨l, sub, hl⟩ := snoc_of he
        have hsub := HB.out.pos (by omega) hk (s := sub) (by rw [hl]; simp)
        have hl9 : l.length + 1 ≤ i := by have := HLEN.out k hk; rw [hl] at this; simp at this; omega
        have HL := Lib.hid hl
        clear hl
        by_cases k2 : x.kind = 2
        · rw [k2] at c1
          obtain ⟨b1, b2, b3, b4, b5, b6, b7⟩ := HB.out.beg hk (p := sub) (.inr (by rw [HL.out]; simp))
          have HBG := Lib.hid (And.intro b1 (And.intro b2 b7))
          clear b1 b2 b3 b4 b5 b6 b7
          go_upto_if 121 with fail
          refine wp_cond_false (by first | rfl | (go_simp; done)) ?_
          go_upto_if 145 with fail
          refine wp_cond_false (by first | rfl | (go_simp; done)) ?_
          go_upto_if 194 with fail
          refine wp_cond_false (by first | rfl | (go_simp; done)) ?_
          go_upto_if 214 with fail
          refine wp_cond_true (by first | rfl | (go_simp; done)) (wp_seq ?_)
          refine osave46_is HM.out hk (by omega) HL.out (by omega) hsub HBG.out.2.1 HBG.out.1 ⟨_, rfl, rfl⟩ (fun y1 y2 y3 y4 y5 y6 a1 w1 h1 h2 => ?_)
          refine osaveR_is h2 hk rfl (by rw [HL.out]; simp) (by rw [HL.out]; simp; omega) HBG.out.2.2 h1 (fun a' w' h3 h4 => ?_)
          exact HQ.out _ _ h3 (lo_begin HB.out HK.out hn hla HLEN.out hk (.inr (by rw [HL.out]; simp)) h4)
        · have k2' : (x.kind == 2) = false := by simpa using k2
          by_cases k3 : x.kind = 3
          · rw [k3] at c1
            obtain ⟨b1, -, -, -, -, b2⟩ := HB.out.abo hk HL.out (.inr rfl) rfl
            have HB2 := Lib.hid b2
            clear b2
            go_upto_if 121 with fail
            refine wp_cond_false (by first | rfl | (go_simp; done)) ?_
            go_upto_if 145 with fail
            refine wp_cond_false (by first | rfl | (go_simp; done)) ?_
            go_upto_if 194 with fail
            refine wp_cond_false (by first | rfl | (go_simp; done)) ?_
            go_upto_if 214 with fail
            refine wp_cond_false (by first | rfl | (go_simp; done)) ?_
            go_upto_if 263 with fail
            refine wp_cond_true (by first | rfl | (go_simp; done)) ?_
            refine oback_is (P' := fun y => (P y).filter fun e => decide (e.1 ∉ [sub])) HM.out hk (by omega) HL.out (by omega) hsub b1 HB2.out ⟨_, rfl, rfl⟩ (fun _ a' h1 => ?_) (fun _ a' w' h1 h2 => ?_)
            · exact HQ.out _ _ h1 (lo_same HM.out HB.out HK.out hn hla HLEN.out)
            · exact HQ.out _ _ h1 (lo_abort HB.out HK.out hn hla HLEN.out hk HL.out (.inr rfl) h2)
          · have k3' : (x.kind == 3) = false := by simpa using k3
            obtain ⟨r, hr⟩ : ∃ r : Nat, x.row % 4 = (r : Int) := ⟨(x.row % 4).toNat, by omega⟩
            obtain ⟨nn, hnn⟩ : ∃ nn, (if x.n < 0 then -1 else x.n) = nn := ⟨_, rfl⟩
            obtain ⟨bb, hbb⟩ : ∃ bb, wrB T A hd ((r : Int) + 1) nn = bb := ⟨_, rfl⟩
            obtain ⟨A', hA⟩ : ∃ A', wrA T A hd sub ((r : Int) + 1) nn = A' := ⟨_, rfl⟩
            have hnr : -1 ≤ nn := by rw [← hnn]; split <;> omega
            have hr4 : r < 4 := by omega
            have hsl : sub ∉ l := fun q => by
              have hup := HB.out.inv.up k hk
              rw [HL.out] at hup
              have := (List.pairwise_append.1 hup).2.2 sub q sub (List.mem_singleton.2 rfl)
              omega
            have hs0 : ∀ j, j < 3 → j ≠ k → sub ∉ ss j := fun j hj hne q => HB.out.inv.notin hj hk hne q (by rw [HL.out]; simp)
            have HWR : Hid (A'.Ok → (bb = false ∧ Bk T A' ss C P) ∨ (bb = true ∧ Bk T A' ss C (fun y' => if y' = ((r : Int) + 1) then P ((r : Int) + 1) ++ [(sub, nn)] else P y') ∧ ∀ j, j < 3 → ∀ s ∈ ss j, ∀ y', lastBy s (if y' = ((r : Int) + 1) then P ((r : Int) + 1) ++ [(sub, nn)] else P y') = if s = sub ∧ y' = ((r : Int) + 1) then some nn else lastBy s (P y'))) := Lib.hid fun hok => by
              have hb1 := hbb
              have hA1 := hA
              rw [← HHD.out] at hb1 hA1
              exact HB.out.wr hk HL.out (by unfold Most; omega) hnr hb1 hA1 hok
            have HAX := Lib.hid (And.intro hbb (And.intro hA (And.intro hr (And.intro hnn (And.intro hsl hs0)))))
            clear hbb hA hr hnn hsl hs0
            go_upto_if 121 with fail
            refine wp_cond_false (by first | rfl | (go_simp; done)) ?_
            go_upto_if 145 with fail
            refine wp_cond_false (by first | rfl | (go_simp; done)) ?_
            go_upto_if 194 with fail
            refine wp_cond_false (by first | rfl | (go_simp; done)) ?_
            go_upto_if 214 with fail
            refine wp_cond_false (by first | rfl | (go_simp; done)) ?_
            go_upto_if 263 with fail
            refine wp_cond_false (by first | rfl | (go_simp; done)) ?_
            refine owr_is (P' := fun y' => if y' = ((r : Int) + 1) then P ((r : Int) + 1) ++ [(sub, nn)] else P y') HM.out HX.out hi (by omega) hk (by omega) (by omega) (by omega) HL.out (by omega) HHD.out hp hsub HAX.out.2.2.1 HAX.out.2.2.2.1 HAX.out.1 HAX.out.2.1 ?_ HAX.out.2.2.2.2.2 HAX.out.2.2.2.2.1 ⟨_, rfl, rfl⟩ (fun e a' w' h1 h2 => ?_) (fun e a' w' h1 h2 => ?_)
            · exact fun e j hj s hs y' => lastBy_upd s sub _ nn y' P
            · rcases HWR.out h2.duo.aok with ⟨-, q⟩ | ⟨q, -⟩
              · exact HQ.out _ _ h1 ⟨_, _, _, _, _, _, _, _, _, _, h2.more (by omega) (by omega), q, HK.out, by omega, by omega, fun j hj => by have := HLEN.out j hj; omega⟩
              · rw [e] at q; cases q
            · rcases HWR.out h2.duo.aok with ⟨q, -⟩ | ⟨-, q, -⟩
              · rw [e] at q; cases q
              · exact HQ.out _ _ h1 ⟨_, _, _, _, _, _, _, _, _, _, h2.more (by omega) (by omega), q, HK.out, by omega, by omega, fun j hj => by have := HLEN.out j hj; omega⟩


end Go.Proofs.Ytbgnbaogclnpgaa

namespace Go.Proofs.Ytbgnbaogclnpgaa
open Go.RowKit
set_option linter.unusedVariables false

theorem open_12 {C : Prop} (tl : List Value) (h : tl.length = 378) (H : ∀ x12 x13 x14 x15 x16 x17 x18 x19 x20 x21 x22 x23 x24 x25 x26 x27 x28 x29 x30 x31 x32 x33 x34 x35 x36 x37 x38 x39 x40 x41 x42 x43 x44 x45 x46 x47 x48 x49 x50 x51 x52 x53 x54 x55 x56 x57 x58 x59 x60 x61 x62 x63 x64 x65 x66 x67 x68 x69 x70 x71 x72 x73 x74 x75 x76 x77 x78 x79 x80 x81 x82 x83 x84 x85 x86 x87 x88 x89 x90 x91 x92 x93 x94 x95 x96 x97 x98 x99 x100 x101 x102 x103 x104 x105 x106 x107 x108 x109 x110 x111 x112 x113 x114 x115 x116 x117 x118 x119 x120 x121 x122 x123 x124 x125 x126 x127 x128 x129 x130 x131 x132 x133 x134 x135 x136 x137 x138 x139 x140 x141 x142 x143 x144 x145 x146 x147 x148 x149 x150 x151 x152 x153 x154 x155 x156 x157 x158 x159 x160 x161 x162 x163 x164 x165 x166 x167 x168 x169 x170 x171 x172 x173 x174 x175 x176 x177 x178 x179 x180 x181 x182 x183 x184 x185 x186 x187 x188 x189 x190 x191 x192 x193 x194 x195 x196 x197 x198 x199 x200 x201 x202 x203 x204 x205 x206 x207 x208 x209 x210 x211 x212 x213 x214 x215 x216 x217 x218 x219 x220 x221 x222 x223 x224 x225 x226 x227 x228 x229 x230 x231 x232 x233 x234 x235 x236 x237 x238 x239 x240 x241 x242 x243 x244 x245 x246 x247 x248 x249 x250 x251 x252 x253 x254 x255 x256 x257 x258 x259 x260 x261 x262 x263 x264 x265 x266 x267 x268 x269 x270 x271 x272 x273 x274 x275 x276 x277 x278 x279 x280 x281 x282 x283 x284 x285 x286 x287 x288 x289 x290 x291 x292 x293 x294 x295 x296 x297 x298 x299 x300 x301 x302 x303 x304 x305 x306 x307 x308 x309 x310 x311 x312 x313 x314 x315 x316 x317 x318 x319 x320 x321 x322 x323 x324 x325 x326 x327 x328 x329 x330 x331 x332 x333 x334 x335 x336 x337 x338 x339 x340 x341 x342 x343 x344 x345 x346 x347 x348 x349 x350 x351 x352 x353 x354 x355 x356 x357 x358 x359 x360 x361 x362 x363 x364 x365 x366 x367 x368 x369 x370 x371 x372 x373 x374 x375 x376 x377 x378 x379 x380 x381 x382 x383 x384 x385 x386 x387 x388 x389 : Value, tl = [x12, x13, x14, x15, x16, x17, x18, x19, x20, x21, x22, x23, x24, x25, x26, x27, x28, x29, x30, x31, x32, x33, x34, x35, x36, x37, x38, x39, x40, x41, x42, x43, x44, x45, x46, x47, x48, x49, x50, x51, x52, x53, x54, x55, x56, x57, x58, x59, x60, x61, x62, x63, x64, x65, x66, x67, x68, x69, x70, x71, x72, x73, x74, x75, x76, x77, x78, x79, x80, x81, x82, x83, x84, x85, x86, x87, x88, x89, x90, x91, x92, x93, x94, x95, x96, x97, x98, x99, x100, x101, x102, x103, x104, x105, x106, x107, x108, x109, x110, x111, x112, x113, x114, x115, x116, x117, x118, x119, x120, x121, x122, x123, x124, x125, x126, x127, x128, x129, x130, x131, x132, x133, x134, x135, x136, x137, x138, x139, x140, x141, x142, x143, x144, x145, x146, x147, x148, x149, x150, x151, x152, x153, x154, x155, x156, x157, x158, x159, x160, x161, x162, x163, x164, x165, x166, x167, x168, x169, x170, x171, x172, x173, x174, x175, x176, x177, x178, x179, x180, x181, x182, x183, x184, x185, x186, x187, x188, x189, x190, x191, x192, x193, x194, x195, x196, x197, x198, x199, x200, x201, x202, x203, x204, x205, x206, x207, x208, x209, x210, x211, x212, x213, x214, x215, x216, x217, x218, x219, x220, x221, x222, x223, x224, x225, x226, x227, x228, x229, x230, x231, x232, x233, x234, x235, x236, x237, x238, x239, x240, x241, x242, x243, x244, x245, x246, x247, x248, x249, x250, x251, x252, x253, x254, x255, x256, x257, x258, x259, x260, x261, x262, x263, x264, x265, x266, x267, x268, x269, x270, x271, x272, x273, x274, x275, x276, x277, x278, x279, x280, x281, x282, x283, x284, x285, x286, x287, x288, x289, x290, x291, x292, x293, x294, x295, x296, x297, x298, x299, x300, x301, x302, x303, x304, x305, x306, x307, x308, x309, x310, x311, x312, x313, x314, x315, x316, x317, x318, x319, x320, x321, x322, x323, x324, x325, x326, x327, x328, x329, x330, x331, x332, x333, x334, x335, x336, x337, x338, x339, x340, x341, x342, x343, x344, x345, x346, x347, x348, x349, x350, x351, x352, x353, x354, x355, x356, x357, x358, x359, x360, x361, x362, x363, x364, x365, x366, x367, x368, x369, x370, x371, x372, x373, x374, x375, x376, x377, x378, x379, x380, x381, x382, x383, x384, x385, x386, x387, x388, x389] → C) : C := by
  refine H (tl.getD 0 undef) (tl.getD 1 undef) (tl.getD 2 undef) (tl.getD 3 undef) (tl.getD 4 undef) (tl.getD 5 undef) (tl.getD 6 undef) (tl.getD 7 undef) (tl.getD 8 undef) (tl.getD 9 undef) (tl.getD 10 undef) (tl.getD 11 undef) (tl.getD 12 undef) (tl.getD 13 undef) (tl.getD 14 undef) (tl.getD 15 undef) (tl.getD 16 undef) (tl.getD 17 undef) (tl.getD 18 undef) (tl.getD 19 undef) (tl.getD 20 undef) (tl.getD 21 undef) (tl.getD 22 undef) (tl.getD 23 undef) (tl.getD 24 undef) (tl.getD 25 undef) (tl.getD 26 undef) (tl.getD 27 undef) (tl.getD 28 undef) (tl.getD 29 undef) (tl.getD 30 undef) (tl.getD 31 undef) (tl.getD 32 undef) (tl.getD 33 undef) (tl.getD 34 undef) (tl.getD 35 undef) (tl.getD 36 undef) (tl.getD 37 undef) (tl.getD 38 undef) (tl.getD 39 undef) (tl.getD 40 undef) (tl.getD 41 undef) (tl.getD 42 undef) (tl.getD 43 undef) (tl.getD 44 undef) (tl.getD 45 undef) (tl.getD 46 undef) (tl.getD 47 undef) (tl.getD 48 undef) (tl.getD 49 undef) (tl.getD 50 undef) (tl.getD 51 undef) (tl.getD 52 undef) (tl.getD 53 undef) (tl.getD 54 undef) (tl.getD 55 undef) (tl.getD 56 undef) (tl.getD 57 undef) (tl.getD 58 undef) (tl.getD 59 undef) (tl.getD 60 undef) (tl.getD 61 undef) (tl.getD 62 undef) (tl.getD 63 undef) (tl.getD 64 undef) (tl.getD 65 undef) (tl.getD 66 undef) (tl.getD 67 undef) (tl.getD 68 undef) (tl.getD 69 undef) (tl.getD 70 undef) (tl.getD 71 undef) (tl.getD 72 undef) (tl.getD 73 undef) (tl.getD 74 undef) (tl.getD 75 undef) (tl.getD 76 undef) (tl.getD 77 undef) (tl.getD 78 undef) (tl.getD 79 undef) (tl.getD 80 undef) (tl.getD 81 undef) (tl.getD 82 undef) (tl.getD 83 undef) (tl.getD 84 undef) (tl.getD 85 undef) (tl.getD 86 undef) (tl.getD 87 undef) (tl.getD 88 undef) (tl.getD 89 undef) (tl.getD 90 undef) (tl.getD 91 undef) (tl.getD 92 undef) (tl.getD 93 undef) (tl.getD 94 undef) (tl.getD 95 undef) (tl.getD 96 undef) (tl.getD 97 undef) (tl.getD 98 undef) (tl.getD 99 undef) (tl.getD 100 undef) (tl.getD 101 undef) (tl.getD 102 undef) (tl.getD 103 undef) (tl.getD 104 undef) (tl.getD 105 undef) (tl.getD 106 undef) (tl.getD 107 undef) (tl.getD 108 undef) (tl.getD 109 undef) (tl.getD 110 undef) (tl.getD 111 undef) (tl.getD 112 undef) (tl.getD 113 undef) (tl.getD 114 undef) (tl.getD 115 undef) (tl.getD 116 undef) (tl.getD 117 undef) (tl.getD 118 undef) (tl.getD 119 undef) (tl.getD 120 undef) (tl.getD 121 undef) (tl.getD 122 undef) (tl.getD 123 undef) (tl.getD 124 undef) (tl.getD 125 undef) (tl.getD 126 undef) (tl.getD 127 undef) (tl.getD 128 undef) (tl.getD 129 undef) (tl.getD 130 undef) (tl.getD 131 undef) (tl.getD 132 undef) (tl.getD 133 undef) (tl.getD 134 undef) (tl.getD 135 undef) (tl.getD 136 undef) (tl.getD 137 undef) (tl.getD 138 undef) (tl.getD 139 undef) (tl.getD 140 undef) (tl.getD 141 undef) (tl.getD 142 undef) (tl.getD 143 undef) (tl.getD 144 undef) (tl.getD 145 undef) (tl.getD 146 undef) (tl.getD 147 undef) (tl.getD 148 undef) (tl.getD 149 undef) (tl.getD 150 undef) (tl.getD 151 undef) (tl.getD 152 undef) (tl.getD 153 undef) (tl.getD 154 undef) (tl.getD 155 undef) (tl.getD 156 undef) (tl.getD 157 undef) (tl.getD 158 undef) (tl.getD 159 undef) (tl.getD 160 undef) (tl.getD 161 undef) (tl.getD 162 undef) (tl.getD 163 undef) (tl.getD 164 undef) (tl.getD 165 undef) (tl.getD 166 undef) (tl.getD 167 undef) (tl.getD 168 undef) (tl.getD 169 undef) (tl.getD 170 undef) (tl.getD 171 undef) (tl.getD 172 undef) (tl.getD 173 undef) (tl.getD 174 undef) (tl.getD 175 undef) (tl.getD 176 undef) (tl.getD 177 undef) (tl.getD 178 undef) (tl.getD 179 undef) (tl.getD 180 undef) (tl.getD 181 undef) (tl.getD 182 undef) (tl.getD 183 undef) (tl.getD 184 undef) (tl.getD 185 undef) (tl.getD 186 undef) (tl.getD 187 undef) (tl.getD 188 undef) (tl.getD 189 undef) (tl.getD 190 undef) (tl.getD 191 undef) (tl.getD 192 undef) (tl.getD 193 undef) (tl.getD 194 undef) (tl.getD 195 undef) (tl.getD 196 undef) (tl.getD 197 undef) (tl.getD 198 undef) (tl.getD 199 undef) (tl.getD 200 undef) (tl.getD 201 undef) (tl.getD 202 undef) (tl.getD 203 undef) (tl.getD 204 undef) (tl.getD 205 undef) (tl.getD 206 undef) (tl.getD 207 undef) (tl.getD 208 undef) (tl.getD 209 undef) (tl.getD 210 undef) (tl.getD 211 undef) (tl.getD 212 undef) (tl.getD 213 undef) (tl.getD 214 undef) (tl.getD 215 undef) (tl.getD 216 undef) (tl.getD 217 undef) (tl.getD 218 undef) (tl.getD 219 undef) (tl.getD 220 undef) (tl.getD 221 undef) (tl.getD 222 undef) (tl.getD 223 undef) (tl.getD 224 undef) (tl.getD 225 undef) (tl.getD 226 undef) (tl.getD 227 undef) (tl.getD 228 undef) (tl.getD 229 undef) (tl.getD 230 undef) (tl.getD 231 undef) (tl.getD 232 undef) (tl.getD 233 undef) (tl.getD 234 undef) (tl.getD 235 undef) (tl.getD 236 undef) (tl.getD 237 undef) (tl.getD 238 undef) (tl.getD 239 undef) (tl.getD 240 undef) (tl.getD 241 undef) (tl.getD 242 undef) (tl.getD 243 undef) (tl.getD 244 undef) (tl.getD 245 undef) (tl.getD 246 undef) (tl.getD 247 undef) (tl.getD 248 undef) (tl.getD 249 undef) (tl.getD 250 undef) (tl.getD 251 undef) (tl.getD 252 undef) (tl.getD 253 undef) (tl.getD 254 undef) (tl.getD 255 undef) (tl.getD 256 undef) (tl.getD 257 undef) (tl.getD 258 undef) (tl.getD 259 undef) (tl.getD 260 undef) (tl.getD 261 undef) (tl.getD 262 undef) (tl.getD 263 undef) (tl.getD 264 undef) (tl.getD 265 undef) (tl.getD 266 undef) (tl.getD 267 undef) (tl.getD 268 undef) (tl.getD 269 undef) (tl.getD 270 undef) (tl.getD 271 undef) (tl.getD 272 undef) (tl.getD 273 undef) (tl.getD 274 undef) (tl.getD 275 undef) (tl.getD 276 undef) (tl.getD 277 undef) (tl.getD 278 undef) (tl.getD 279 undef) (tl.getD 280 undef) (tl.getD 281 undef) (tl.getD 282 undef) (tl.getD 283 undef) (tl.getD 284 undef) (tl.getD 285 undef) (tl.getD 286 undef) (tl.getD 287 undef) (tl.getD 288 undef) (tl.getD 289 undef) (tl.getD 290 undef) (tl.getD 291 undef) (tl.getD 292 undef) (tl.getD 293 undef) (tl.getD 294 undef) (tl.getD 295 undef) (tl.getD 296 undef) (tl.getD 297 undef) (tl.getD 298 undef) (tl.getD 299 undef) (tl.getD 300 undef) (tl.getD 301 undef) (tl.getD 302 undef) (tl.getD 303 undef) (tl.getD 304 undef) (tl.getD 305 undef) (tl.getD 306 undef) (tl.getD 307 undef) (tl.getD 308 undef) (tl.getD 309 undef) (tl.getD 310 undef) (tl.getD 311 undef) (tl.getD 312 undef) (tl.getD 313 undef) (tl.getD 314 undef) (tl.getD 315 undef) (tl.getD 316 undef) (tl.getD 317 undef) (tl.getD 318 undef) (tl.getD 319 undef) (tl.getD 320 undef) (tl.getD 321 undef) (tl.getD 322 undef) (tl.getD 323 undef) (tl.getD 324 undef) (tl.getD 325 undef) (tl.getD 326 undef) (tl.getD 327 undef) (tl.getD 328 undef) (tl.getD 329 undef) (tl.getD 330 undef) (tl.getD 331 undef) (tl.getD 332 undef) (tl.getD 333 undef) (tl.getD 334 undef) (tl.getD 335 undef) (tl.getD 336 undef) (tl.getD 337 undef) (tl.getD 338 undef) (tl.getD 339 undef) (tl.getD 340 undef) (tl.getD 341 undef) (tl.getD 342 undef) (tl.getD 343 undef) (tl.getD 344 undef) (tl.getD 345 undef) (tl.getD 346 undef) (tl.getD 347 undef) (tl.getD 348 undef) (tl.getD 349 undef) (tl.getD 350 undef) (tl.getD 351 undef) (tl.getD 352 undef) (tl.getD 353 undef) (tl.getD 354 undef) (tl.getD 355 undef) (tl.getD 356 undef) (tl.getD 357 undef) (tl.getD 358 undef) (tl.getD 359 undef) (tl.getD 360 undef) (tl.getD 361 undef) (tl.getD 362 undef) (tl.getD 363 undef) (tl.getD 364 undef) (tl.getD 365 undef) (tl.getD 366 undef) (tl.getD 367 undef) (tl.getD 368 undef) (tl.getD 369 undef) (tl.getD 370 undef) (tl.getD 371 undef) (tl.getD 372 undef) (tl.getD 373 undef) (tl.getD 374 undef) (tl.getD 375 undef) (tl.getD 376 undef) (tl.getD 377 undef) ?_
  refine (list_ran h).trans ?_
  kernel_rfl
set_option maxRecDepth 100000 in
set_option maxHeartbeats 8000000 in
theorem oat_is {v1 s2 s3 s4 : Value} {sb so n0 cq i : Nat} {tk : Bool} {w : World} {gw gc gk gs gq : Nat} (hi : i < n0) (hn0 : n0 ≤ 80) {x : Act1} (hx : ActAt w sb so i x) {k : Nat} (hk : x.who % 3 = (k : Int)) (hk3 : k < 3) {a : Act}
    (HF : Fr [.slice (some ⟨sb, so, none⟩) n0 cq, v1, s2, s3, s4, .pointer (some ⟨gw, 0, none⟩), .pointer (some ⟨gc, 0, none⟩), .pointer (some ⟨gk, 0, none⟩), .pointer (some ⟨gs, 0, none⟩), .bool tk, .pointer (some ⟨gq, 0, none⟩), .int .i64 (i : Int)] a) {Q : Exit → Act → World → Prop} (hQ : ∀ a', Fr [.slice (some ⟨sb, so, none⟩) n0 cq, v1, s2, s3, s4, .pointer (some ⟨gw, 0, none⟩), .pointer (some ⟨gc, 0, none⟩), .pointer (some ⟨gk, 0, none⟩), .pointer (some ⟨gs, 0, none⟩), .bool tk, .pointer (some ⟨gq, 0, none⟩), .int .i64 (i : Int), .pointer (some ⟨gq, k * 3, none⟩)] a' → Q .normal a' w) :
    Code.wp Try.prog (nav [true, true, true, true, true, true, true, true, false, true, false, false, true, false, false, true, false] (Try.f3.body.getD .skip)) Q a w := by
  have c0 := hx.who
  have cl := hx.lt
  have cw := hx.wf.who
  have hiz : ¬ (n0 : Int) ≤ (i : Int) := by omega
  have hkz : ¬ (3 : Int) ≤ (k : Int) := by omega
  have HQ := Lib.hid hQ
  clear hx hQ
  obtain ⟨tl, rfl, hlen⟩ := HF
  refine open_12 tl (by have h := hlen; simp only [List.length_cons, List.length_nil] at h; omega) fun x12 x13 x14 x15 x16 x17 x18 x19 x20 x21 x22 x23 x24 x25 x26 x27 x28 x29 x30 x31 x32 x33 x34 x35 x36 x37 x38 x39 x40 x41 x42 x43 x44 x45 x46 x47 x48 x49 x50 x51 x52 x53 x54 x55 x56 x57 x58 x59 x60 x61 x62 x63 x64 x65 x66 x67 x68 x69 x70 x71 x72 x73 x74 x75 x76 x77 x78 x79 x80 x81 x82 x83 x84 x85 x86 x87 x88 x89 x90 x91 x92 x93 x94 x95 x96 x97 x98 x99 x100 x101 x102 x103 x104 x105 x106 x107 x108 x109 x110 x111 x112 x113 x114 x115 x116 x117 x118 x119 x120 x121 x122 x123 x124 x125 x126 x127 x128 x129 x130 x131 x132 x133 x134 x135 x136 x137 x138 x139 x140 x141 x142 x143 x144 x145 x146 x147 x148 x149 x150 x151 x152 x153 x154 x155 x156 x157 x158 x159 x160 x161 x162 x163 x164 x165 x166 x167 x168 x169 x170 x171 x172 x173 x174 x175 x176 x177 x178 x179 x180 x181 x182 x183 x184 x185 x186 x187 x188 x189 x190 x191 x192 x193 x194 x195 x196 x197 x198 x199 x200 x201 x202 x203 x204 x205 x206 x207 x208 x209 x210 x211 x212 x213 x214 x215 x216 x217 x218 x219 x220 x221 x222 x223 x224 x225 x226 x227 x228 x229 x230 x231 x232 x233 x234 x235 x236 x237 x238 x239 x240 x241 x242 x243 x244 x245 x246 x247 x248 x249 x250 x251 x252 x253 x254 x255 x256 x257 x258 x259 x260 x261 x262 x263 x264 x265 x266 x267 x268 x269 x270 x271 x272 x273 x274 x275 x276 x277 x278 x279 x280 x281 x282 x283 x284 x285 x286 x287 x288 x289 x290 x291 x292 x293 x294 x295 x296 x297 x298 x299 x300 x301 x302 x303 x304 x305 x306 x307 x308 x309 x310 x311 x312 x313 x314 x315 x316 x317 x318 x319 x320 x321 x322 x323 x324 x325 x326 x327 x328 x329 x330 x331 x332 x333 x334 x335 x336 x337 x338 x339 x340 x341 x342 x343 x344 x345 x346 x347 x348 x349 x350 x351 x352 x353 x354 x355 x356 x357 x358 x359 x360 x361 x362 x363 x364 x365 x366 x367 x368 x369 x370 x371 x372 x373 x374 x375 x376 x377 x378 x379 x380 x381 x382 x383 x384 x385 x386 x387 x388 x389 e => ?_
  subst e
  clear hlen
  simp only [List.cons_append, List.nil_append]
  show Code.wp Try.prog (Code.region _ _ _) _ _ _
  go_wp2_with fail
  exact HQ.out _ ⟨_, rfl, rfl⟩

set_option maxRecDepth 100000 in
set_option maxHeartbeats 8000000 in
theorem ohead_is {s2 s3 s4 : Value} {sb so n0 cq i : Nat} {tk : Bool} {wh : Int} (hwh : I64 wh) {w0 w : World} {h t gw gc gk gs gq : Nat} (H : Lo w0 h t gw gc gk gs gq i tk w) (hi : i < n0) (hn0 : n0 ≤ 80) {a : Act}
    (HF : Fr [.slice (some ⟨sb, so, none⟩) n0 cq, .int .i64 wh, s2, s3, s4, .pointer (some ⟨gw, 0, none⟩), .pointer (some ⟨gc, 0, none⟩), .pointer (some ⟨gk, 0, none⟩), .pointer (some ⟨gs, 0, none⟩), .bool tk, .pointer (some ⟨gq, 0, none⟩), .int .i64 (i : Int)] a) {Q : Exit → Act → World → Prop} (hQ : ∀ tk' a' w', Fr [.slice (some ⟨sb, so, none⟩) n0 cq, .int .i64 wh, s2, s3, s4, .pointer (some ⟨gw, 0, none⟩), .pointer (some ⟨gc, 0, none⟩), .pointer (some ⟨gk, 0, none⟩), .pointer (some ⟨gs, 0, none⟩), .bool tk', .pointer (some ⟨gq, 0, none⟩), .int .i64 (i : Int)] a' → Lo w0 h t gw gc gk gs gq i tk' w' → Q .normal a' w') :
    Code.wp Try.prog (nav [true, true, true, true, true, true, true, true, false, true, false, false, true, false, false, false] (Try.f3.body.getD .skip)) Q a w := by
  obtain ⟨L, sv, wv, ss, C, P, T, A, a0, kept, hM, hB, hK, hn, hla, hlen⟩ := H
  have HM := Lib.hid hM
  have HQ := Lib.hid hQ
  have HB := Lib.hid hB
  have HK := Lib.hid hK
  have HLEN := Lib.hid hlen
  have q1 := hM.mb.wri.cell (o := 1) rfl
  have ql := hM.mb.wri.lt
  obtain ⟨la, hlae⟩ : ∃ la : Int, (T.last : Int) = la := ⟨_, rfl⟩
  have hcon := duo_now hM.duo (by omega) 0 la hlae
  have HCON := Lib.hid hcon
  have HLA := Lib.hid hlae
  clear hM hQ hB hK hlen hcon hlae
  obtain ⟨tl, rfl, hlen⟩ := HF
  refine open_12 tl (by have h := hlen; simp only [List.length_cons, List.length_nil] at h; omega) fun x12 x13 x14 x15 x16 x17 x18 x19 x20 x21 x22 x23 x24 x25 x26 x27 x28 x29 x30 x31 x32 x33 x34 x35 x36 x37 x38 x39 x40 x41 x42 x43 x44 x45 x46 x47 x48 x49 x50 x51 x52 x53 x54 x55 x56 x57 x58 x59 x60 x61 x62 x63 x64 x65 x66 x67 x68 x69 x70 x71 x72 x73 x74 x75 x76 x77 x78 x79 x80 x81 x82 x83 x84 x85 x86 x87 x88 x89 x90 x91 x92 x93 x94 x95 x96 x97 x98 x99 x100 x101 x102 x103 x104 x105 x106 x107 x108 x109 x110 x111 x112 x113 x114 x115 x116 x117 x118 x119 x120 x121 x122 x123 x124 x125 x126 x127 x128 x129 x130 x131 x132 x133 x134 x135 x136 x137 x138 x139 x140 x141 x142 x143 x144 x145 x146 x147 x148 x149 x150 x151 x152 x153 x154 x155 x156 x157 x158 x159 x160 x161 x162 x163 x164 x165 x166 x167 x168 x169 x170 x171 x172 x173 x174 x175 x176 x177 x178 x179 x180 x181 x182 x183 x184 x185 x186 x187 x188 x189 x190 x191 x192 x193 x194 x195 x196 x197 x198 x199 x200 x201 x202 x203 x204 x205 x206 x207 x208 x209 x210 x211 x212 x213 x214 x215 x216 x217 x218 x219 x220 x221 x222 x223 x224 x225 x226 x227 x228 x229 x230 x231 x232 x233 x234 x235 x236 x237 x238 x239 x240 x241 x242 x243 x244 x245 x246 x247 x248 x249 x250 x251 x252 x253 x254 x255 x256 x257 x258 x259 x260 x261 x262 x263 x264 x265 x266 x267 x268 x269 x270 x271 x272 x273 x274 x275 x276 x277 x278 x279 x280 x281 x282 x283 x284 x285 x286 x287 x288 x289 x290 x291 x292 x293 x294 x295 x296 x297 x298 x299 x300 x301 x302 x303 x304 x305 x306 x307 x308 x309 x310 x311 x312 x313 x314 x315 x316 x317 x318 x319 x320 x321 x322 x323 x324 x325 x326 x327 x328 x329 x330 x331 x332 x333 x334 x335 x336 x337 x338 x339 x340 x341 x342 x343 x344 x345 x346 x347 x348 x349 x350 x351 x352 x353 x354 x355 x356 x357 x358 x359 x360 x361 x362 x363 x364 x365 x366 x367 x368 x369 x370 x371 x372 x373 x374 x375 x376 x377 x378 x379 x380 x381 x382 x383 x384 x385 x386 x387 x388 x389 e => ?_
  subst e
  clear hlen
  simp only [List.cons_append, List.nil_append]
  show Code.wp Try.prog (Code.seq _ _) _ _ _
  go_upto_if 57 with fail
  refine wp_cond_split (t := _) rfl (fun ht => ?_) (fun hf => ?_)
  · clear ht
    go_wp2_with fail
    refine HCON.out.mono ?_
    rintro e w1 ⟨rfl, hb1⟩
    have hm1 := HM.out.below hb1
    have HM2 := Lib.hid (hm1.snap la)
    have s0 := hm1.mb.snp.cell (o := 0) rfl
    have s1 := hm1.mb.snp.cell (o := 1) rfl
    have sf0 := hm1.mb.snp.fz 0
    have sf1 := hm1.mb.snp.fz 1
    have sl := hm1.mb.snp.lt
    clear hb1 HCON hm1 HM q1 ql
    go_upto_region 14 with (fail)
    obtain ⟨w2, hw2⟩ : ∃ x, (w1.setCell ⟨gs, 0, none⟩ (.int .i64 la)).setCell ⟨gs, 1, none⟩ (.int .i64 0) = x := ⟨_, rfl⟩
    rw [hw2] at HM2
    try rw [hw2]
    clear hw2 s0 s1 sf0 sf1 sl
    have HM3 := Lib.hid HM2.out.keep
    have c0 := HM2.out.mb.com.cell (o := 0) rfl
    have c1 := HM2.out.mb.com.cell (o := 1) rfl
    have c2 := HM2.out.mb.com.cell (o := 2) rfl
    have c3 := HM2.out.mb.com.cell (o := 3) rfl
    have cl := HM2.out.mb.com.lt
    have k0 := HM2.out.mb.kep.cell (o := 0) rfl
    have k1 := HM2.out.mb.kep.cell (o := 1) rfl
    have k2 := HM2.out.mb.kep.cell (o := 2) rfl
    have k3 := HM2.out.mb.kep.cell (o := 3) rfl
    have f0 := HM2.out.mb.kep.fz 0
    have f1 := HM2.out.mb.kep.fz 1
    have f2 := HM2.out.mb.kep.fz 2
    have f3 := HM2.out.mb.kep.fz 3
    have kl := HM2.out.mb.kep.lt
    go_wp2_with fail
    refine HQ.out true _ _ ⟨_, rfl, rfl⟩ ⟨_, _, _, _, C, P, T, A, la, _, HM3.out, HB.out, fun _ => ?_, hn, hla, HLEN.out⟩
    rw [← HLA.out]
    exact Kp.now HB.out
  · clear hf
    go_wp2_with fail
    exact HQ.out tk _ _ ⟨_, rfl, rfl⟩ ⟨_, _, _, _, C, P, T, A, a0, _, HM.out, HB.out, HK.out, hn, hla, HLEN.out⟩


end Go.Proofs.Ytbgnbaogclnpgaa

namespace Go.Proofs.Ytbgnbaogclnpgaa
open Go.RowKit
set_option linter.unusedVariables false

set_option maxRecDepth 100000 in
set_option maxHeartbeats 8000000 in
theorem oround_is {s2 s3 s4 : Value} {sb so n0 cq i : Nat} {tk : Bool} {wh : Int} (hwh : I64 wh) {w0 w : World} {h t gw gc gk gs gq : Nat} (H : Lo w0 h t gw gc gk gs gq i tk w) (hi : i < n0) (hn0 : n0 ≤ 80) {x : Act1} (hx : ∀ W, Below w0.heap.size w0 W → ActAt W sb so i x) {a : Act}
    (HF : Fr [.slice (some ⟨sb, so, none⟩) n0 cq, .int .i64 wh, s2, s3, s4, .pointer (some ⟨gw, 0, none⟩), .pointer (some ⟨gc, 0, none⟩), .pointer (some ⟨gk, 0, none⟩), .pointer (some ⟨gs, 0, none⟩), .bool tk, .pointer (some ⟨gq, 0, none⟩), .int .i64 (i : Int)] a) {Q : Exit → Act → World → Prop} (hQ : ∀ tk' a' w', Fr [.slice (some ⟨sb, so, none⟩) n0 cq, .int .i64 wh, s2, s3, s4, .pointer (some ⟨gw, 0, none⟩), .pointer (some ⟨gc, 0, none⟩), .pointer (some ⟨gk, 0, none⟩), .pointer (some ⟨gs, 0, none⟩), .bool tk', .pointer (some ⟨gq, 0, none⟩), .int .i64 (i : Int)] a' → Lo w0 h t gw gc gk gs gq (i + 1) tk' w' → Q .normal a' w') :
    Code.wp Try.prog (nav [true, true, true, true, true, true, true, true, false, true, false, false, true, false] (Try.f3.body.getD .skip)) Q a w := by
  have hbel : ∀ {tk : Bool} {W : World}, Lo w0 h t gw gc gk gs gq i tk W → Below w0.heap.size w0 W := fun HL => by
    obtain ⟨L, sv, wv, ss, C, P, T, A, a0, kept, hM, -⟩ := HL
    exact hM.duo.bel
  have HQ := Lib.hid hQ
  have HX := Lib.hid hx
  clear hQ hx
  show Code.wp Try.prog (Code.block _ _) _ _ _
  refine wp_block (wp_seq ?_)
  refine ohead_is hwh H hi hn0 HF (fun tk' a1 w1 h1 l1 => ?_)
  clear H HF
  refine wp_seq ?_
  have hx1 := HX.out _ (hbel l1)
  have hwho := hx1.wf.who
  obtain ⟨k, hk⟩ : ∃ k : Nat, x.who % 3 = (k : Int) := ⟨(x.who % 3).toNat, by omega⟩
  have hk3 : k < 3 := by omega
  refine oat_is hi hn0 hx1 hk hk3 h1 (fun a2 h2 => ?_)
  clear h1
  refine wp_seq ?_
  obtain ⟨L, sv, wv, ss, C, P, T, A, a0, kept, hM, hB, hK, hn, hla, hlen⟩ := l1
  refine oswitch_is hM hB hK hn hla hlen hi hn0 hx1 hk3 h2 (fun a3 w3 HF l3 => ?_)
  clear hM hB hK hn hla hlen hx1 h2 hwho hk
  have L3 := Lib.hid l3
  obtain ⟨L, sv, wv, ss, C, P, T, A, a0, kept, hM, hB, hK, hn, hla, hlen⟩ := l3
  obtain ⟨tl, rfl, hlen⟩ := HF
  refine open_12 tl (by have h := hlen; simp only [List.length_cons, List.length_nil] at h; omega) fun x12 x13 x14 x15 x16 x17 x18 x19 x20 x21 x22 x23 x24 x25 x26 x27 x28 x29 x30 x31 x32 x33 x34 x35 x36 x37 x38 x39 x40 x41 x42 x43 x44 x45 x46 x47 x48 x49 x50 x51 x52 x53 x54 x55 x56 x57 x58 x59 x60 x61 x62 x63 x64 x65 x66 x67 x68 x69 x70 x71 x72 x73 x74 x75 x76 x77 x78 x79 x80 x81 x82 x83 x84 x85 x86 x87 x88 x89 x90 x91 x92 x93 x94 x95 x96 x97 x98 x99 x100 x101 x102 x103 x104 x105 x106 x107 x108 x109 x110 x111 x112 x113 x114 x115 x116 x117 x118 x119 x120 x121 x122 x123 x124 x125 x126 x127 x128 x129 x130 x131 x132 x133 x134 x135 x136 x137 x138 x139 x140 x141 x142 x143 x144 x145 x146 x147 x148 x149 x150 x151 x152 x153 x154 x155 x156 x157 x158 x159 x160 x161 x162 x163 x164 x165 x166 x167 x168 x169 x170 x171 x172 x173 x174 x175 x176 x177 x178 x179 x180 x181 x182 x183 x184 x185 x186 x187 x188 x189 x190 x191 x192 x193 x194 x195 x196 x197 x198 x199 x200 x201 x202 x203 x204 x205 x206 x207 x208 x209 x210 x211 x212 x213 x214 x215 x216 x217 x218 x219 x220 x221 x222 x223 x224 x225 x226 x227 x228 x229 x230 x231 x232 x233 x234 x235 x236 x237 x238 x239 x240 x241 x242 x243 x244 x245 x246 x247 x248 x249 x250 x251 x252 x253 x254 x255 x256 x257 x258 x259 x260 x261 x262 x263 x264 x265 x266 x267 x268 x269 x270 x271 x272 x273 x274 x275 x276 x277 x278 x279 x280 x281 x282 x283 x284 x285 x286 x287 x288 x289 x290 x291 x292 x293 x294 x295 x296 x297 x298 x299 x300 x301 x302 x303 x304 x305 x306 x307 x308 x309 x310 x311 x312 x313 x314 x315 x316 x317 x318 x319 x320 x321 x322 x323 x324 x325 x326 x327 x328 x329 x330 x331 x332 x333 x334 x335 x336 x337 x338 x339 x340 x341 x342 x343 x344 x345 x346 x347 x348 x349 x350 x351 x352 x353 x354 x355 x356 x357 x358 x359 x360 x361 x362 x363 x364 x365 x366 x367 x368 x369 x370 x371 x372 x373 x374 x375 x376 x377 x378 x379 x380 x381 x382 x383 x384 x385 x386 x387 x388 x389 e => ?_
  subst e
  clear hlen
  simp only [List.cons_append, List.nil_append]
  show Code.wp Try.prog (Code.seq _ _) _ _ _
  refine check_is hM (by omega) (by omega) hB.inv.one (fun k hk hs => hB.pos (by omega) hk (hB.inv.headin hk hs)) (fun y k hk hs => hB.see hk hs y) (fun y => hB.now y) (fun e y => Kp.at hB (hK e) y) ⟨_, rfl, rfl⟩ (fun a4 w4 h4 hb => ?_)
  obtain ⟨tl, rfl, hl⟩ := h4
  exact HQ.out tk' _ _ ⟨[x12, x13, x14, x15, x16, x17, x18, x19, x20, x21, x22, x23] ++ tl, rfl, by simp at hl ⊢; omega⟩ (lo_below L3.out hb)

/-- A list of acts, in memory. -/
structure SlA (W : World) (a : Option Addr) (c : Nat) (l : List Act1) : Prop where
  lc : l.length ≤ c
  cm : c ≤ maxLen
  at' : l ≠ [] → ∃ b o, a = some ⟨b, o, none⟩ ∧ b < W.heap.size ∧ ∀ (i : Nat) s, l[i]? = some s → W.cell? ⟨b, o + i * 4, none⟩ = some (.int .u8 s.who) ∧ W.cell? ⟨b, o + i * 4 + 1, none⟩ = some (.int .u8 s.kind) ∧ W.cell? ⟨b, o + i * 4 + 2, none⟩ = some (.int .u8 s.row) ∧ W.cell? ⟨b, o + i * 4 + 3, none⟩ = some (.int .i8 s.n)
  wf : ∀ s ∈ l, s.wf
theorem sla_at {w0 : World} {a : Option Addr} {c n i : Nat} {l : List Act1} (hs : SlA w0 a c l) (hn : l.length = n) (hi : i < n) : ∃ x b o, a = some ⟨b, o, none⟩ ∧ ∀ W, Below w0.heap.size w0 W → ActAt W b o i x := by
  subst hn
  have h1 : l[i]? = some l[i] := List.getElem?_eq_getElem hi
  obtain ⟨b, o, ea, hl, hx⟩ := hs.at' (by rintro rfl; simp at hi)
  obtain ⟨x0, x1, x2, x3⟩ := hx i _ h1
  exact ⟨l[i], b, o, ea, fun W hb => ⟨Nat.lt_of_lt_of_le hl hb.size, (hb.cell hl).trans x0, (hb.cell hl).trans x1, (hb.cell hl).trans x2, (hb.cell hl).trans x3, hs.wf _ (List.getElem_mem hi)⟩⟩

set_option maxRecDepth 100000 in
set_option maxHeartbeats 8000000 in
theorem oloop_is {s2 s3 s4 : Value} {aq : Option Addr} {n0 cq : Nat} {wh : Int} (hwh : I64 wh) {w0 w : World} {h t gw gc gk gs gq : Nat} {l0 : List Act1} (hs : SlA w0 aq cq l0) (hl0 : l0.length = n0) (H : Lo w0 h t gw gc gk gs gq 0 false w) (hn0 : n0 ≤ 80) {a : Act}
    (HF : Fr [.slice aq n0 cq, .int .i64 wh, s2, s3, s4, .pointer (some ⟨gw, 0, none⟩), .pointer (some ⟨gc, 0, none⟩), .pointer (some ⟨gk, 0, none⟩), .pointer (some ⟨gs, 0, none⟩), .bool false, .pointer (some ⟨gq, 0, none⟩), .int .i64 0] a) {Q : Exit → Act → World → Prop} (hQ : ∀ tk a' w', Fr [.slice aq n0 cq, .int .i64 wh, s2, s3, s4, .pointer (some ⟨gw, 0, none⟩), .pointer (some ⟨gc, 0, none⟩), .pointer (some ⟨gk, 0, none⟩), .pointer (some ⟨gs, 0, none⟩), .bool tk, .pointer (some ⟨gq, 0, none⟩), .int .i64 (n0 : Int)] a' → Below w0.heap.size w0 w' → Q .normal a' w') :
    Code.wp Try.prog (nav [true, true, true, true, true, true, true, true, false, true] (Try.f3.body.getD .skip)) Q a w := by
  have HQ := Lib.hid hQ
  have HS := Lib.hid hs
  have HL := Lib.hid hl0
  clear hQ hs hl0
  show Code.wp Try.prog (Code.block _ (Code.loop _)) _ _ _
  refine wp_block (wp_loop_ghost_k (fun g a' w' => ∃ (i : Nat) (tk : Bool), i ≤ n0 ∧ n0 - i ≤ g ∧ Fr [.slice aq n0 cq, .int .i64 wh, s2, s3, s4, .pointer (some ⟨gw, 0, none⟩), .pointer (some ⟨gc, 0, none⟩), .pointer (some ⟨gk, 0, none⟩), .pointer (some ⟨gs, 0, none⟩), .bool tk, .pointer (some ⟨gq, 0, none⟩), .int .i64 (i : Int)] a' ∧ Lo w0 h t gw gc gk gs gq i tk w') n0 ⟨0, false, by omega, by omega, HF, H⟩ ?_)
  clear HF H a
  rintro g a w1 ⟨i, tk, hin, hg, HF, hlo⟩ J K hJ hK
  have HLO := Lib.hid hlo
  have HJ := Lib.hid hJ
  have HK := Lib.hid hK
  have HG := Lib.hid hg
  clear hlo hJ hK hg
  obtain ⟨tl, rfl, hlen⟩ := HF
  refine open_12 tl (by have h := hlen; simp only [List.length_cons, List.length_nil] at h; omega) fun x12 x13 x14 x15 x16 x17 x18 x19 x20 x21 x22 x23 x24 x25 x26 x27 x28 x29 x30 x31 x32 x33 x34 x35 x36 x37 x38 x39 x40 x41 x42 x43 x44 x45 x46 x47 x48 x49 x50 x51 x52 x53 x54 x55 x56 x57 x58 x59 x60 x61 x62 x63 x64 x65 x66 x67 x68 x69 x70 x71 x72 x73 x74 x75 x76 x77 x78 x79 x80 x81 x82 x83 x84 x85 x86 x87 x88 x89 x90 x91 x92 x93 x94 x95 x96 x97 x98 x99 x100 x101 x102 x103 x104 x105 x106 x107 x108 x109 x110 x111 x112 x113 x114 x115 x116 x117 x118 x119 x120 x121 x122 x123 x124 x125 x126 x127 x128 x129 x130 x131 x132 x133 x134 x135 x136 x137 x138 x139 x140 x141 x142 x143 x144 x145 x146 x147 x148 x149 x150 x151 x152 x153 x154 x155 x156 x157 x158 x159 x160 x161 x162 x163 x164 x165 x166 x167 x168 x169 x170 x171 x172 x173 x174 x175 x176 x177 x178 x179 x180 x181 x182 x183 x184 x185 x186 x187 x188 x189 x190 x191 x192 x193 x194 x195 x196 x197 x198 x199 x200 x201 x202 x203 x204 x205 x206 x207 x208 x209 x210 x211 x212 x213 x214 x215 x216 x217 x218 x219 x220 x221 x222 x223 x224 x225 x226 x227 x228 x229 x230 x231 x232 x233 x234 x235 x236 x237 x238 x239 x240 x241 x242 x243 x244 x245 x246 x247 x248 x249 x250 x251 x252 x253 x254 x255 x256 x257 x258 x259 x260 x261 x262 x263 x264 x265 x266 x267 x268 x269 x270 x271 x272 x273 x274 x275 x276 x277 x278 x279 x280 x281 x282 x283 x284 x285 x286 x287 x288 x289 x290 x291 x292 x293 x294 x295 x296 x297 x298 x299 x300 x301 x302 x303 x304 x305 x306 x307 x308 x309 x310 x311 x312 x313 x314 x315 x316 x317 x318 x319 x320 x321 x322 x323 x324 x325 x326 x327 x328 x329 x330 x331 x332 x333 x334 x335 x336 x337 x338 x339 x340 x341 x342 x343 x344 x345 x346 x347 x348 x349 x350 x351 x352 x353 x354 x355 x356 x357 x358 x359 x360 x361 x362 x363 x364 x365 x366 x367 x368 x369 x370 x371 x372 x373 x374 x375 x376 x377 x378 x379 x380 x381 x382 x383 x384 x385 x386 x387 x388 x389 e => ?_
  subst e
  clear hlen
  simp only [List.cons_append, List.nil_append]
  show Code.wp Try.prog (Code.seq _ _) _ _ _
  by_cases hlt : i < n0
  · have hltz : (i : Int) < (n0 : Int) := by omega
    obtain ⟨x, sb, so, rfl, hx⟩ := sla_at HS.out HL.out hlt
    have HX := Lib.hid hx
    clear hx
    go_upto_block 1 with fail
    refine wp_mono (oround_is (Q := fun e a' w' => e = .normal ∧ ∃ tk', Fr [.slice (some ⟨sb, so, none⟩) n0 cq, .int .i64 wh, s2, s3, s4, .pointer (some ⟨gw, 0, none⟩), .pointer (some ⟨gc, 0, none⟩), .pointer (some ⟨gk, 0, none⟩), .pointer (some ⟨gs, 0, none⟩), .bool tk', .pointer (some ⟨gq, 0, none⟩), .int .i64 (i : Int)] a' ∧ Lo w0 h t gw gc gk gs gq (i + 1) tk' w') hwh HLO.out hlt hn0 HX.out ⟨_, rfl, rfl⟩ (fun tk' a' w' h1 h2 => ⟨rfl, tk', h1, h2⟩)) ?_
    rintro e a' w' ⟨rfl, tk', HF, l2⟩
    have HL2 := Lib.hid l2
    rename_i K2 hK2
    refine hK2 _ _ ?_
    clear hK2 K2 l2
    obtain ⟨tl, rfl, hlen⟩ := HF
    refine open_12 tl (by have h := hlen; simp only [List.length_cons, List.length_nil] at h; omega) fun x12 x13 x14 x15 x16 x17 x18 x19 x20 x21 x22 x23 x24 x25 x26 x27 x28 x29 x30 x31 x32 x33 x34 x35 x36 x37 x38 x39 x40 x41 x42 x43 x44 x45 x46 x47 x48 x49 x50 x51 x52 x53 x54 x55 x56 x57 x58 x59 x60 x61 x62 x63 x64 x65 x66 x67 x68 x69 x70 x71 x72 x73 x74 x75 x76 x77 x78 x79 x80 x81 x82 x83 x84 x85 x86 x87 x88 x89 x90 x91 x92 x93 x94 x95 x96 x97 x98 x99 x100 x101 x102 x103 x104 x105 x106 x107 x108 x109 x110 x111 x112 x113 x114 x115 x116 x117 x118 x119 x120 x121 x122 x123 x124 x125 x126 x127 x128 x129 x130 x131 x132 x133 x134 x135 x136 x137 x138 x139 x140 x141 x142 x143 x144 x145 x146 x147 x148 x149 x150 x151 x152 x153 x154 x155 x156 x157 x158 x159 x160 x161 x162 x163 x164 x165 x166 x167 x168 x169 x170 x171 x172 x173 x174 x175 x176 x177 x178 x179 x180 x181 x182 x183 x184 x185 x186 x187 x188 x189 x190 x191 x192 x193 x194 x195 x196 x197 x198 x199 x200 x201 x202 x203 x204 x205 x206 x207 x208 x209 x210 x211 x212 x213 x214 x215 x216 x217 x218 x219 x220 x221 x222 x223 x224 x225 x226 x227 x228 x229 x230 x231 x232 x233 x234 x235 x236 x237 x238 x239 x240 x241 x242 x243 x244 x245 x246 x247 x248 x249 x250 x251 x252 x253 x254 x255 x256 x257 x258 x259 x260 x261 x262 x263 x264 x265 x266 x267 x268 x269 x270 x271 x272 x273 x274 x275 x276 x277 x278 x279 x280 x281 x282 x283 x284 x285 x286 x287 x288 x289 x290 x291 x292 x293 x294 x295 x296 x297 x298 x299 x300 x301 x302 x303 x304 x305 x306 x307 x308 x309 x310 x311 x312 x313 x314 x315 x316 x317 x318 x319 x320 x321 x322 x323 x324 x325 x326 x327 x328 x329 x330 x331 x332 x333 x334 x335 x336 x337 x338 x339 x340 x341 x342 x343 x344 x345 x346 x347 x348 x349 x350 x351 x352 x353 x354 x355 x356 x357 x358 x359 x360 x361 x362 x363 x364 x365 x366 x367 x368 x369 x370 x371 x372 x373 x374 x375 x376 x377 x378 x379 x380 x381 x382 x383 x384 x385 x386 x387 x388 x389 e => ?_
    subst e
    clear hlen
    simp only [List.cons_append, List.nil_append]
    show Code.wp Try.prog (Code.region _ _ _) _ _ _
    go_wp2_with fail
    refine HK.out _ _ (Handed.intro (n0 - (i + 1)) (by have := HG.out; omega) (HJ.out _ _ _ ⟨i + 1, tk', by omega, Nat.le_refl _, ⟨_, by first | rfl | (push_cast; rfl), rfl⟩, HL2.out⟩))
  · have hltz : ¬ (i : Int) < (n0 : Int) := by omega
    obtain rfl : i = n0 := by omega
    go_wp2_with fail
    refine HQ.out tk _ _ ⟨_, rfl, rfl⟩ ?_
    obtain ⟨L, sv, wv, ss, C, P, T, A, a0, kept, hM, -⟩ := HLO.out
    exact hM.duo.bel


end Go.Proofs.Ytbgnbaogclnpgaa

namespace Go.Proofs.Ytbgnbaogclnpgaa
open Go.RowKit
set_option linter.unusedVariables false

/-- Nothing is done yet. -/
theorem lo_first {w w2 W6 : World} {h t gw gc gk gs gq : Nat} (hD : Duo (fun _ => False) w w2 h Ab.new 0 t Tb.new) (ht : Touch (fun _ => False) w2 W6)
    (h1 : w2.heap.size = gw) (h2 : gw + 1 = gc) (h3 : gc + 1 = gk) (h4 : gk + 1 = gs) (h5 : gs + 1 = gq) (h6 : W6.heap.size = gq + 1)
    (l1 : Lit W6 gw 31 (wriC h t)) (l2 : Lit W6 gc 32 [.int .i64 (-1), .int .i64 (-1), .int .i64 (-1), .int .i64 (-1)]) (l3 : Lit W6 gk 32 [.int .i64 0, .int .i64 0, .int .i64 0, .int .i64 0]) (l4 : Lit W6 gs 34 [.int .i64 0, .int .i64 0])
    (l5 : Lit W6 gq 39 [.int .i64 0, .slice none 0 0, .slice none 0 0, .int .i64 0, .slice none 0 0, .slice none 0 0, .int .i64 0, .slice none 0 0, .slice none 0 0]) : Lo w h t gw gc gk gs gq 0 false W6 := by
  have hsz := hD.bel.size
  refine ⟨fun b => if b = gw then .wri else if b = gc then .com else if b = gk then .kep else if b = gs then .snp else if b = gq then .who else .no, fun _ => .slice none 0 0, fun _ => .slice none 0 0, fun _ => [], fun _ => [], fun _ => [], Tb.new, Ab.new, 0, fun _ => 0, ⟨?_, fun b hb => ?_, ?_⟩, Bk.new, fun e => (by cases e), Nat.le_refl _, Nat.le_refl _, fun k hk => Nat.le_refl _⟩
  · refine hD.grow ht (fun k _ q => q.elim) (fun k q => q.elim) (fun k hk => .inr ?_)
    by_cases e1 : k = gw
    · omega
    · rw [if_neg e1] at hk
      by_cases e2 : k = gc
      · omega
      · rw [if_neg e2] at hk
        by_cases e3 : k = gk
        · omega
        · rw [if_neg e3] at hk
          by_cases e4 : k = gs
          · omega
          · rw [if_neg e4] at hk
            by_cases e5 : k = gq
            · omega
            · rw [if_neg e5] at hk
              exact absurd rfl hk
  · by_cases e1 : b = gw
    · omega
    · rw [if_neg e1] at hb
      by_cases e2 : b = gc
      · omega
      · rw [if_neg e2] at hb
        by_cases e3 : b = gk
        · omega
        · rw [if_neg e3] at hb
          by_cases e4 : b = gs
          · omega
          · rw [if_neg e4] at hb
            by_cases e5 : b = gq
            · omega
            · rw [if_neg e5] at hb
              exact absurd rfl hb
  · refine ⟨if_pos rfl, (if_neg (by omega)).trans (if_pos rfl), (if_neg (by omega)).trans ((if_neg (by omega)).trans (if_pos rfl)), (if_neg (by omega)).trans ((if_neg (by omega)).trans ((if_neg (by omega)).trans (if_pos rfl))), (if_neg (by omega)).trans ((if_neg (by omega)).trans ((if_neg (by omega)).trans ((if_neg (by omega)).trans (if_pos rfl)))), l1, l2, l3, l4, l5, fun k hk => ⟨RowF.nil _ _ _ _, fun b hb => by cases hb⟩, fun k hk => ⟨⟨fun _ => 0, RowF.nil _ _ _ _, fun j hj => absurd hj (Nat.not_lt_zero j)⟩, fun b hb => by cases hb⟩⟩

theorem lo_first2 {w w3 : World} {h t gw : Nat} (hD : Duo (fun _ => False) w w3 h Ab.new 0 t Tb.new) (hg : w3.heap.size = gw) : Lo w h t gw (gw + 1) (gw + 1 + 1) (gw + 1 + 1 + 1) (gw + 1 + 1 + 1 + 1) 0 false (((((w3.alloc (.cells #[.pointer (some ⟨h, 0, none⟩), .pointer (some ⟨t, 0, none⟩), .slice none 0 0] 31)).alloc (.cells #[.int .i64 (-1), .int .i64 (-1), .int .i64 (-1), .int .i64 (-1)] 32)).alloc (.cells #[.int .i64 0, .int .i64 0, .int .i64 0, .int .i64 0] 32)).alloc (.cells #[.int .i64 0, .int .i64 0] 34)).alloc (.cells #[.int .i64 0, .slice none 0 0, .slice none 0 0, .int .i64 0, .slice none 0 0, .slice none 0 0, .int .i64 0, .slice none 0 0, .slice none 0 0] 39)) := by
  obtain ⟨W1, hW1⟩ : ∃ X, w3.alloc (.cells #[.pointer (some ⟨h, 0, none⟩), .pointer (some ⟨t, 0, none⟩), .slice none 0 0] 31) = X := ⟨_, rfl⟩
  rw [hW1]
  obtain ⟨W2, hW2⟩ : ∃ X, W1.alloc (.cells #[.int .i64 (-1), .int .i64 (-1), .int .i64 (-1), .int .i64 (-1)] 32) = X := ⟨_, rfl⟩
  rw [hW2]
  have s1 : W1.heap.size = gw + 1 := by rw [← hW1]; simp [hg]
  have s2 : W2.heap.size = gw + 1 + 1 := by rw [← hW2]; simp [s1]
  have l1 : Lit W1 gw 31 (wriC h t) := by rw [← hW1, ← hg]; exact Lit.new w3 _ (wriC h t)
  have l2 : Lit W2 (gw + 1) 32 [.int .i64 (-1), .int .i64 (-1), .int .i64 (-1), .int .i64 (-1)] := by rw [← hW2, ← s1]; exact Lit.new W1 _ _
  have b1 : Below w3.heap.size w3 W1 := by rw [← hW1]; exact Below.allocs _ _
  have b2 : Below W1.heap.size W1 W2 := by rw [← hW2]; exact Below.allocs _ _
  obtain ⟨W4, hW4⟩ : ∃ X, W2.alloc (.cells #[.int .i64 0, .int .i64 0, .int .i64 0, .int .i64 0] 32) = X := ⟨_, rfl⟩
  rw [hW4]
  have s4 : W4.heap.size = gw + 1 + 1 + 1 := by rw [← hW4]; simp [s2]
  have l4 : Lit W4 (gw + 1 + 1) 32 [.int .i64 0, .int .i64 0, .int .i64 0, .int .i64 0] := by rw [← hW4, ← s2]; exact Lit.new W2 _ _
  have b4 : Below W2.heap.size W2 W4 := by rw [← hW4]; exact Below.allocs _ _
  obtain ⟨W5, hW5⟩ : ∃ X, W4.alloc (.cells #[.int .i64 0, .int .i64 0] 34) = X := ⟨_, rfl⟩
  rw [hW5]
  have s5 : W5.heap.size = gw + 1 + 1 + 1 + 1 := by rw [← hW5]; simp [s4]
  have l5 : Lit W5 (gw + 1 + 1 + 1) 34 [.int .i64 0, .int .i64 0] := by rw [← hW5, ← s4]; exact Lit.new W4 _ _
  have b5 : Below W4.heap.size W4 W5 := by rw [← hW5]; exact Below.allocs _ _
  obtain ⟨W6, hW6⟩ : ∃ X, W5.alloc (.cells #[.int .i64 0, .slice none 0 0, .slice none 0 0, .int .i64 0, .slice none 0 0, .slice none 0 0, .int .i64 0, .slice none 0 0, .slice none 0 0] 39) = X := ⟨_, rfl⟩
  rw [hW6]
  have s6 : W6.heap.size = gw + 1 + 1 + 1 + 1 + 1 := by rw [← hW6]; simp [s5]
  have l6 : Lit W6 (gw + 1 + 1 + 1 + 1) 39 [.int .i64 0, .slice none 0 0, .slice none 0 0, .int .i64 0, .slice none 0 0, .slice none 0 0, .int .i64 0, .slice none 0 0, .slice none 0 0] := by rw [← hW6, ← s5]; exact Lit.new W5 _ _
  have b6 : Below W5.heap.size W5 W6 := by rw [← hW6]; exact Below.allocs _ _
  have b46 := below_tr b4 (below_tr b5 b6)
  have ht : Touch (fun _ => False) w3 W6 := Touch.of_below (below_tr b1 (below_tr b2 b46))
  exact lo_first hD ht hg rfl rfl rfl rfl s6 ((l1.below b2).below b46) (l2.below b46) (l4.below (below_tr b5 b6)) (l5.below b6) l6

set_option maxRecDepth 100000 in
set_option maxHeartbeats 8000000 in
theorem one_large (a0 : Option Addr) (c0 n0 : Nat) (l0 : List Act1) (hn0 : l0.length = n0) (e1 : Int) (i1 : I64 e1) (w : World) (hs0 : SlA w a0 c0 l0) (hz : 80 < n0) :
    Calls Try.prog 3 #[.slice a0 n0 c0, .int .i64 e1] w fun e w' => e = .returned (.bool true) ∧ Below w.heap.size w w' := by
  have hmx : n0 ≤ maxLen := by rw [← hn0]; exact Nat.le_trans hs0.lc hs0.cm
  have hz2 : (80 : Int) < (n0 : Int) := by omega
  clear hs0 hn0
  go_enter Try.func3, Try.ntmps3
  have hcon := awake_is w
  go_wp2_with fail
  refine (show Calls Try.prog _ _ _ _ from hcon).mono ?_
  rintro e wz ⟨rfl, hb⟩
  have HBZ := Lib.hid hb
  clear hcon hb
  go_wp2_with fail
  go_ret
  exact ⟨rfl, HBZ.out⟩

set_option maxRecDepth 100000 in
set_option maxHeartbeats 8000000 in
theorem one_main (a0 : Option Addr) (c0 n0 : Nat) (l0 : List Act1) (hn0 : l0.length = n0) (e1 : Int) (i1 : I64 e1) (w : World) (hs0 : SlA w a0 c0 l0) (hz : n0 ≤ 80) :
    Calls Try.prog 3 #[.slice a0 n0 c0, .int .i64 e1] w fun e w' => e = .returned (.bool true) ∧ Below w.heap.size w w' := by
  have HS := Lib.hid hs0
  have HN := Lib.hid hn0
  have hz2 : ¬ (80 : Int) < (n0 : Int) := by omega
  clear hs0 hn0
  go_enter Try.func3, Try.ntmps3
  have hcon := awake_is w
  go_wp2_with fail
  refine (show Calls Try.prog _ _ _ _ from hcon).mono ?_
  rintro e w1b ⟨rfl, hb⟩
  have HB1 := Lib.hid hb
  clear hcon hb
  have hcon := heap_new (w0 := w) (fun _ => False) HB1.out (fun _ h => h.elim)
  go_wp2_with fail
  refine (show Calls Try.prog _ _ _ _ from hcon).mono ?_
  rintro e w2 ⟨h, rfl, Fh, h1, h2, h3, hb1⟩
  have HH := Lib.hid (And.intro h1 (And.intro h2 (And.intro h3 (below_tr HB1.out hb1))))
  clear hcon h1 h2 h3 hb1
  have hcon := duo_new (w0 := w) (fun _ => False) HH.out.1 HH.out.2.1 HH.out.2.2.1 HH.out.2.2.2 (fun _ h => h.elim)
  go_wp2_with fail
  refine (show Calls Try.prog _ _ _ _ from hcon).mono ?_
  rintro e w3 ⟨t, rfl, hd, -⟩
  have HD0 := Lib.hid hd
  clear hcon hd HH HB1
  obtain ⟨gw, hgw⟩ : ∃ g, w3.heap.size = g := ⟨_, rfl⟩
  have HLF := Lib.hid (lo_first2 HD0.out hgw)
  have HGW := Lib.hid hgw
  go_upto_block 0 with fail
  refine oloop_is (s2 := undef) (s3 := undef) (s4 := .bool false) i1 HS.out HN.out HLF.out hz ?hf (fun tk a' w' h1 hb => ?_)
  case hf => exact ⟨_, rfl, rfl⟩
  have HB := Lib.hid hb
  rename_i K hK
  refine hK _ _ ?_
  clear hK K hb
  obtain ⟨tl, rfl, hlen⟩ := h1
  refine open_12 tl (by have h := hlen; simp only [List.length_cons, List.length_nil] at h; omega) fun x12 x13 x14 x15 x16 x17 x18 x19 x20 x21 x22 x23 x24 x25 x26 x27 x28 x29 x30 x31 x32 x33 x34 x35 x36 x37 x38 x39 x40 x41 x42 x43 x44 x45 x46 x47 x48 x49 x50 x51 x52 x53 x54 x55 x56 x57 x58 x59 x60 x61 x62 x63 x64 x65 x66 x67 x68 x69 x70 x71 x72 x73 x74 x75 x76 x77 x78 x79 x80 x81 x82 x83 x84 x85 x86 x87 x88 x89 x90 x91 x92 x93 x94 x95 x96 x97 x98 x99 x100 x101 x102 x103 x104 x105 x106 x107 x108 x109 x110 x111 x112 x113 x114 x115 x116 x117 x118 x119 x120 x121 x122 x123 x124 x125 x126 x127 x128 x129 x130 x131 x132 x133 x134 x135 x136 x137 x138 x139 x140 x141 x142 x143 x144 x145 x146 x147 x148 x149 x150 x151 x152 x153 x154 x155 x156 x157 x158 x159 x160 x161 x162 x163 x164 x165 x166 x167 x168 x169 x170 x171 x172 x173 x174 x175 x176 x177 x178 x179 x180 x181 x182 x183 x184 x185 x186 x187 x188 x189 x190 x191 x192 x193 x194 x195 x196 x197 x198 x199 x200 x201 x202 x203 x204 x205 x206 x207 x208 x209 x210 x211 x212 x213 x214 x215 x216 x217 x218 x219 x220 x221 x222 x223 x224 x225 x226 x227 x228 x229 x230 x231 x232 x233 x234 x235 x236 x237 x238 x239 x240 x241 x242 x243 x244 x245 x246 x247 x248 x249 x250 x251 x252 x253 x254 x255 x256 x257 x258 x259 x260 x261 x262 x263 x264 x265 x266 x267 x268 x269 x270 x271 x272 x273 x274 x275 x276 x277 x278 x279 x280 x281 x282 x283 x284 x285 x286 x287 x288 x289 x290 x291 x292 x293 x294 x295 x296 x297 x298 x299 x300 x301 x302 x303 x304 x305 x306 x307 x308 x309 x310 x311 x312 x313 x314 x315 x316 x317 x318 x319 x320 x321 x322 x323 x324 x325 x326 x327 x328 x329 x330 x331 x332 x333 x334 x335 x336 x337 x338 x339 x340 x341 x342 x343 x344 x345 x346 x347 x348 x349 x350 x351 x352 x353 x354 x355 x356 x357 x358 x359 x360 x361 x362 x363 x364 x365 x366 x367 x368 x369 x370 x371 x372 x373 x374 x375 x376 x377 x378 x379 x380 x381 x382 x383 x384 x385 x386 x387 x388 x389 e => ?_
  subst e
  clear hlen
  simp only [List.cons_append, List.nil_append]
  show Code.wp Try.prog (Code.seq _ _) _ _ _
  go_wp2_with fail
  go_ret
  exact ⟨rfl, HB.out⟩

set_option maxRecDepth 100000 in
set_option maxHeartbeats 8000000 in
theorem one_law (a0 : Option Addr) (c0 n0 : Nat) (l0 : List Act1) (hn0 : l0.length = n0) (e1 : Int) (i1 : I64 e1) (w : World) (hs0 : SlA w a0 c0 l0) :
    Calls Try.prog 3 #[.slice a0 n0 c0, .int .i64 e1] w fun e w' => e = .returned (.bool true) ∧ Below w.heap.size w w' := by
  by_cases hz : n0 ≤ 80
  · exact one_main a0 c0 n0 l0 hn0 e1 i1 w hs0 hz
  · exact one_large a0 c0 n0 l0 hn0 e1 i1 w hs0 (by omega)

end Go.Proofs.Ytbgnbaogclnpgaa
