/-
  SightOne: a savepoint: walked (stage 12).
-/
import Derived.Test.YtbgnbaogclnpgaaMOneH
import Derived.Test.YtbgnbaogclnpgaaMOneP
import Derived.Deep.RegionHeld3
namespace Go.Proofs.Ytbgnbaogclnpgaa
open Go.RowKit
set_option linter.unusedVariables false

theorem open_21 {C : Prop} (tl : List Value) (h : tl.length = 369) (H : ∀ x21 x22 x23 x24 x25 x26 x27 x28 x29 x30 x31 x32 x33 x34 x35 x36 x37 x38 x39 x40 x41 x42 x43 x44 x45 x46 x47 x48 x49 x50 x51 x52 x53 x54 x55 x56 x57 x58 x59 x60 x61 x62 x63 x64 x65 x66 x67 x68 x69 x70 x71 x72 x73 x74 x75 x76 x77 x78 x79 x80 x81 x82 x83 x84 x85 x86 x87 x88 x89 x90 x91 x92 x93 x94 x95 x96 x97 x98 x99 x100 x101 x102 x103 x104 x105 x106 x107 x108 x109 x110 x111 x112 x113 x114 x115 x116 x117 x118 x119 x120 x121 x122 x123 x124 x125 x126 x127 x128 x129 x130 x131 x132 x133 x134 x135 x136 x137 x138 x139 x140 x141 x142 x143 x144 x145 x146 x147 x148 x149 x150 x151 x152 x153 x154 x155 x156 x157 x158 x159 x160 x161 x162 x163 x164 x165 x166 x167 x168 x169 x170 x171 x172 x173 x174 x175 x176 x177 x178 x179 x180 x181 x182 x183 x184 x185 x186 x187 x188 x189 x190 x191 x192 x193 x194 x195 x196 x197 x198 x199 x200 x201 x202 x203 x204 x205 x206 x207 x208 x209 x210 x211 x212 x213 x214 x215 x216 x217 x218 x219 x220 x221 x222 x223 x224 x225 x226 x227 x228 x229 x230 x231 x232 x233 x234 x235 x236 x237 x238 x239 x240 x241 x242 x243 x244 x245 x246 x247 x248 x249 x250 x251 x252 x253 x254 x255 x256 x257 x258 x259 x260 x261 x262 x263 x264 x265 x266 x267 x268 x269 x270 x271 x272 x273 x274 x275 x276 x277 x278 x279 x280 x281 x282 x283 x284 x285 x286 x287 x288 x289 x290 x291 x292 x293 x294 x295 x296 x297 x298 x299 x300 x301 x302 x303 x304 x305 x306 x307 x308 x309 x310 x311 x312 x313 x314 x315 x316 x317 x318 x319 x320 x321 x322 x323 x324 x325 x326 x327 x328 x329 x330 x331 x332 x333 x334 x335 x336 x337 x338 x339 x340 x341 x342 x343 x344 x345 x346 x347 x348 x349 x350 x351 x352 x353 x354 x355 x356 x357 x358 x359 x360 x361 x362 x363 x364 x365 x366 x367 x368 x369 x370 x371 x372 x373 x374 x375 x376 x377 x378 x379 x380 x381 x382 x383 x384 x385 x386 x387 x388 x389 : Value, tl = [x21, x22, x23, x24, x25, x26, x27, x28, x29, x30, x31, x32, x33, x34, x35, x36, x37, x38, x39, x40, x41, x42, x43, x44, x45, x46, x47, x48, x49, x50, x51, x52, x53, x54, x55, x56, x57, x58, x59, x60, x61, x62, x63, x64, x65, x66, x67, x68, x69, x70, x71, x72, x73, x74, x75, x76, x77, x78, x79, x80, x81, x82, x83, x84, x85, x86, x87, x88, x89, x90, x91, x92, x93, x94, x95, x96, x97, x98, x99, x100, x101, x102, x103, x104, x105, x106, x107, x108, x109, x110, x111, x112, x113, x114, x115, x116, x117, x118, x119, x120, x121, x122, x123, x124, x125, x126, x127, x128, x129, x130, x131, x132, x133, x134, x135, x136, x137, x138, x139, x140, x141, x142, x143, x144, x145, x146, x147, x148, x149, x150, x151, x152, x153, x154, x155, x156, x157, x158, x159, x160, x161, x162, x163, x164, x165, x166, x167, x168, x169, x170, x171, x172, x173, x174, x175, x176, x177, x178, x179, x180, x181, x182, x183, x184, x185, x186, x187, x188, x189, x190, x191, x192, x193, x194, x195, x196, x197, x198, x199, x200, x201, x202, x203, x204, x205, x206, x207, x208, x209, x210, x211, x212, x213, x214, x215, x216, x217, x218, x219, x220, x221, x222, x223, x224, x225, x226, x227, x228, x229, x230, x231, x232, x233, x234, x235, x236, x237, x238, x239, x240, x241, x242, x243, x244, x245, x246, x247, x248, x249, x250, x251, x252, x253, x254, x255, x256, x257, x258, x259, x260, x261, x262, x263, x264, x265, x266, x267, x268, x269, x270, x271, x272, x273, x274, x275, x276, x277, x278, x279, x280, x281, x282, x283, x284, x285, x286, x287, x288, x289, x290, x291, x292, x293, x294, x295, x296, x297, x298, x299, x300, x301, x302, x303, x304, x305, x306, x307, x308, x309, x310, x311, x312, x313, x314, x315, x316, x317, x318, x319, x320, x321, x322, x323, x324, x325, x326, x327, x328, x329, x330, x331, x332, x333, x334, x335, x336, x337, x338, x339, x340, x341, x342, x343, x344, x345, x346, x347, x348, x349, x350, x351, x352, x353, x354, x355, x356, x357, x358, x359, x360, x361, x362, x363, x364, x365, x366, x367, x368, x369, x370, x371, x372, x373, x374, x375, x376, x377, x378, x379, x380, x381, x382, x383, x384, x385, x386, x387, x388, x389] → C) : C := by
  refine H (tl.getD 0 undef) (tl.getD 1 undef) (tl.getD 2 undef) (tl.getD 3 undef) (tl.getD 4 undef) (tl.getD 5 undef) (tl.getD 6 undef) (tl.getD 7 undef) (tl.getD 8 undef) (tl.getD 9 undef) (tl.getD 10 undef) (tl.getD 11 undef) (tl.getD 12 undef) (tl.getD 13 undef) (tl.getD 14 undef) (tl.getD 15 undef) (tl.getD 16 undef) (tl.getD 17 undef) (tl.getD 18 undef) (tl.getD 19 undef) (tl.getD 20 undef) (tl.getD 21 undef) (tl.getD 22 undef) (tl.getD 23 undef) (tl.getD 24 undef) (tl.getD 25 undef) (tl.getD 26 undef) (tl.getD 27 undef) (tl.getD 28 undef) (tl.getD 29 undef) (tl.getD 30 undef) (tl.getD 31 undef) (tl.getD 32 undef) (tl.getD 33 undef) (tl.getD 34 undef) (tl.getD 35 undef) (tl.getD 36 undef) (tl.getD 37 undef) (tl.getD 38 undef) (tl.getD 39 undef) (tl.getD 40 undef) (tl.getD 41 undef) (tl.getD 42 undef) (tl.getD 43 undef) (tl.getD 44 undef) (tl.getD 45 undef) (tl.getD 46 undef) (tl.getD 47 undef) (tl.getD 48 undef) (tl.getD 49 undef) (tl.getD 50 undef) (tl.getD 51 undef) (tl.getD 52 undef) (tl.getD 53 undef) (tl.getD 54 undef) (tl.getD 55 undef) (tl.getD 56 undef) (tl.getD 57 undef) (tl.getD 58 undef) (tl.getD 59 undef) (tl.getD 60 undef) (tl.getD 61 undef) (tl.getD 62 undef) (tl.getD 63 undef) (tl.getD 64 undef) (tl.getD 65 undef) (tl.getD 66 undef) (tl.getD 67 undef) (tl.getD 68 undef) (tl.getD 69 undef) (tl.getD 70 undef) (tl.getD 71 undef) (tl.getD 72 undef) (tl.getD 73 undef) (tl.getD 74 undef) (tl.getD 75 undef) (tl.getD 76 undef) (tl.getD 77 undef) (tl.getD 78 undef) (tl.getD 79 undef) (tl.getD 80 undef) (tl.getD 81 undef) (tl.getD 82 undef) (tl.getD 83 undef) (tl.getD 84 undef) (tl.getD 85 undef) (tl.getD 86 undef) (tl.getD 87 undef) (tl.getD 88 undef) (tl.getD 89 undef) (tl.getD 90 undef) (tl.getD 91 undef) (tl.getD 92 undef) (tl.getD 93 undef) (tl.getD 94 undef) (tl.getD 95 undef) (tl.getD 96 undef) (tl.getD 97 undef) (tl.getD 98 undef) (tl.getD 99 undef) (tl.getD 100 undef) (tl.getD 101 undef) (tl.getD 102 undef) (tl.getD 103 undef) (tl.getD 104 undef) (tl.getD 105 undef) (tl.getD 106 undef) (tl.getD 107 undef) (tl.getD 108 undef) (tl.getD 109 undef) (tl.getD 110 undef) (tl.getD 111 undef) (tl.getD 112 undef) (tl.getD 113 undef) (tl.getD 114 undef) (tl.getD 115 undef) (tl.getD 116 undef) (tl.getD 117 undef) (tl.getD 118 undef) (tl.getD 119 undef) (tl.getD 120 undef) (tl.getD 121 undef) (tl.getD 122 undef) (tl.getD 123 undef) (tl.getD 124 undef) (tl.getD 125 undef) (tl.getD 126 undef) (tl.getD 127 undef) (tl.getD 128 undef) (tl.getD 129 undef) (tl.getD 130 undef) (tl.getD 131 undef) (tl.getD 132 undef) (tl.getD 133 undef) (tl.getD 134 undef) (tl.getD 135 undef) (tl.getD 136 undef) (tl.getD 137 undef) (tl.getD 138 undef) (tl.getD 139 undef) (tl.getD 140 undef) (tl.getD 141 undef) (tl.getD 142 undef) (tl.getD 143 undef) (tl.getD 144 undef) (tl.getD 145 undef) (tl.getD 146 undef) (tl.getD 147 undef) (tl.getD 148 undef) (tl.getD 149 undef) (tl.getD 150 undef) (tl.getD 151 undef) (tl.getD 152 undef) (tl.getD 153 undef) (tl.getD 154 undef) (tl.getD 155 undef) (tl.getD 156 undef) (tl.getD 157 undef) (tl.getD 158 undef) (tl.getD 159 undef) (tl.getD 160 undef) (tl.getD 161 undef) (tl.getD 162 undef) (tl.getD 163 undef) (tl.getD 164 undef) (tl.getD 165 undef) (tl.getD 166 undef) (tl.getD 167 undef) (tl.getD 168 undef) (tl.getD 169 undef) (tl.getD 170 undef) (tl.getD 171 undef) (tl.getD 172 undef) (tl.getD 173 undef) (tl.getD 174 undef) (tl.getD 175 undef) (tl.getD 176 undef) (tl.getD 177 undef) (tl.getD 178 undef) (tl.getD 179 undef) (tl.getD 180 undef) (tl.getD 181 undef) (tl.getD 182 undef) (tl.getD 183 undef) (tl.getD 184 undef) (tl.getD 185 undef) (tl.getD 186 undef) (tl.getD 187 undef) (tl.getD 188 undef) (tl.getD 189 undef) (tl.getD 190 undef) (tl.getD 191 undef) (tl.getD 192 undef) (tl.getD 193 undef) (tl.getD 194 undef) (tl.getD 195 undef) (tl.getD 196 undef) (tl.getD 197 undef) (tl.getD 198 undef) (tl.getD 199 undef) (tl.getD 200 undef) (tl.getD 201 undef) (tl.getD 202 undef) (tl.getD 203 undef) (tl.getD 204 undef) (tl.getD 205 undef) (tl.getD 206 undef) (tl.getD 207 undef) (tl.getD 208 undef) (tl.getD 209 undef) (tl.getD 210 undef) (tl.getD 211 undef) (tl.getD 212 undef) (tl.getD 213 undef) (tl.getD 214 undef) (tl.getD 215 undef) (tl.getD 216 undef) (tl.getD 217 undef) (tl.getD 218 undef) (tl.getD 219 undef) (tl.getD 220 undef) (tl.getD 221 undef) (tl.getD 222 undef) (tl.getD 223 undef) (tl.getD 224 undef) (tl.getD 225 undef) (tl.getD 226 undef) (tl.getD 227 undef) (tl.getD 228 undef) (tl.getD 229 undef) (tl.getD 230 undef) (tl.getD 231 undef) (tl.getD 232 undef) (tl.getD 233 undef) (tl.getD 234 undef) (tl.getD 235 undef) (tl.getD 236 undef) (tl.getD 237 undef) (tl.getD 238 undef) (tl.getD 239 undef) (tl.getD 240 undef) (tl.getD 241 undef) (tl.getD 242 undef) (tl.getD 243 undef) (tl.getD 244 undef) (tl.getD 245 undef) (tl.getD 246 undef) (tl.getD 247 undef) (tl.getD 248 undef) (tl.getD 249 undef) (tl.getD 250 undef) (tl.getD 251 undef) (tl.getD 252 undef) (tl.getD 253 undef) (tl.getD 254 undef) (tl.getD 255 undef) (tl.getD 256 undef) (tl.getD 257 undef) (tl.getD 258 undef) (tl.getD 259 undef) (tl.getD 260 undef) (tl.getD 261 undef) (tl.getD 262 undef) (tl.getD 263 undef) (tl.getD 264 undef) (tl.getD 265 undef) (tl.getD 266 undef) (tl.getD 267 undef) (tl.getD 268 undef) (tl.getD 269 undef) (tl.getD 270 undef) (tl.getD 271 undef) (tl.getD 272 undef) (tl.getD 273 undef) (tl.getD 274 undef) (tl.getD 275 undef) (tl.getD 276 undef) (tl.getD 277 undef) (tl.getD 278 undef) (tl.getD 279 undef) (tl.getD 280 undef) (tl.getD 281 undef) (tl.getD 282 undef) (tl.getD 283 undef) (tl.getD 284 undef) (tl.getD 285 undef) (tl.getD 286 undef) (tl.getD 287 undef) (tl.getD 288 undef) (tl.getD 289 undef) (tl.getD 290 undef) (tl.getD 291 undef) (tl.getD 292 undef) (tl.getD 293 undef) (tl.getD 294 undef) (tl.getD 295 undef) (tl.getD 296 undef) (tl.getD 297 undef) (tl.getD 298 undef) (tl.getD 299 undef) (tl.getD 300 undef) (tl.getD 301 undef) (tl.getD 302 undef) (tl.getD 303 undef) (tl.getD 304 undef) (tl.getD 305 undef) (tl.getD 306 undef) (tl.getD 307 undef) (tl.getD 308 undef) (tl.getD 309 undef) (tl.getD 310 undef) (tl.getD 311 undef) (tl.getD 312 undef) (tl.getD 313 undef) (tl.getD 314 undef) (tl.getD 315 undef) (tl.getD 316 undef) (tl.getD 317 undef) (tl.getD 318 undef) (tl.getD 319 undef) (tl.getD 320 undef) (tl.getD 321 undef) (tl.getD 322 undef) (tl.getD 323 undef) (tl.getD 324 undef) (tl.getD 325 undef) (tl.getD 326 undef) (tl.getD 327 undef) (tl.getD 328 undef) (tl.getD 329 undef) (tl.getD 330 undef) (tl.getD 331 undef) (tl.getD 332 undef) (tl.getD 333 undef) (tl.getD 334 undef) (tl.getD 335 undef) (tl.getD 336 undef) (tl.getD 337 undef) (tl.getD 338 undef) (tl.getD 339 undef) (tl.getD 340 undef) (tl.getD 341 undef) (tl.getD 342 undef) (tl.getD 343 undef) (tl.getD 344 undef) (tl.getD 345 undef) (tl.getD 346 undef) (tl.getD 347 undef) (tl.getD 348 undef) (tl.getD 349 undef) (tl.getD 350 undef) (tl.getD 351 undef) (tl.getD 352 undef) (tl.getD 353 undef) (tl.getD 354 undef) (tl.getD 355 undef) (tl.getD 356 undef) (tl.getD 357 undef) (tl.getD 358 undef) (tl.getD 359 undef) (tl.getD 360 undef) (tl.getD 361 undef) (tl.getD 362 undef) (tl.getD 363 undef) (tl.getD 364 undef) (tl.getD 365 undef) (tl.getD 366 undef) (tl.getD 367 undef) (tl.getD 368 undef) ?_
  refine (list_ran h).trans ?_
  kernel_rfl
set_option maxRecDepth 100000 in
set_option maxHeartbeats 8000000 in
theorem osave46_is {v0 v1 s2 s3 s4 v11 : Value} {tk : Bool} {L : Nat → Lb} {w0 w : World} {h t gw gc gk gs gq z m : Nat} {A : Ab} {T : Tb} {ss : Nat → List Int} {P : Int → List Wt} {f kept : Int → Int} {at0 : Int} {sv wv : Nat → Value} (H : Me L w0 w h t gw gc gk gs gq z m A T ss ss P f kept at0 sv wv) {k : Nat} (hk : k < 3) (hn : T.n ≤ 1000) {l : List Int} {sub : Int} (hl : ss k = l ++ [sub]) (hl9 : l.length ≤ 1000) (hsub : 1 ≤ sub ∧ sub ≤ 1000) {id : Int} (h1 : T.begI sub = id) (h2 : T.begE sub = 0) {a : Act}
    (HF : Fr [v0, v1, s2, s3, s4, .pointer (some ⟨gw, 0, none⟩), .pointer (some ⟨gc, 0, none⟩), .pointer (some ⟨gk, 0, none⟩), .pointer (some ⟨gs, 0, none⟩), .bool tk, .pointer (some ⟨gq, 0, none⟩), v11, .pointer (some ⟨gq, k * 3, none⟩)] a) {Q : Exit → Act → World → Prop} (hQ : ∀ x13 x14 x15 x16 x17 x18 a' w', Fr [v0, v1, s2, s3, s4, .pointer (some ⟨gw, 0, none⟩), .pointer (some ⟨gc, 0, none⟩), .pointer (some ⟨gk, 0, none⟩), .pointer (some ⟨gs, 0, none⟩), .bool tk, .pointer (some ⟨gq, 0, none⟩), v11, .pointer (some ⟨gq, k * 3, none⟩), x13, x14, x15, x16, x17, x18, .int .i64 id, .int .i64 0] a' → Me L w0 w' h t gw gc gk gs gq z m A (T.begT sub) ss ss P f kept at0 sv wv → Q .normal a' w') :
    Code.wp Try.prog (nav [true, true, true, true, true, true, true, true, false, true, false, false, true, false, false, true, true, false, false, true, true, true, true, true, true, true, false, false] (Try.f3.body.getD .skip)) Q a w := by
  have mixed : Try.prog.follows Departure.mixedOrders = true := by kernel_rfl
  obtain ⟨j, hj⟩ : ∃ j, l.length = j := ⟨_, rfl⟩
  obtain ⟨n, hnj⟩ : ∃ n, j + 1 = n := ⟨_, rfl⟩
  have hln : (ss k).length = n := by rw [hl, List.length_append, List.length_singleton, hj, hnj]
  obtain ⟨b, c, hsv, hnc, hcm, hb, hcell, -⟩ := RowI.at (H.mb.sub k hk).row (j := j) (by omega)
  rw [hln] at hsv hnc hcell
  have hcell := hcell j (by omega)
  rw [hl, show (l ++ [sub]).getD j 0 = sub by rw [← hj]; simp] at hcell
  have HSB : Hid (∀ W, Me L w0 W h t gw gc gk gs gq z m A (T.begT sub) ss ss P f kept at0 sv wv → (fun W => W.cell? ⟨gw, 1, none⟩ = some (.pointer (some ⟨t, 0, none⟩)) ∧ W.cell? ⟨gq, k * 3 + 1, none⟩ = some (.slice (some ⟨b, 0, none⟩) n c) ∧ W.cell? ⟨b, j, none⟩ = some (.int .i64 sub)) W) := Lib.hid (fun W HW => by
    refine ⟨HW.mb.wri.cell (o := 1) rfl, ?_, ?_⟩
    · have := HW.mb.who.cell (who_top hk ss sv wv).2.1
      rw [hsv] at this
      exact this
    · obtain ⟨b', c', e, -, -, -, hc2, -⟩ := RowI.at (HW.mb.sub k hk).row (j := j) (by omega)
      rw [hsv, hln] at e
      cases e
      have := hc2 j (by omega)
      rw [hl, show (l ++ [sub]).getD j 0 = sub by rw [← hj]; simp] at this
      exact this)
  have HSD : Hid ((fun W => W.cell? ⟨gw, 1, none⟩ = some (.pointer (some ⟨t, 0, none⟩)) ∧ W.cell? ⟨gq, k * 3 + 1, none⟩ = some (.slice (some ⟨b, 0, none⟩) n c) ∧ W.cell? ⟨b, j, none⟩ = some (.int .i64 sub)) w.drew) := Lib.hid ⟨H.mb.wri.cell (o := 1) rfl, by
    have := H.mb.who.cell (who_top hk ss sv wv).2.1
    rw [hsv] at this
    exact this, hcell⟩
  have hcon := duo_begin (H.duo.below (below_drw w)) hn sub (by unfold I64; omega) h1 h2 rfl
  have HCON := Lib.hid hcon
  have HM := Lib.hid H
  have HQ := Lib.hid hQ
  have hw1 : IntKind.i64.wrap ((n : Int) - 1) = (j : Int) := (congrArg IntKind.i64.wrap (show (n : Int) - 1 = (j : Int) by omega)).trans (iwrap (by omega) (by omega))
  have hjz : ¬ (n : Int) ≤ (j : Int) := by omega
  have hjz2 : ¬ n ≤ j := by omega
  clear H hQ hsv hln hcon hl hl9 hj hcell hb hnc hcm h1 h2
  obtain ⟨tl, rfl, hlen⟩ := HF
  refine open_13 tl (by have h := hlen; simp only [List.length_cons, List.length_nil] at h; omega) fun x13 x14 x15 x16 x17 x18 x19 x20 x21 x22 x23 x24 x25 x26 x27 x28 x29 x30 x31 x32 x33 x34 x35 x36 x37 x38 x39 x40 x41 x42 x43 x44 x45 x46 x47 x48 x49 x50 x51 x52 x53 x54 x55 x56 x57 x58 x59 x60 x61 x62 x63 x64 x65 x66 x67 x68 x69 x70 x71 x72 x73 x74 x75 x76 x77 x78 x79 x80 x81 x82 x83 x84 x85 x86 x87 x88 x89 x90 x91 x92 x93 x94 x95 x96 x97 x98 x99 x100 x101 x102 x103 x104 x105 x106 x107 x108 x109 x110 x111 x112 x113 x114 x115 x116 x117 x118 x119 x120 x121 x122 x123 x124 x125 x126 x127 x128 x129 x130 x131 x132 x133 x134 x135 x136 x137 x138 x139 x140 x141 x142 x143 x144 x145 x146 x147 x148 x149 x150 x151 x152 x153 x154 x155 x156 x157 x158 x159 x160 x161 x162 x163 x164 x165 x166 x167 x168 x169 x170 x171 x172 x173 x174 x175 x176 x177 x178 x179 x180 x181 x182 x183 x184 x185 x186 x187 x188 x189 x190 x191 x192 x193 x194 x195 x196 x197 x198 x199 x200 x201 x202 x203 x204 x205 x206 x207 x208 x209 x210 x211 x212 x213 x214 x215 x216 x217 x218 x219 x220 x221 x222 x223 x224 x225 x226 x227 x228 x229 x230 x231 x232 x233 x234 x235 x236 x237 x238 x239 x240 x241 x242 x243 x244 x245 x246 x247 x248 x249 x250 x251 x252 x253 x254 x255 x256 x257 x258 x259 x260 x261 x262 x263 x264 x265 x266 x267 x268 x269 x270 x271 x272 x273 x274 x275 x276 x277 x278 x279 x280 x281 x282 x283 x284 x285 x286 x287 x288 x289 x290 x291 x292 x293 x294 x295 x296 x297 x298 x299 x300 x301 x302 x303 x304 x305 x306 x307 x308 x309 x310 x311 x312 x313 x314 x315 x316 x317 x318 x319 x320 x321 x322 x323 x324 x325 x326 x327 x328 x329 x330 x331 x332 x333 x334 x335 x336 x337 x338 x339 x340 x341 x342 x343 x344 x345 x346 x347 x348 x349 x350 x351 x352 x353 x354 x355 x356 x357 x358 x359 x360 x361 x362 x363 x364 x365 x366 x367 x368 x369 x370 x371 x372 x373 x374 x375 x376 x377 x378 x379 x380 x381 x382 x383 x384 x385 x386 x387 x388 x389 e => ?_
  subst e
  clear hlen
  simp only [List.cons_append, List.nil_append]
  show Code.wp Try.prog (Code.region _ _ _) _ _ _
  refine wp_region_noPanic ?_
  refine wp_region_held_drew (S := (fun W => W.cell? ⟨gw, 1, none⟩ = some (.pointer (some ⟨t, 0, none⟩)) ∧ W.cell? ⟨gq, k * 3 + 1, none⟩ = some (.slice (some ⟨b, 0, none⟩) n c) ∧ W.cell? ⟨b, j, none⟩ = some (.int .i64 sub))) mixed (HSD.out) (fun hS0 => ?_)
  have HS0 := Lib.hid hS0
  clear hS0
  show wpAnyH _ _ _ _ _ 22 _ _ _
  refine wpAnyH_take (i := 0) (oi := _) (v := .pointer (some ⟨gw, 0, none⟩)) rfl (by kernel_rfl) (by kernel_rfl) (by kernel_rfl) (fun _ _ _ h => h) (Or.inl ⟨by rfl, fun w' hw' => ?_⟩) (HS0.out) ?_
  · obtain ⟨j0, j1, j2⟩ := hw'
    go_simp
    try first | with_reducible rfl | simp
  simp only [List.getElem_toArray, List.getElem_cons_zero, Act.put, List.setIfInBounds_toArray, List.set_cons_zero, List.set_cons_succ]
  refine wpAnyH_take (i := 1) (oi := _) (v := .pointer (some ⟨gw, 0, none⟩)) rfl (by kernel_rfl) (by kernel_rfl) (by kernel_rfl) (fun _ _ _ h => h) (Or.inl ⟨by rfl, fun w' hw' => ?_⟩) (HS0.out) ?_
  · obtain ⟨j0, j1, j2⟩ := hw'
    go_simp
    try first | with_reducible rfl | simp
  simp only [List.getElem_toArray, List.getElem_cons_succ, List.getElem_cons_zero, Act.put, List.setIfInBounds_toArray, List.set_cons_zero, List.set_cons_succ]
  refine wpAnyH_take (i := 2) (oi := _) (v := .pointer (some ⟨gw, 1, none⟩)) rfl (by kernel_rfl) (by kernel_rfl) (by kernel_rfl) (fun _ _ _ h => h) (Or.inl ⟨by rfl, fun w' hw' => ?_⟩) (HS0.out) ?_
  · obtain ⟨j0, j1, j2⟩ := hw'
    go_simp
    try first | with_reducible rfl | simp
  simp only [List.getElem_toArray, List.getElem_cons_succ, List.getElem_cons_zero, Act.put, List.setIfInBounds_toArray, List.set_cons_zero, List.set_cons_succ]
  refine wpAnyH_take (i := 3) (oi := _) (v := .pointer (some ⟨t, 0, none⟩)) rfl (by kernel_rfl) (by kernel_rfl) (by kernel_rfl) (fun _ _ _ h => h) (Or.inl ⟨by rfl, fun w' hw' => ?_⟩) (HS0.out) ?_
  · obtain ⟨j0, j1, j2⟩ := hw'
    go_simp
    try first | with_reducible rfl | simp
  simp only [List.getElem_toArray, List.getElem_cons_succ, List.getElem_cons_zero, Act.put, List.setIfInBounds_toArray, List.set_cons_zero, List.set_cons_succ]
  refine wpAnyH_take (i := 4) (oi := _) (v := .pointer (some ⟨gq, k * 3, none⟩)) rfl (by kernel_rfl) (by kernel_rfl) (by kernel_rfl) (fun _ _ _ h => h) (Or.inl ⟨by rfl, fun w' hw' => ?_⟩) (HS0.out) ?_
  · obtain ⟨j0, j1, j2⟩ := hw'
    go_simp
    try first | with_reducible rfl | simp
  simp only [List.getElem_toArray, List.getElem_cons_succ, List.getElem_cons_zero, Act.put, List.setIfInBounds_toArray, List.set_cons_zero, List.set_cons_succ]
  refine wpAnyH_take (i := 5) (oi := _) (v := .pointer (some ⟨gq, k * 3, none⟩)) rfl (by kernel_rfl) (by kernel_rfl) (by kernel_rfl) (fun _ _ _ h => h) (Or.inl ⟨by rfl, fun w' hw' => ?_⟩) (HS0.out) ?_
  · obtain ⟨j0, j1, j2⟩ := hw'
    go_simp
    try first | with_reducible rfl | simp
  simp only [List.getElem_toArray, List.getElem_cons_succ, List.getElem_cons_zero, Act.put, List.setIfInBounds_toArray, List.set_cons_zero, List.set_cons_succ]
  refine wpAnyH_take (i := 6) (oi := _) (v := .pointer (some ⟨gq, k * 3 + 1, none⟩)) rfl (by kernel_rfl) (by kernel_rfl) (by kernel_rfl) (fun _ _ _ h => h) (Or.inl ⟨by rfl, fun w' hw' => ?_⟩) (HS0.out) ?_
  · obtain ⟨j0, j1, j2⟩ := hw'
    go_simp
    try first | with_reducible rfl | simp
  simp only [List.getElem_toArray, List.getElem_cons_succ, List.getElem_cons_zero, Act.put, List.setIfInBounds_toArray, List.set_cons_zero, List.set_cons_succ]
  refine wpAnyH_take (i := 7) (oi := _) (v := .slice (some ⟨b, 0, none⟩) n c) rfl (by kernel_rfl) (by kernel_rfl) (by kernel_rfl) (fun _ _ _ h => h) (Or.inl ⟨by rfl, fun w' hw' => ?_⟩) (HS0.out) ?_
  · obtain ⟨j0, j1, j2⟩ := hw'
    go_simp
    try first | with_reducible rfl | simp
  simp only [List.getElem_toArray, List.getElem_cons_succ, List.getElem_cons_zero, Act.put, List.setIfInBounds_toArray, List.set_cons_zero, List.set_cons_succ]
  refine wpAnyH_take (i := 8) (oi := _) (v := .pointer (some ⟨gq, k * 3, none⟩)) rfl (by kernel_rfl) (by kernel_rfl) (by kernel_rfl) (fun _ _ _ h => h) (Or.inl ⟨by rfl, fun w' hw' => ?_⟩) (HS0.out) ?_
  · obtain ⟨j0, j1, j2⟩ := hw'
    go_simp
    try first | with_reducible rfl | simp
  simp only [List.getElem_toArray, List.getElem_cons_succ, List.getElem_cons_zero, Act.put, List.setIfInBounds_toArray, List.set_cons_zero, List.set_cons_succ]
  refine wpAnyH_take (i := 9) (oi := _) (v := .pointer (some ⟨gq, k * 3, none⟩)) rfl (by kernel_rfl) (by kernel_rfl) (by kernel_rfl) (fun _ _ _ h => h) (Or.inl ⟨by rfl, fun w' hw' => ?_⟩) (HS0.out) ?_
  · obtain ⟨j0, j1, j2⟩ := hw'
    go_simp
    try first | with_reducible rfl | simp
  simp only [List.getElem_toArray, List.getElem_cons_succ, List.getElem_cons_zero, Act.put, List.setIfInBounds_toArray, List.set_cons_zero, List.set_cons_succ]
  refine wpAnyH_take (i := 10) (oi := _) (v := .pointer (some ⟨gq, k * 3 + 1, none⟩)) rfl (by kernel_rfl) (by kernel_rfl) (by kernel_rfl) (fun _ _ _ h => h) (Or.inl ⟨by rfl, fun w' hw' => ?_⟩) (HS0.out) ?_
  · obtain ⟨j0, j1, j2⟩ := hw'
    go_simp
    try first | with_reducible rfl | simp
  simp only [List.getElem_toArray, List.getElem_cons_succ, List.getElem_cons_zero, Act.put, List.setIfInBounds_toArray, List.set_cons_zero, List.set_cons_succ]
  refine wpAnyH_take (i := 11) (oi := _) (v := .slice (some ⟨b, 0, none⟩) n c) rfl (by kernel_rfl) (by kernel_rfl) (by kernel_rfl) (fun _ _ _ h => h) (Or.inl ⟨by rfl, fun w' hw' => ?_⟩) (HS0.out) ?_
  · obtain ⟨j0, j1, j2⟩ := hw'
    go_simp
    try first | with_reducible rfl | simp
  simp only [List.getElem_toArray, List.getElem_cons_succ, List.getElem_cons_zero, Act.put, List.setIfInBounds_toArray, List.set_cons_zero, List.set_cons_succ]
  refine wpAnyH_take (i := 12) (oi := _) (v := .int .i64 (n : Int)) rfl (by kernel_rfl) (by kernel_rfl) (by kernel_rfl) (fun _ _ _ h => h) (Or.inl ⟨by rfl, fun w' hw' => ?_⟩) (HS0.out) ?_
  · obtain ⟨j0, j1, j2⟩ := hw'
    go_simp
    try first | with_reducible rfl | simp
  simp only [List.getElem_toArray, List.getElem_cons_succ, List.getElem_cons_zero, Act.put, List.setIfInBounds_toArray, List.set_cons_zero, List.set_cons_succ]
  refine wpAnyH_take (i := 13) (oi := _) (v := .int .i64 (j : Int)) rfl (by kernel_rfl) (by kernel_rfl) (by kernel_rfl) (fun _ _ _ h => h) (Or.inl ⟨by rfl, fun w' hw' => ?_⟩) (HS0.out) ?_
  · obtain ⟨j0, j1, j2⟩ := hw'
    go_simp
    try first | with_reducible rfl | simp
  simp only [List.getElem_toArray, List.getElem_cons_succ, List.getElem_cons_zero, Act.put, List.setIfInBounds_toArray, List.set_cons_zero, List.set_cons_succ]
  refine wpAnyH_take (i := 14) (oi := _) (v := .pointer (some ⟨b, j, none⟩)) rfl (by kernel_rfl) (by kernel_rfl) (by kernel_rfl) (fun _ _ _ h => h) (Or.inl ⟨by rfl, fun w' hw' => ?_⟩) (HS0.out) ?_
  · obtain ⟨j0, j1, j2⟩ := hw'
    go_simp
    try first | with_reducible rfl | simp
  simp only [List.getElem_toArray, List.getElem_cons_succ, List.getElem_cons_zero, Act.put, List.setIfInBounds_toArray, List.set_cons_zero, List.set_cons_succ]
  refine wpAnyH_take (i := 15) (oi := _) (v := .int .i64 sub) rfl (by kernel_rfl) (by kernel_rfl) (by kernel_rfl) (fun _ _ _ h => h) (Or.inl ⟨by rfl, fun w' hw' => ?_⟩) (HS0.out) ?_
  · obtain ⟨j0, j1, j2⟩ := hw'
    go_simp
    try first | with_reducible rfl | simp
  simp only [List.getElem_toArray, List.getElem_cons_succ, List.getElem_cons_zero, Act.put, List.setIfInBounds_toArray, List.set_cons_zero, List.set_cons_succ]
  refine RX.anyH_call (i := 16) (f := 10) (args := #[.pointer (some ⟨t, 0, none⟩), .int .i64 sub]) (by kernel_rfl) rfl (by rfl) (by go_simp) ?_
  refine (show Calls Try.prog _ _ _ _ from HCON.out).mono ?_
  rintro e w2 ⟨rfl, hd2, hs2⟩
  have HM2 := Lib.hid (HM.out.below (below_drw w) |>.turn hd2 hs2)
  have HSX : Hid ((fun W => W.cell? ⟨gw, 1, none⟩ = some (.pointer (some ⟨t, 0, none⟩)) ∧ W.cell? ⟨gq, k * 3 + 1, none⟩ = some (.slice (some ⟨b, 0, none⟩) n c) ∧ W.cell? ⟨b, j, none⟩ = some (.int .i64 sub)) w2) := Lib.hid (HSB.out _ HM2.out)
  clear hd2 hs2 HCON
  refine ⟨.tuple #[.int .i64 id, .int .i64 0], rfl, HSX.out, ?_⟩
  simp only [List.getElem_toArray, List.getElem_cons_succ, List.getElem_cons_zero, Act.put, List.setIfInBounds_toArray, List.set_cons_zero, List.set_cons_succ]
  refine wpAnyH_take (i := 17) (oi := _) (v := .tuple #[.int .i64 id, .int .i64 0]) rfl (by kernel_rfl) (by kernel_rfl) (by kernel_rfl) (fun _ _ _ h => h) (Or.inl ⟨by rfl, fun w' hw' => ?_⟩) (HSX.out) ?_
  · obtain ⟨j0, j1, j2⟩ := hw'
    go_simp
    try first | with_reducible rfl | simp
  simp only [List.getElem_toArray, List.getElem_cons_succ, List.getElem_cons_zero, Act.put, List.setIfInBounds_toArray, List.set_cons_zero, List.set_cons_succ]
  refine wpAnyH_take (i := 18) (oi := _) (v := .int .i64 id) rfl (by kernel_rfl) (by kernel_rfl) (by kernel_rfl) (fun _ _ _ h => h) (Or.inl ⟨by rfl, fun w' hw' => ?_⟩) (HSX.out) ?_
  · obtain ⟨j0, j1, j2⟩ := hw'
    go_simp
    try first | with_reducible rfl | simp
  simp only [List.getElem_toArray, List.getElem_cons_succ, List.getElem_cons_zero, Act.put, List.setIfInBounds_toArray, List.set_cons_zero, List.set_cons_succ]
  refine wpAnyH_take (i := 19) (oi := _) (v := .int .i64 0) rfl (by kernel_rfl) (by kernel_rfl) (by kernel_rfl) (fun _ _ _ h => h) (Or.inl ⟨by rfl, fun w' hw' => ?_⟩) (HSX.out) ?_
  · obtain ⟨j0, j1, j2⟩ := hw'
    go_simp
    try first | with_reducible rfl | simp
  simp only [List.getElem_toArray, List.getElem_cons_succ, List.getElem_cons_zero, Act.put, List.setIfInBounds_toArray, List.set_cons_zero, List.set_cons_succ]
  refine wpAnyH_take (i := 20) (oi := _) (v := .int .i64 id) rfl (by kernel_rfl) (by kernel_rfl) (by kernel_rfl) (fun _ _ _ h => h) (Or.inl ⟨by rfl, fun w' hw' => ?_⟩) (HSX.out) ?_
  · obtain ⟨j0, j1, j2⟩ := hw'
    go_simp
    try first | with_reducible rfl | simp
  simp only [List.getElem_toArray, List.getElem_cons_succ, List.getElem_cons_zero, Act.put, List.setIfInBounds_toArray, List.set_cons_zero, List.set_cons_succ]
  refine wpAnyH_take (i := 21) (oi := _) (v := .int .i64 0) rfl (by kernel_rfl) (by kernel_rfl) (by kernel_rfl) (fun _ _ _ h => h) (Or.inl ⟨by rfl, fun w' hw' => ?_⟩) (HSX.out) ?_
  · obtain ⟨j0, j1, j2⟩ := hw'
    go_simp
    try first | with_reducible rfl | simp
  simp only [List.getElem_toArray, List.getElem_cons_succ, List.getElem_cons_zero, Act.put, List.setIfInBounds_toArray, List.set_cons_zero, List.set_cons_succ]
  refine wpAnyH_done (by kernel_rfl) ?_ _
  refine NoPanic.normal ?_
  exact HQ.out _ _ _ _ _ _ _ _ ⟨_, rfl, rfl⟩ HM2.out

set_option maxRecDepth 100000 in
set_option maxHeartbeats 8000000 in
theorem osaveR_is {v0 v1 s2 s3 s4 v11 : Value} {tk : Bool} {x13 x14 x15 x16 x17 x18 : Value} {L : Nat → Lb} {w0 w : World} {h t gw gc gk gs gq z m : Nat} {A : Ab} {T : Tb} {ss : Nat → List Int} {P : Int → List Wt} {f kept : Int → Int} {at0 : Int} {sv wv : Nat → Value} (H : Me L w0 w h t gw gc gk gs gq z m A T ss ss P f kept at0 sv wv) {k : Nat} (hk : k < 3) {n : Nat} (hln : (ss k).length = n) (hn0 : 1 ≤ n) (hn9 : n ≤ 1001) {id : Int} (hno : ∀ y, lastBy id (P y) = none) {a : Act}
    (HF : Fr [v0, v1, s2, s3, s4, .pointer (some ⟨gw, 0, none⟩), .pointer (some ⟨gc, 0, none⟩), .pointer (some ⟨gk, 0, none⟩), .pointer (some ⟨gs, 0, none⟩), .bool tk, .pointer (some ⟨gq, 0, none⟩), v11, .pointer (some ⟨gq, k * 3, none⟩), x13, x14, x15, x16, x17, x18, .int .i64 id, .int .i64 0] a) {Q : Exit → Act → World → Prop} (hQ : ∀ a' w', Fr [v0, v1, s2, s3, s4, .pointer (some ⟨gw, 0, none⟩), .pointer (some ⟨gc, 0, none⟩), .pointer (some ⟨gk, 0, none⟩), .pointer (some ⟨gs, 0, none⟩), .bool tk, .pointer (some ⟨gq, 0, none⟩), v11] a' → (∃ L' sv' wv', Me L' w0 w' h t gw gc gk gs gq z m A T (updS ss k (ss k ++ [id])) (updS ss k (ss k ++ [id])) P f kept at0 sv' wv') → Q .normal a' w') :
    Code.wp Try.prog (nav [true, true, true, true, true, true, true, true, false, true, false, false, true, false, false, true, true, false, false, true, true, true, true, true, true, true, false, true] (Try.f3.body.getD .skip)) Q a w := by
  have hmm := @run_makeMap Try.prog
  have hne : ss k ≠ [] := fun e => by rw [e] at hln; simp at hln; omega
  obtain ⟨a6, c6, W6, happ, hq6, L6, hm6⟩ := H.sub1 hk hne hln (by omega) id
  obtain ⟨sb, sc, hsv, -, hscm⟩ : ∃ sb sc, sv k = .slice sb n sc ∧ n ≤ sc ∧ sc ≤ maxLen := by
    obtain ⟨sb, sc, e, h2⟩ := (H.mb.sub k hk).row.form
    rw [hln] at e h2
    exact ⟨sb, sc, e, h2⟩
  obtain ⟨wb, wc, hwv, -, hwm⟩ : ∃ wb wc, wv k = .slice wb n wc ∧ n ≤ wc ∧ wc ≤ maxLen := by
    obtain ⟨mb, h1, -⟩ := (H.mb.wro k hk).row
    obtain ⟨wb, wc, e, h2⟩ := h1.form
    rw [hln] at e h2
    exact ⟨wb, wc, e, h2⟩
  rw [hsv] at happ
  have HM6 := Lib.hid hm6
  have hq2 := H.mb.who.cell (who_top hk ss sv wv).2.1
  rw [hsv] at hq2
  have ql2 := H.mb.who.lt
  have q6 := hq6.cell (who_top hk ss sv wv).2.1
  have f6 := hq6.fz (k * 3 + 1)
  have ql6 := hq6.lt
  obtain ⟨W7, hW7⟩ : ∃ W, W6.setCell ⟨gq, k * 3 + 1, none⟩ (.slice a6 (n + 1) c6) = W := ⟨_, rfl⟩
  rw [hW7] at HM6
  obtain ⟨g7, hg7⟩ : ∃ g, W7.heap.size = g := ⟨_, rfl⟩
  obtain ⟨a8, c8, W8, happ8, hq8, L8, hm8⟩ := HM6.out.wro1 hk hln (by omega) hno hg7
  have HM8 := Lib.hid hm8
  rw [hwv] at happ8
  have q7 := HM6.out.mb.who.cell (who_top hk _ _ _).2.2
  rw [hwv] at q7
  have ql7 := HM6.out.mb.who.lt
  have q8 := hq8.cell (who_top hk _ _ _).2.2
  have f8 := hq8.fz (k * 3 + 2)
  have ql8 := hq8.lt
  have HQ := Lib.hid hQ
  have R1 := Lib.hid happ
  have R2 := Lib.hid happ8
  clear hm6 hm8 hq6 hq8 HM6 hno H hQ happ happ8 hsv hwv hln hn0 hne
  obtain ⟨tl, rfl, hlen⟩ := HF
  refine open_21 tl (by have h := hlen; simp only [List.length_cons, List.length_nil] at h; omega) fun x21 x22 x23 x24 x25 x26 x27 x28 x29 x30 x31 x32 x33 x34 x35 x36 x37 x38 x39 x40 x41 x42 x43 x44 x45 x46 x47 x48 x49 x50 x51 x52 x53 x54 x55 x56 x57 x58 x59 x60 x61 x62 x63 x64 x65 x66 x67 x68 x69 x70 x71 x72 x73 x74 x75 x76 x77 x78 x79 x80 x81 x82 x83 x84 x85 x86 x87 x88 x89 x90 x91 x92 x93 x94 x95 x96 x97 x98 x99 x100 x101 x102 x103 x104 x105 x106 x107 x108 x109 x110 x111 x112 x113 x114 x115 x116 x117 x118 x119 x120 x121 x122 x123 x124 x125 x126 x127 x128 x129 x130 x131 x132 x133 x134 x135 x136 x137 x138 x139 x140 x141 x142 x143 x144 x145 x146 x147 x148 x149 x150 x151 x152 x153 x154 x155 x156 x157 x158 x159 x160 x161 x162 x163 x164 x165 x166 x167 x168 x169 x170 x171 x172 x173 x174 x175 x176 x177 x178 x179 x180 x181 x182 x183 x184 x185 x186 x187 x188 x189 x190 x191 x192 x193 x194 x195 x196 x197 x198 x199 x200 x201 x202 x203 x204 x205 x206 x207 x208 x209 x210 x211 x212 x213 x214 x215 x216 x217 x218 x219 x220 x221 x222 x223 x224 x225 x226 x227 x228 x229 x230 x231 x232 x233 x234 x235 x236 x237 x238 x239 x240 x241 x242 x243 x244 x245 x246 x247 x248 x249 x250 x251 x252 x253 x254 x255 x256 x257 x258 x259 x260 x261 x262 x263 x264 x265 x266 x267 x268 x269 x270 x271 x272 x273 x274 x275 x276 x277 x278 x279 x280 x281 x282 x283 x284 x285 x286 x287 x288 x289 x290 x291 x292 x293 x294 x295 x296 x297 x298 x299 x300 x301 x302 x303 x304 x305 x306 x307 x308 x309 x310 x311 x312 x313 x314 x315 x316 x317 x318 x319 x320 x321 x322 x323 x324 x325 x326 x327 x328 x329 x330 x331 x332 x333 x334 x335 x336 x337 x338 x339 x340 x341 x342 x343 x344 x345 x346 x347 x348 x349 x350 x351 x352 x353 x354 x355 x356 x357 x358 x359 x360 x361 x362 x363 x364 x365 x366 x367 x368 x369 x370 x371 x372 x373 x374 x375 x376 x377 x378 x379 x380 x381 x382 x383 x384 x385 x386 x387 x388 x389 e => ?_
  subst e
  clear hlen
  simp only [List.cons_append, List.nil_append]
  show Code.wp Try.prog (Code.seq _ _) _ _ _
  go_wp2_with (first | (at_builtin; first | (refine append_dst 250 rfl ?_; refine append_stepW rfl _ _ 35 rfl _ _ _ _ rfl rfl (R1.out _) ?_) | (refine append_dst 260 rfl ?_; refine append_stepW rfl _ _ 36 rfl _ _ _ _ rfl rfl (R2.out _) ?_)) | fail)
  exact HQ.out _ _ ⟨_, rfl, rfl⟩ ⟨_, _, _, HM8.out⟩


end Go.Proofs.Ytbgnbaogclnpgaa

namespace Go.Proofs.Ytbgnbaogclnpgaa
open Go.RowKit
set_option linter.unusedVariables false

theorem open_22 {C : Prop} (tl : List Value) (h : tl.length = 368) (H : ∀ x22 x23 x24 x25 x26 x27 x28 x29 x30 x31 x32 x33 x34 x35 x36 x37 x38 x39 x40 x41 x42 x43 x44 x45 x46 x47 x48 x49 x50 x51 x52 x53 x54 x55 x56 x57 x58 x59 x60 x61 x62 x63 x64 x65 x66 x67 x68 x69 x70 x71 x72 x73 x74 x75 x76 x77 x78 x79 x80 x81 x82 x83 x84 x85 x86 x87 x88 x89 x90 x91 x92 x93 x94 x95 x96 x97 x98 x99 x100 x101 x102 x103 x104 x105 x106 x107 x108 x109 x110 x111 x112 x113 x114 x115 x116 x117 x118 x119 x120 x121 x122 x123 x124 x125 x126 x127 x128 x129 x130 x131 x132 x133 x134 x135 x136 x137 x138 x139 x140 x141 x142 x143 x144 x145 x146 x147 x148 x149 x150 x151 x152 x153 x154 x155 x156 x157 x158 x159 x160 x161 x162 x163 x164 x165 x166 x167 x168 x169 x170 x171 x172 x173 x174 x175 x176 x177 x178 x179 x180 x181 x182 x183 x184 x185 x186 x187 x188 x189 x190 x191 x192 x193 x194 x195 x196 x197 x198 x199 x200 x201 x202 x203 x204 x205 x206 x207 x208 x209 x210 x211 x212 x213 x214 x215 x216 x217 x218 x219 x220 x221 x222 x223 x224 x225 x226 x227 x228 x229 x230 x231 x232 x233 x234 x235 x236 x237 x238 x239 x240 x241 x242 x243 x244 x245 x246 x247 x248 x249 x250 x251 x252 x253 x254 x255 x256 x257 x258 x259 x260 x261 x262 x263 x264 x265 x266 x267 x268 x269 x270 x271 x272 x273 x274 x275 x276 x277 x278 x279 x280 x281 x282 x283 x284 x285 x286 x287 x288 x289 x290 x291 x292 x293 x294 x295 x296 x297 x298 x299 x300 x301 x302 x303 x304 x305 x306 x307 x308 x309 x310 x311 x312 x313 x314 x315 x316 x317 x318 x319 x320 x321 x322 x323 x324 x325 x326 x327 x328 x329 x330 x331 x332 x333 x334 x335 x336 x337 x338 x339 x340 x341 x342 x343 x344 x345 x346 x347 x348 x349 x350 x351 x352 x353 x354 x355 x356 x357 x358 x359 x360 x361 x362 x363 x364 x365 x366 x367 x368 x369 x370 x371 x372 x373 x374 x375 x376 x377 x378 x379 x380 x381 x382 x383 x384 x385 x386 x387 x388 x389 : Value, tl = [x22, x23, x24, x25, x26, x27, x28, x29, x30, x31, x32, x33, x34, x35, x36, x37, x38, x39, x40, x41, x42, x43, x44, x45, x46, x47, x48, x49, x50, x51, x52, x53, x54, x55, x56, x57, x58, x59, x60, x61, x62, x63, x64, x65, x66, x67, x68, x69, x70, x71, x72, x73, x74, x75, x76, x77, x78, x79, x80, x81, x82, x83, x84, x85, x86, x87, x88, x89, x90, x91, x92, x93, x94, x95, x96, x97, x98, x99, x100, x101, x102, x103, x104, x105, x106, x107, x108, x109, x110, x111, x112, x113, x114, x115, x116, x117, x118, x119, x120, x121, x122, x123, x124, x125, x126, x127, x128, x129, x130, x131, x132, x133, x134, x135, x136, x137, x138, x139, x140, x141, x142, x143, x144, x145, x146, x147, x148, x149, x150, x151, x152, x153, x154, x155, x156, x157, x158, x159, x160, x161, x162, x163, x164, x165, x166, x167, x168, x169, x170, x171, x172, x173, x174, x175, x176, x177, x178, x179, x180, x181, x182, x183, x184, x185, x186, x187, x188, x189, x190, x191, x192, x193, x194, x195, x196, x197, x198, x199, x200, x201, x202, x203, x204, x205, x206, x207, x208, x209, x210, x211, x212, x213, x214, x215, x216, x217, x218, x219, x220, x221, x222, x223, x224, x225, x226, x227, x228, x229, x230, x231, x232, x233, x234, x235, x236, x237, x238, x239, x240, x241, x242, x243, x244, x245, x246, x247, x248, x249, x250, x251, x252, x253, x254, x255, x256, x257, x258, x259, x260, x261, x262, x263, x264, x265, x266, x267, x268, x269, x270, x271, x272, x273, x274, x275, x276, x277, x278, x279, x280, x281, x282, x283, x284, x285, x286, x287, x288, x289, x290, x291, x292, x293, x294, x295, x296, x297, x298, x299, x300, x301, x302, x303, x304, x305, x306, x307, x308, x309, x310, x311, x312, x313, x314, x315, x316, x317, x318, x319, x320, x321, x322, x323, x324, x325, x326, x327, x328, x329, x330, x331, x332, x333, x334, x335, x336, x337, x338, x339, x340, x341, x342, x343, x344, x345, x346, x347, x348, x349, x350, x351, x352, x353, x354, x355, x356, x357, x358, x359, x360, x361, x362, x363, x364, x365, x366, x367, x368, x369, x370, x371, x372, x373, x374, x375, x376, x377, x378, x379, x380, x381, x382, x383, x384, x385, x386, x387, x388, x389] → C) : C := by
  refine H (tl.getD 0 undef) (tl.getD 1 undef) (tl.getD 2 undef) (tl.getD 3 undef) (tl.getD 4 undef) (tl.getD 5 undef) (tl.getD 6 undef) (tl.getD 7 undef) (tl.getD 8 undef) (tl.getD 9 undef) (tl.getD 10 undef) (tl.getD 11 undef) (tl.getD 12 undef) (tl.getD 13 undef) (tl.getD 14 undef) (tl.getD 15 undef) (tl.getD 16 undef) (tl.getD 17 undef) (tl.getD 18 undef) (tl.getD 19 undef) (tl.getD 20 undef) (tl.getD 21 undef) (tl.getD 22 undef) (tl.getD 23 undef) (tl.getD 24 undef) (tl.getD 25 undef) (tl.getD 26 undef) (tl.getD 27 undef) (tl.getD 28 undef) (tl.getD 29 undef) (tl.getD 30 undef) (tl.getD 31 undef) (tl.getD 32 undef) (tl.getD 33 undef) (tl.getD 34 undef) (tl.getD 35 undef) (tl.getD 36 undef) (tl.getD 37 undef) (tl.getD 38 undef) (tl.getD 39 undef) (tl.getD 40 undef) (tl.getD 41 undef) (tl.getD 42 undef) (tl.getD 43 undef) (tl.getD 44 undef) (tl.getD 45 undef) (tl.getD 46 undef) (tl.getD 47 undef) (tl.getD 48 undef) (tl.getD 49 undef) (tl.getD 50 undef) (tl.getD 51 undef) (tl.getD 52 undef) (tl.getD 53 undef) (tl.getD 54 undef) (tl.getD 55 undef) (tl.getD 56 undef) (tl.getD 57 undef) (tl.getD 58 undef) (tl.getD 59 undef) (tl.getD 60 undef) (tl.getD 61 undef) (tl.getD 62 undef) (tl.getD 63 undef) (tl.getD 64 undef) (tl.getD 65 undef) (tl.getD 66 undef) (tl.getD 67 undef) (tl.getD 68 undef) (tl.getD 69 undef) (tl.getD 70 undef) (tl.getD 71 undef) (tl.getD 72 undef) (tl.getD 73 undef) (tl.getD 74 undef) (tl.getD 75 undef) (tl.getD 76 undef) (tl.getD 77 undef) (tl.getD 78 undef) (tl.getD 79 undef) (tl.getD 80 undef) (tl.getD 81 undef) (tl.getD 82 undef) (tl.getD 83 undef) (tl.getD 84 undef) (tl.getD 85 undef) (tl.getD 86 undef) (tl.getD 87 undef) (tl.getD 88 undef) (tl.getD 89 undef) (tl.getD 90 undef) (tl.getD 91 undef) (tl.getD 92 undef) (tl.getD 93 undef) (tl.getD 94 undef) (tl.getD 95 undef) (tl.getD 96 undef) (tl.getD 97 undef) (tl.getD 98 undef) (tl.getD 99 undef) (tl.getD 100 undef) (tl.getD 101 undef) (tl.getD 102 undef) (tl.getD 103 undef) (tl.getD 104 undef) (tl.getD 105 undef) (tl.getD 106 undef) (tl.getD 107 undef) (tl.getD 108 undef) (tl.getD 109 undef) (tl.getD 110 undef) (tl.getD 111 undef) (tl.getD 112 undef) (tl.getD 113 undef) (tl.getD 114 undef) (tl.getD 115 undef) (tl.getD 116 undef) (tl.getD 117 undef) (tl.getD 118 undef) (tl.getD 119 undef) (tl.getD 120 undef) (tl.getD 121 undef) (tl.getD 122 undef) (tl.getD 123 undef) (tl.getD 124 undef) (tl.getD 125 undef) (tl.getD 126 undef) (tl.getD 127 undef) (tl.getD 128 undef) (tl.getD 129 undef) (tl.getD 130 undef) (tl.getD 131 undef) (tl.getD 132 undef) (tl.getD 133 undef) (tl.getD 134 undef) (tl.getD 135 undef) (tl.getD 136 undef) (tl.getD 137 undef) (tl.getD 138 undef) (tl.getD 139 undef) (tl.getD 140 undef) (tl.getD 141 undef) (tl.getD 142 undef) (tl.getD 143 undef) (tl.getD 144 undef) (tl.getD 145 undef) (tl.getD 146 undef) (tl.getD 147 undef) (tl.getD 148 undef) (tl.getD 149 undef) (tl.getD 150 undef) (tl.getD 151 undef) (tl.getD 152 undef) (tl.getD 153 undef) (tl.getD 154 undef) (tl.getD 155 undef) (tl.getD 156 undef) (tl.getD 157 undef) (tl.getD 158 undef) (tl.getD 159 undef) (tl.getD 160 undef) (tl.getD 161 undef) (tl.getD 162 undef) (tl.getD 163 undef) (tl.getD 164 undef) (tl.getD 165 undef) (tl.getD 166 undef) (tl.getD 167 undef) (tl.getD 168 undef) (tl.getD 169 undef) (tl.getD 170 undef) (tl.getD 171 undef) (tl.getD 172 undef) (tl.getD 173 undef) (tl.getD 174 undef) (tl.getD 175 undef) (tl.getD 176 undef) (tl.getD 177 undef) (tl.getD 178 undef) (tl.getD 179 undef) (tl.getD 180 undef) (tl.getD 181 undef) (tl.getD 182 undef) (tl.getD 183 undef) (tl.getD 184 undef) (tl.getD 185 undef) (tl.getD 186 undef) (tl.getD 187 undef) (tl.getD 188 undef) (tl.getD 189 undef) (tl.getD 190 undef) (tl.getD 191 undef) (tl.getD 192 undef) (tl.getD 193 undef) (tl.getD 194 undef) (tl.getD 195 undef) (tl.getD 196 undef) (tl.getD 197 undef) (tl.getD 198 undef) (tl.getD 199 undef) (tl.getD 200 undef) (tl.getD 201 undef) (tl.getD 202 undef) (tl.getD 203 undef) (tl.getD 204 undef) (tl.getD 205 undef) (tl.getD 206 undef) (tl.getD 207 undef) (tl.getD 208 undef) (tl.getD 209 undef) (tl.getD 210 undef) (tl.getD 211 undef) (tl.getD 212 undef) (tl.getD 213 undef) (tl.getD 214 undef) (tl.getD 215 undef) (tl.getD 216 undef) (tl.getD 217 undef) (tl.getD 218 undef) (tl.getD 219 undef) (tl.getD 220 undef) (tl.getD 221 undef) (tl.getD 222 undef) (tl.getD 223 undef) (tl.getD 224 undef) (tl.getD 225 undef) (tl.getD 226 undef) (tl.getD 227 undef) (tl.getD 228 undef) (tl.getD 229 undef) (tl.getD 230 undef) (tl.getD 231 undef) (tl.getD 232 undef) (tl.getD 233 undef) (tl.getD 234 undef) (tl.getD 235 undef) (tl.getD 236 undef) (tl.getD 237 undef) (tl.getD 238 undef) (tl.getD 239 undef) (tl.getD 240 undef) (tl.getD 241 undef) (tl.getD 242 undef) (tl.getD 243 undef) (tl.getD 244 undef) (tl.getD 245 undef) (tl.getD 246 undef) (tl.getD 247 undef) (tl.getD 248 undef) (tl.getD 249 undef) (tl.getD 250 undef) (tl.getD 251 undef) (tl.getD 252 undef) (tl.getD 253 undef) (tl.getD 254 undef) (tl.getD 255 undef) (tl.getD 256 undef) (tl.getD 257 undef) (tl.getD 258 undef) (tl.getD 259 undef) (tl.getD 260 undef) (tl.getD 261 undef) (tl.getD 262 undef) (tl.getD 263 undef) (tl.getD 264 undef) (tl.getD 265 undef) (tl.getD 266 undef) (tl.getD 267 undef) (tl.getD 268 undef) (tl.getD 269 undef) (tl.getD 270 undef) (tl.getD 271 undef) (tl.getD 272 undef) (tl.getD 273 undef) (tl.getD 274 undef) (tl.getD 275 undef) (tl.getD 276 undef) (tl.getD 277 undef) (tl.getD 278 undef) (tl.getD 279 undef) (tl.getD 280 undef) (tl.getD 281 undef) (tl.getD 282 undef) (tl.getD 283 undef) (tl.getD 284 undef) (tl.getD 285 undef) (tl.getD 286 undef) (tl.getD 287 undef) (tl.getD 288 undef) (tl.getD 289 undef) (tl.getD 290 undef) (tl.getD 291 undef) (tl.getD 292 undef) (tl.getD 293 undef) (tl.getD 294 undef) (tl.getD 295 undef) (tl.getD 296 undef) (tl.getD 297 undef) (tl.getD 298 undef) (tl.getD 299 undef) (tl.getD 300 undef) (tl.getD 301 undef) (tl.getD 302 undef) (tl.getD 303 undef) (tl.getD 304 undef) (tl.getD 305 undef) (tl.getD 306 undef) (tl.getD 307 undef) (tl.getD 308 undef) (tl.getD 309 undef) (tl.getD 310 undef) (tl.getD 311 undef) (tl.getD 312 undef) (tl.getD 313 undef) (tl.getD 314 undef) (tl.getD 315 undef) (tl.getD 316 undef) (tl.getD 317 undef) (tl.getD 318 undef) (tl.getD 319 undef) (tl.getD 320 undef) (tl.getD 321 undef) (tl.getD 322 undef) (tl.getD 323 undef) (tl.getD 324 undef) (tl.getD 325 undef) (tl.getD 326 undef) (tl.getD 327 undef) (tl.getD 328 undef) (tl.getD 329 undef) (tl.getD 330 undef) (tl.getD 331 undef) (tl.getD 332 undef) (tl.getD 333 undef) (tl.getD 334 undef) (tl.getD 335 undef) (tl.getD 336 undef) (tl.getD 337 undef) (tl.getD 338 undef) (tl.getD 339 undef) (tl.getD 340 undef) (tl.getD 341 undef) (tl.getD 342 undef) (tl.getD 343 undef) (tl.getD 344 undef) (tl.getD 345 undef) (tl.getD 346 undef) (tl.getD 347 undef) (tl.getD 348 undef) (tl.getD 349 undef) (tl.getD 350 undef) (tl.getD 351 undef) (tl.getD 352 undef) (tl.getD 353 undef) (tl.getD 354 undef) (tl.getD 355 undef) (tl.getD 356 undef) (tl.getD 357 undef) (tl.getD 358 undef) (tl.getD 359 undef) (tl.getD 360 undef) (tl.getD 361 undef) (tl.getD 362 undef) (tl.getD 363 undef) (tl.getD 364 undef) (tl.getD 365 undef) (tl.getD 366 undef) (tl.getD 367 undef) ?_
  refine (list_ran h).trans ?_
  kernel_rfl
set_option maxRecDepth 100000 in
set_option maxHeartbeats 8000000 in
theorem ob54_is {v0 v1 s2 s3 s4 v11 : Value} {tk : Bool} {x13 x14 x15 x16 x17 x18 x19 x20 : Value} {L : Nat → Lb} {w0 w : World} {h t gw gc gk gs gq z m : Nat} {A : Ab} {T : Tb} {ss : Nat → List Int} {P : Int → List Wt} {f kept : Int → Int} {at0 : Int} {sv wv : Nat → Value} (H : Me L w0 w h t gw gc gk gs gq z m A T ss ss P f kept at0 sv wv) {k : Nat} (hk : k < 3) (hn : T.n ≤ 1000) {l : List Int} {sub : Int} (hl : ss k = l ++ [sub]) {j n : Nat} (hj : l.length = j) (hnj : j + 1 = n) (hj9 : j ≤ 1000) (hsub : 1 ≤ sub ∧ sub ≤ 1000) (he : T.err sub = 0) {a : Act}
    (HF : Fr [v0, v1, s2, s3, s4, .pointer (some ⟨gw, 0, none⟩), .pointer (some ⟨gc, 0, none⟩), .pointer (some ⟨gk, 0, none⟩), .pointer (some ⟨gs, 0, none⟩), .bool tk, .pointer (some ⟨gq, 0, none⟩), v11, .pointer (some ⟨gq, k * 3, none⟩), x13, x14, x15, x16, x17, x18, x19, x20, .int .i64 (j : Int)] a) {Q : Exit → Act → World → Prop} (hQ : ∀ a' w', Fr [v0, v1, s2, s3, s4, .pointer (some ⟨gw, 0, none⟩), .pointer (some ⟨gc, 0, none⟩), .pointer (some ⟨gk, 0, none⟩), .pointer (some ⟨gs, 0, none⟩), .bool tk, .pointer (some ⟨gq, 0, none⟩), v11, .pointer (some ⟨gq, k * 3, none⟩), x13, x14, x15, x16, x17, x18, x19, x20, .int .i64 (j : Int)] a' → Me L w0 w' h t gw gc gk gs gq z m A (T.aboT sub) ss ss P f kept at0 sv wv → Q .normal a' w') :
    Code.wp Try.prog (nav [true, true, true, true, true, true, true, true, false, true, false, false, true, false, false, true, true, false, false, true, true, true, true, true, true, true, true, true, false, true, true, false, false] (Try.f3.body.getD .skip)) Q a w := by
  have mixed : Try.prog.follows Departure.mixedOrders = true := by kernel_rfl
  have hln : (ss k).length = n := by rw [hl, List.length_append, List.length_singleton, hj, hnj]
  obtain ⟨b, c, hsv, hnc, hcm, hb, hcell, -⟩ := RowI.at (H.mb.sub k hk).row (j := j) (by omega)
  rw [hln] at hsv hnc hcell
  have hcell := hcell j (by omega)
  rw [hl, show (l ++ [sub]).getD j 0 = sub by rw [← hj]; simp] at hcell
  have HM := Lib.hid H
  have HQ := Lib.hid hQ
  have HSV := Lib.hid hsv
  have HBL := Lib.hid hb
  have HCE := Lib.hid hcell
  have HE := Lib.hid he
  have hjz : ¬ (n : Int) ≤ (j : Int) := by omega
  have hjz2 : ¬ n ≤ j := by omega
  clear H hQ hsv hln hl hj hcell hb hnc hcm he
  obtain ⟨tl, rfl, hlen⟩ := HF
  refine open_22 tl (by have h := hlen; simp only [List.length_cons, List.length_nil] at h; omega) fun x22 x23 x24 x25 x26 x27 x28 x29 x30 x31 x32 x33 x34 x35 x36 x37 x38 x39 x40 x41 x42 x43 x44 x45 x46 x47 x48 x49 x50 x51 x52 x53 x54 x55 x56 x57 x58 x59 x60 x61 x62 x63 x64 x65 x66 x67 x68 x69 x70 x71 x72 x73 x74 x75 x76 x77 x78 x79 x80 x81 x82 x83 x84 x85 x86 x87 x88 x89 x90 x91 x92 x93 x94 x95 x96 x97 x98 x99 x100 x101 x102 x103 x104 x105 x106 x107 x108 x109 x110 x111 x112 x113 x114 x115 x116 x117 x118 x119 x120 x121 x122 x123 x124 x125 x126 x127 x128 x129 x130 x131 x132 x133 x134 x135 x136 x137 x138 x139 x140 x141 x142 x143 x144 x145 x146 x147 x148 x149 x150 x151 x152 x153 x154 x155 x156 x157 x158 x159 x160 x161 x162 x163 x164 x165 x166 x167 x168 x169 x170 x171 x172 x173 x174 x175 x176 x177 x178 x179 x180 x181 x182 x183 x184 x185 x186 x187 x188 x189 x190 x191 x192 x193 x194 x195 x196 x197 x198 x199 x200 x201 x202 x203 x204 x205 x206 x207 x208 x209 x210 x211 x212 x213 x214 x215 x216 x217 x218 x219 x220 x221 x222 x223 x224 x225 x226 x227 x228 x229 x230 x231 x232 x233 x234 x235 x236 x237 x238 x239 x240 x241 x242 x243 x244 x245 x246 x247 x248 x249 x250 x251 x252 x253 x254 x255 x256 x257 x258 x259 x260 x261 x262 x263 x264 x265 x266 x267 x268 x269 x270 x271 x272 x273 x274 x275 x276 x277 x278 x279 x280 x281 x282 x283 x284 x285 x286 x287 x288 x289 x290 x291 x292 x293 x294 x295 x296 x297 x298 x299 x300 x301 x302 x303 x304 x305 x306 x307 x308 x309 x310 x311 x312 x313 x314 x315 x316 x317 x318 x319 x320 x321 x322 x323 x324 x325 x326 x327 x328 x329 x330 x331 x332 x333 x334 x335 x336 x337 x338 x339 x340 x341 x342 x343 x344 x345 x346 x347 x348 x349 x350 x351 x352 x353 x354 x355 x356 x357 x358 x359 x360 x361 x362 x363 x364 x365 x366 x367 x368 x369 x370 x371 x372 x373 x374 x375 x376 x377 x378 x379 x380 x381 x382 x383 x384 x385 x386 x387 x388 x389 e => ?_
  subst e
  clear hlen
  simp only [List.cons_append, List.nil_append]
  show Code.wp Try.prog (Code.seq _ _) _ _ _
  go_upto_region 54 with (fail)
  have hdr := below_drw w
  try simp only [List.append_eq, List.cons_append, List.nil_append]
  refine RX.wp_region_planG 11 (fun w w' => Below w.heap.size w w') [.it (.pointer (some ⟨gw, 0, none⟩)), .it (.pointer (some ⟨gw, 0, none⟩)), .it (.pointer (some ⟨gw, 1, none⟩)), .it (.pointer (some ⟨t, 0, none⟩)), .it (.pointer (some ⟨gq, k * 3, none⟩)), .it (.pointer (some ⟨gq, k * 3, none⟩)), .it (.pointer (some ⟨gq, k * 3 + 1, none⟩)), .it (.slice (some ⟨b, 0, none⟩) n c), .it (.int .i64 (j : Int)), .it (.pointer (some ⟨b, j, none⟩)), .it (.int .i64 sub)] mixed (by kernel_rfl) (fun _ => Below.refl _ _) (fun _ _ _ => below_tr) ?_
  simp only [List.take_succ_cons, List.take_zero, List.drop_succ_cons, List.drop_zero]
  refine RX.seqP_value (fun _ => Below.refl _ _) _ (by first | rfl | simp) (fun w' hw' hctx => by (go_simp); (try first | with_reducible rfl | simp)) ?_
  simp only [Act.put, List.setIfInBounds_toArray, List.set_cons_zero, List.set_cons_succ]
  refine RX.seqP_value (fun _ => Below.refl _ _) _ (by first | rfl | simp) (fun w' hw' hctx => by (go_simp); (try first | with_reducible rfl | simp)) ?_
  simp only [Act.put, List.setIfInBounds_toArray, List.set_cons_zero, List.set_cons_succ]
  refine RX.seqP_value (fun _ => Below.refl _ _) _ (by first | rfl | simp) (fun w' hw' hctx => by (go_simp); (try first | with_reducible rfl | simp)) ?_
  simp only [Act.put, List.setIfInBounds_toArray, List.set_cons_zero, List.set_cons_succ]
  refine RX.seqP_value (fun _ => Below.refl _ _) _ (by first | rfl | simp) (fun w' hw' hctx => ?_) ?_
  · have y0 := ((HM.out.mb.wri).below (below_tr hdr hw')).cell (o := 1) rfl
    have yl := ((HM.out.mb.wri).below (below_tr hdr hw')).lt
    go_simp
    try first | with_reducible rfl | simp
  simp only [Act.put, List.setIfInBounds_toArray, List.set_cons_zero, List.set_cons_succ]
  refine RX.seqP_value (fun _ => Below.refl _ _) _ (by first | rfl | simp) (fun w' hw' hctx => by (go_simp); (try first | with_reducible rfl | simp)) ?_
  simp only [Act.put, List.setIfInBounds_toArray, List.set_cons_zero, List.set_cons_succ]
  refine RX.seqP_value (fun _ => Below.refl _ _) _ (by first | rfl | simp) (fun w' hw' hctx => by (go_simp); (try first | with_reducible rfl | simp)) ?_
  simp only [Act.put, List.setIfInBounds_toArray, List.set_cons_zero, List.set_cons_succ]
  refine RX.seqP_value (fun _ => Below.refl _ _) _ (by first | rfl | simp) (fun w' hw' hctx => by (go_simp); (try first | with_reducible rfl | simp)) ?_
  simp only [Act.put, List.setIfInBounds_toArray, List.set_cons_zero, List.set_cons_succ]
  refine RX.seqP_value (fun _ => Below.refl _ _) _ (by first | rfl | simp) (fun w' hw' hctx => ?_) ?_
  · have y0 := ((HM.out.mb.who).below (below_tr hdr hw')).cell (who_top hk ss sv wv).2.1
    rw [HSV.out] at y0
    have yl := ((HM.out.mb.who).below (below_tr hdr hw')).lt
    go_simp
    try first | with_reducible rfl | simp
  simp only [Act.put, List.setIfInBounds_toArray, List.set_cons_zero, List.set_cons_succ]
  refine RX.seqP_value (fun _ => Below.refl _ _) _ (by first | rfl | simp) (fun w' hw' hctx => by (go_simp); (try first | with_reducible rfl | simp)) ?_
  simp only [Act.put, List.setIfInBounds_toArray, List.set_cons_zero, List.set_cons_succ]
  refine RX.seqP_value (fun _ => Below.refl _ _) _ (by first | rfl | simp) (fun w' hw' hctx => by (go_simp); (try first | with_reducible rfl | simp)) ?_
  simp only [Act.put, List.setIfInBounds_toArray, List.set_cons_zero, List.set_cons_succ]
  refine RX.seqP_value (fun _ => Below.refl _ _) _ (by first | rfl | simp) (fun w' hw' hctx => ?_) ?_
  · have y0 := ((below_tr hdr hw')).cell (p := ⟨b, j, none⟩) HBL.out
    rw [HCE.out] at y0
    have yl := Nat.lt_of_lt_of_le HBL.out ((below_tr hdr hw')).size
    go_simp
    try first | with_reducible rfl | simp
  simp only [Act.put, List.setIfInBounds_toArray, List.set_cons_zero, List.set_cons_succ]
  refine RX.seqP_nil (fun w2 hR hctx _ => ?_)
  have hb2 := below_tr hdr hR
  have HM2 := Lib.hid (HM.out.below hb2)
  clear hctx hR hb2 hdr HM
  unfold RX.lastQ
  have hcon := duo_abort HM2.out.duo hn sub (by unfold I64; omega) HE.out rfl
  have HCON := Lib.hid hcon
  clear hcon
  go_wp2_with fail
  refine HCON.out.mono ?_
  rintro e w3 ⟨rfl, hd3, hs3⟩
  have HM3 := Lib.hid (HM2.out.turn hd3 hs3)
  clear hd3 hs3 HCON HM2
  go_wp2_with fail
  exact HQ.out _ _ ⟨_, rfl, rfl⟩ HM3.out

set_option maxRecDepth 100000 in
set_option maxHeartbeats 8000000 in
theorem ob56_is {v0 v1 s2 s3 s4 v11 : Value} {tk : Bool} {x13 x14 x15 x16 x17 x18 x19 x20 : Value} {L : Nat → Lb} {w0 w : World} {h t gw gc gk gs gq z m : Nat} {A : Ab} {T : Tb} {ss : Nat → List Int} {P : Int → List Wt} {f kept : Int → Int} {at0 : Int} {sv wv : Nat → Value} (H : Me L w0 w h t gw gc gk gs gq z m A T ss ss P f kept at0 sv wv) {k : Nat} (hk : k < 3) {l : List Int} {sub : Int} (hl : ss k = l ++ [sub]) (hne : l ≠ []) {j n : Nat} (hj : l.length = j) (hnj : j + 1 = n) (hj9 : j ≤ 1000) {P' : Int → List Wt} (hP : ∀ i, i < 3 → ∀ s' ∈ updS ss k l i, ∀ y, lastBy s' (P' y) = lastBy s' (P y)) {a : Act}
    (HF : Fr [v0, v1, s2, s3, s4, .pointer (some ⟨gw, 0, none⟩), .pointer (some ⟨gc, 0, none⟩), .pointer (some ⟨gk, 0, none⟩), .pointer (some ⟨gs, 0, none⟩), .bool tk, .pointer (some ⟨gq, 0, none⟩), v11, .pointer (some ⟨gq, k * 3, none⟩), x13, x14, x15, x16, x17, x18, x19, x20, .int .i64 (j : Int)] a) {Q : Exit → Act → World → Prop} (hQ : ∀ a' w', Fr [v0, v1, s2, s3, s4, .pointer (some ⟨gw, 0, none⟩), .pointer (some ⟨gc, 0, none⟩), .pointer (some ⟨gk, 0, none⟩), .pointer (some ⟨gs, 0, none⟩), .bool tk, .pointer (some ⟨gq, 0, none⟩), v11] a' → (∃ L' sv' wv', Me L' w0 w' h t gw gc gk gs gq z m A T (updS ss k l) (updS ss k l) P' f kept at0 sv' wv') → Q .normal a' w') :
    Code.wp Try.prog (nav [true, true, true, true, true, true, true, true, false, true, false, false, true, false, false, true, true, false, false, true, true, true, true, true, true, true, true, true, false, true, true, false, true] (Try.f3.body.getD .skip)) Q a w := by
  have mixed : Try.prog.follows Departure.mixedOrders = true := by kernel_rfl
  have hln : (ss k).length = n := by rw [hl, List.length_append, List.length_singleton, hj, hnj]
  obtain ⟨b, c, hsv, hnc, hcm, hb, hcell, -⟩ := RowI.at (H.mb.sub k hk).row (j := j) (by omega)
  obtain ⟨mb, h1, h2⟩ := (H.mb.wro k hk).row
  obtain ⟨d, e, hwv, hne1, hem, -⟩ := h1.at (j := j) (by omega)
  rw [hln] at hsv hnc hwv hne1
  have H1 := H.below (below_drw w)
  have HM2 : Hid (∃ L' sv' wv', Me L' w0 ((w.drew.setCell ⟨gq, k * 3 + 1, none⟩ (.slice (some ⟨b, 0, none⟩) j c)).setCell ⟨gq, k * 3 + 2, none⟩ (.slice (some ⟨d, 0, none⟩) j e)) h t gw gc gk gs gq z m A T (updS ss k l) (updS ss k l) P' f kept at0 sv' wv') := Lib.hid ⟨_, _, _, H1.back hk hl hne hj hnj hP hsv hwv⟩
  have hwho := H1.mb.who
  obtain ⟨t0, t1, t2⟩ := who_top hk ss sv wv
  have d1 := hwho.cell t1
  have d2 := hwho.cell t2
  rw [hsv] at d1
  rw [hwv] at d2
  have f1 := hwho.fz (k * 3 + 1)
  have f2 := hwho.fz (k * 3 + 2)
  have dl := hwho.lt
  have k2 := H.mb.who.cell t2
  rw [hwv] at k2
  have kf := H.mb.who.fz (k * 3 + 2)
  have hq := Lib.hid hQ
  have HQ := hq
  have hjz : j ≤ n := by omega
  have hjz2 : (j : Int) ≤ (n : Int) := by omega
  have hjc : j ≤ c := by omega
  have hjc2 : (j : Int) ≤ (c : Int) := by omega
  have hje : j ≤ e := by omega
  have hje2 : (j : Int) ≤ (e : Int) := by omega
  clear hq H hQ hsv hwv hln hl hj hcell hb h1 h2 H1 hwho t0 t1 t2 hP hne hne1 hnc mb
  obtain ⟨tl, rfl, hlen⟩ := HF
  refine open_22 tl (by have h := hlen; simp only [List.length_cons, List.length_nil] at h; omega) fun x22 x23 x24 x25 x26 x27 x28 x29 x30 x31 x32 x33 x34 x35 x36 x37 x38 x39 x40 x41 x42 x43 x44 x45 x46 x47 x48 x49 x50 x51 x52 x53 x54 x55 x56 x57 x58 x59 x60 x61 x62 x63 x64 x65 x66 x67 x68 x69 x70 x71 x72 x73 x74 x75 x76 x77 x78 x79 x80 x81 x82 x83 x84 x85 x86 x87 x88 x89 x90 x91 x92 x93 x94 x95 x96 x97 x98 x99 x100 x101 x102 x103 x104 x105 x106 x107 x108 x109 x110 x111 x112 x113 x114 x115 x116 x117 x118 x119 x120 x121 x122 x123 x124 x125 x126 x127 x128 x129 x130 x131 x132 x133 x134 x135 x136 x137 x138 x139 x140 x141 x142 x143 x144 x145 x146 x147 x148 x149 x150 x151 x152 x153 x154 x155 x156 x157 x158 x159 x160 x161 x162 x163 x164 x165 x166 x167 x168 x169 x170 x171 x172 x173 x174 x175 x176 x177 x178 x179 x180 x181 x182 x183 x184 x185 x186 x187 x188 x189 x190 x191 x192 x193 x194 x195 x196 x197 x198 x199 x200 x201 x202 x203 x204 x205 x206 x207 x208 x209 x210 x211 x212 x213 x214 x215 x216 x217 x218 x219 x220 x221 x222 x223 x224 x225 x226 x227 x228 x229 x230 x231 x232 x233 x234 x235 x236 x237 x238 x239 x240 x241 x242 x243 x244 x245 x246 x247 x248 x249 x250 x251 x252 x253 x254 x255 x256 x257 x258 x259 x260 x261 x262 x263 x264 x265 x266 x267 x268 x269 x270 x271 x272 x273 x274 x275 x276 x277 x278 x279 x280 x281 x282 x283 x284 x285 x286 x287 x288 x289 x290 x291 x292 x293 x294 x295 x296 x297 x298 x299 x300 x301 x302 x303 x304 x305 x306 x307 x308 x309 x310 x311 x312 x313 x314 x315 x316 x317 x318 x319 x320 x321 x322 x323 x324 x325 x326 x327 x328 x329 x330 x331 x332 x333 x334 x335 x336 x337 x338 x339 x340 x341 x342 x343 x344 x345 x346 x347 x348 x349 x350 x351 x352 x353 x354 x355 x356 x357 x358 x359 x360 x361 x362 x363 x364 x365 x366 x367 x368 x369 x370 x371 x372 x373 x374 x375 x376 x377 x378 x379 x380 x381 x382 x383 x384 x385 x386 x387 x388 x389 e => ?_
  subst e
  clear hlen
  simp only [List.cons_append, List.nil_append]
  show Code.wp Try.prog (Code.region _ _ _) _ _ _
  refine wp_region_noPanic ?_
  refine wp_region_held_drew (S := (fun _ => True)) mixed (trivial) (fun hS0 => ?_)
  have HS0 := Lib.hid hS0
  clear hS0
  show wpAnyH _ _ _ _ _ 20 _ _ _
  refine wpAnyH_take (i := 0) (oi := _) (v := .pointer (some ⟨gq, k * 3, none⟩)) rfl (by kernel_rfl) (by kernel_rfl) (by kernel_rfl) (fun _ _ _ h => h) (Or.inl ⟨by rfl, fun w' hw' => ?_⟩) (trivial) ?_
  · go_simp
    try first | with_reducible rfl | simp
  simp only [List.getElem_toArray, List.getElem_cons_zero, Act.put, List.setIfInBounds_toArray, List.set_cons_zero, List.set_cons_succ]
  refine wpAnyH_take (i := 1) (oi := _) (v := .pointer (some ⟨gq, k * 3, none⟩)) rfl (by kernel_rfl) (by kernel_rfl) (by kernel_rfl) (fun _ _ _ h => h) (Or.inl ⟨by rfl, fun w' hw' => ?_⟩) (trivial) ?_
  · go_simp
    try first | with_reducible rfl | simp
  simp only [List.getElem_toArray, List.getElem_cons_succ, List.getElem_cons_zero, Act.put, List.setIfInBounds_toArray, List.set_cons_zero, List.set_cons_succ]
  refine wpAnyH_take (i := 2) (oi := _) (v := .pointer (some ⟨gq, k * 3, none⟩)) rfl (by kernel_rfl) (by kernel_rfl) (by kernel_rfl) (fun _ _ _ h => h) (Or.inl ⟨by rfl, fun w' hw' => ?_⟩) (trivial) ?_
  · go_simp
    try first | with_reducible rfl | simp
  simp only [List.getElem_toArray, List.getElem_cons_succ, List.getElem_cons_zero, Act.put, List.setIfInBounds_toArray, List.set_cons_zero, List.set_cons_succ]
  refine wpAnyH_take (i := 3) (oi := _) (v := .pointer (some ⟨gq, k * 3, none⟩)) rfl (by kernel_rfl) (by kernel_rfl) (by kernel_rfl) (fun _ _ _ h => h) (Or.inl ⟨by rfl, fun w' hw' => ?_⟩) (trivial) ?_
  · go_simp
    try first | with_reducible rfl | simp
  simp only [List.getElem_toArray, List.getElem_cons_succ, List.getElem_cons_zero, Act.put, List.setIfInBounds_toArray, List.set_cons_zero, List.set_cons_succ]
  refine wpAnyH_take (i := 4) (oi := _) (v := .pointer (some ⟨gq, k * 3 + 1, none⟩)) rfl (by kernel_rfl) (by kernel_rfl) (by kernel_rfl) (fun _ _ _ h => h) (Or.inl ⟨by rfl, fun w' hw' => ?_⟩) (trivial) ?_
  · go_simp
    try first | with_reducible rfl | simp
  simp only [List.getElem_toArray, List.getElem_cons_succ, List.getElem_cons_zero, Act.put, List.setIfInBounds_toArray, List.set_cons_zero, List.set_cons_succ]
  refine wpAnyH_take (i := 6) (oi := _) (v := .int .i64 (j : Int)) rfl (by kernel_rfl) (by kernel_rfl) (by kernel_rfl) (fun _ _ _ h => h) (Or.inl ⟨by rfl, fun w' hw' => ?_⟩) (trivial) ?_
  · go_simp
    try first | with_reducible rfl | simp
  simp only [List.getElem_toArray, List.getElem_cons_succ, List.getElem_cons_zero, Act.put, List.setIfInBounds_toArray, List.set_cons_zero, List.set_cons_succ]
  refine wpAnyH_take (i := 8) (oi := _) (v := .pointer (some ⟨gq, k * 3, none⟩)) rfl (by kernel_rfl) (by kernel_rfl) (by kernel_rfl) (fun _ _ _ h => h) (Or.inl ⟨by rfl, fun w' hw' => ?_⟩) (trivial) ?_
  · go_simp
    try first | with_reducible rfl | simp
  simp only [List.getElem_toArray, List.getElem_cons_succ, List.getElem_cons_zero, Act.put, List.setIfInBounds_toArray, List.set_cons_zero, List.set_cons_succ]
  refine wpAnyH_take (i := 9) (oi := _) (v := .pointer (some ⟨gq, k * 3, none⟩)) rfl (by kernel_rfl) (by kernel_rfl) (by kernel_rfl) (fun _ _ _ h => h) (Or.inl ⟨by rfl, fun w' hw' => ?_⟩) (trivial) ?_
  · go_simp
    try first | with_reducible rfl | simp
  simp only [List.getElem_toArray, List.getElem_cons_succ, List.getElem_cons_zero, Act.put, List.setIfInBounds_toArray, List.set_cons_zero, List.set_cons_succ]
  refine wpAnyH_take (i := 10) (oi := _) (v := .pointer (some ⟨gq, k * 3 + 2, none⟩)) rfl (by kernel_rfl) (by kernel_rfl) (by kernel_rfl) (fun _ _ _ h => h) (Or.inl ⟨by rfl, fun w' hw' => ?_⟩) (trivial) ?_
  · go_simp
    try first | with_reducible rfl | simp
  simp only [List.getElem_toArray, List.getElem_cons_succ, List.getElem_cons_zero, Act.put, List.setIfInBounds_toArray, List.set_cons_zero, List.set_cons_succ]
  refine wpAnyH_take (i := 12) (oi := _) (v := .int .i64 (j : Int)) rfl (by kernel_rfl) (by kernel_rfl) (by kernel_rfl) (fun _ _ _ h => h) (Or.inl ⟨by rfl, fun w' hw' => ?_⟩) (trivial) ?_
  · go_simp
    try first | with_reducible rfl | simp
  simp only [List.getElem_toArray, List.getElem_cons_succ, List.getElem_cons_zero, Act.put, List.setIfInBounds_toArray, List.set_cons_zero, List.set_cons_succ]
  refine RX.anyH_fork (i1 := 5) (i2 := 11) (by kernel_rfl) ?_ ?_
  · refine RX.opH_val (i := 5) (v := .slice (some ⟨b, 0, none⟩) n c) (w' := w.drew) rfl (by rfl) (by go_simp) trivial ?_
    simp only [List.getElem_toArray, List.getElem_cons_succ, List.getElem_cons_zero, Act.put, List.setIfInBounds_toArray, List.set_cons_zero, List.set_cons_succ]
    refine wpAnyH_take (i := 7) (oi := _) (v := .slice (some ⟨b, 0, none⟩) j c) rfl (by kernel_rfl) (by kernel_rfl) (by kernel_rfl) (fun _ _ _ h => h) (Or.inl ⟨by rfl, fun w' hw' => ?_⟩) (trivial) ?_
    · go_simp
      try first | with_reducible rfl | simp
    simp only [List.getElem_toArray, List.getElem_cons_succ, List.getElem_cons_zero, Act.put, List.setIfInBounds_toArray, List.set_cons_zero, List.set_cons_succ]
    refine RX.anyH_val (i := 11) (v := .slice (some ⟨d, 0, none⟩) n e) (w' := w.drew) (by kernel_rfl) rfl (by rfl) (by go_simp) (trivial) ?_
    simp only [List.getElem_toArray, List.getElem_cons_succ, List.getElem_cons_zero, Act.put, List.setIfInBounds_toArray, List.set_cons_zero, List.set_cons_succ]
    refine wpAnyH_take (i := 13) (oi := _) (v := .slice (some ⟨d, 0, none⟩) j e) rfl (by kernel_rfl) (by kernel_rfl) (by kernel_rfl) (fun _ _ _ h => h) (Or.inl ⟨by rfl, fun w' hw' => ?_⟩) (trivial) ?_
    · go_simp
      try first | with_reducible rfl | simp
    simp only [List.getElem_toArray, List.getElem_cons_succ, List.getElem_cons_zero, Act.put, List.setIfInBounds_toArray, List.set_cons_zero, List.set_cons_succ]
    refine wpAnyH_take (i := 14) (oi := _) (v := .pointer (some ⟨gq, k * 3, none⟩)) rfl (by kernel_rfl) (by kernel_rfl) (by kernel_rfl) (fun _ _ _ h => h) (Or.inl ⟨by rfl, fun w' hw' => ?_⟩) (trivial) ?_
    · go_simp
      try first | with_reducible rfl | simp
    simp only [List.getElem_toArray, List.getElem_cons_succ, List.getElem_cons_zero, Act.put, List.setIfInBounds_toArray, List.set_cons_zero, List.set_cons_succ]
    refine wpAnyH_take (i := 15) (oi := _) (v := .pointer (some ⟨gq, k * 3 + 1, none⟩)) rfl (by kernel_rfl) (by kernel_rfl) (by kernel_rfl) (fun _ _ _ h => h) (Or.inl ⟨by rfl, fun w' hw' => ?_⟩) (trivial) ?_
    · go_simp
      try first | with_reducible rfl | simp
    simp only [List.getElem_toArray, List.getElem_cons_succ, List.getElem_cons_zero, Act.put, List.setIfInBounds_toArray, List.set_cons_zero, List.set_cons_succ]
    refine RX.anyH_eff (i := 16) (w' := w.drew.setCell ⟨gq, k * 3 + 1, none⟩ (.slice (some ⟨b, 0, none⟩) j c)) (by kernel_rfl) rfl (by rfl) (by go_simp) trivial ?_
    simp only [List.getElem_toArray, List.getElem_cons_succ, List.getElem_cons_zero, Act.put]
    refine wpAnyH_take (i := 17) (oi := _) (v := .pointer (some ⟨gq, k * 3, none⟩)) rfl (by kernel_rfl) (by kernel_rfl) (by kernel_rfl) (fun _ _ _ h => h) (Or.inl ⟨by rfl, fun w' hw' => ?_⟩) (trivial) ?_
    · go_simp
      try first | with_reducible rfl | simp
    simp only [List.getElem_toArray, List.getElem_cons_succ, List.getElem_cons_zero, Act.put, List.setIfInBounds_toArray, List.set_cons_zero, List.set_cons_succ]
    refine wpAnyH_take (i := 18) (oi := _) (v := .pointer (some ⟨gq, k * 3 + 2, none⟩)) rfl (by kernel_rfl) (by kernel_rfl) (by kernel_rfl) (fun _ _ _ h => h) (Or.inl ⟨by rfl, fun w' hw' => ?_⟩) (trivial) ?_
    · go_simp
      try first | with_reducible rfl | simp
    simp only [List.getElem_toArray, List.getElem_cons_succ, List.getElem_cons_zero, Act.put, List.setIfInBounds_toArray, List.set_cons_zero, List.set_cons_succ]
    refine RX.anyH_eff (i := 19) (w' := (w.drew.setCell ⟨gq, k * 3 + 1, none⟩ (.slice (some ⟨b, 0, none⟩) j c)).setCell ⟨gq, k * 3 + 2, none⟩ (.slice (some ⟨d, 0, none⟩) j e)) (by kernel_rfl) rfl (by rfl) (by go_simp) trivial ?_
    simp only [List.getElem_toArray, List.getElem_cons_succ, List.getElem_cons_zero, Act.put]
    refine wpAnyH_done (by kernel_rfl) ?_ _
    refine NoPanic.normal ?_
    exact HQ.out _ _ ⟨_, rfl, rfl⟩ HM2.out
  · refine RX.opH_val (i := 11) (v := .slice (some ⟨d, 0, none⟩) n e) (w' := w.drew) rfl (by rfl) (by go_simp) trivial ?_
    simp only [List.getElem_toArray, List.getElem_cons_succ, List.getElem_cons_zero, Act.put, List.setIfInBounds_toArray, List.set_cons_zero, List.set_cons_succ]
    refine wpAnyH_take (i := 13) (oi := _) (v := .slice (some ⟨d, 0, none⟩) j e) rfl (by kernel_rfl) (by kernel_rfl) (by kernel_rfl) (fun _ _ _ h => h) (Or.inl ⟨by rfl, fun w' hw' => ?_⟩) (trivial) ?_
    · go_simp
      try first | with_reducible rfl | simp
    simp only [List.getElem_toArray, List.getElem_cons_succ, List.getElem_cons_zero, Act.put, List.setIfInBounds_toArray, List.set_cons_zero, List.set_cons_succ]
    refine RX.anyH_val (i := 5) (v := .slice (some ⟨b, 0, none⟩) n c) (w' := w.drew) (by kernel_rfl) rfl (by rfl) (by go_simp) (trivial) ?_
    simp only [List.getElem_toArray, List.getElem_cons_succ, List.getElem_cons_zero, Act.put, List.setIfInBounds_toArray, List.set_cons_zero, List.set_cons_succ]
    refine wpAnyH_take (i := 7) (oi := _) (v := .slice (some ⟨b, 0, none⟩) j c) rfl (by kernel_rfl) (by kernel_rfl) (by kernel_rfl) (fun _ _ _ h => h) (Or.inl ⟨by rfl, fun w' hw' => ?_⟩) (trivial) ?_
    · go_simp
      try first | with_reducible rfl | simp
    simp only [List.getElem_toArray, List.getElem_cons_succ, List.getElem_cons_zero, Act.put, List.setIfInBounds_toArray, List.set_cons_zero, List.set_cons_succ]
    refine wpAnyH_take (i := 14) (oi := _) (v := .pointer (some ⟨gq, k * 3, none⟩)) rfl (by kernel_rfl) (by kernel_rfl) (by kernel_rfl) (fun _ _ _ h => h) (Or.inl ⟨by rfl, fun w' hw' => ?_⟩) (trivial) ?_
    · go_simp
      try first | with_reducible rfl | simp
    simp only [List.getElem_toArray, List.getElem_cons_succ, List.getElem_cons_zero, Act.put, List.setIfInBounds_toArray, List.set_cons_zero, List.set_cons_succ]
    refine wpAnyH_take (i := 15) (oi := _) (v := .pointer (some ⟨gq, k * 3 + 1, none⟩)) rfl (by kernel_rfl) (by kernel_rfl) (by kernel_rfl) (fun _ _ _ h => h) (Or.inl ⟨by rfl, fun w' hw' => ?_⟩) (trivial) ?_
    · go_simp
      try first | with_reducible rfl | simp
    simp only [List.getElem_toArray, List.getElem_cons_succ, List.getElem_cons_zero, Act.put, List.setIfInBounds_toArray, List.set_cons_zero, List.set_cons_succ]
    refine RX.anyH_eff (i := 16) (w' := w.drew.setCell ⟨gq, k * 3 + 1, none⟩ (.slice (some ⟨b, 0, none⟩) j c)) (by kernel_rfl) rfl (by rfl) (by go_simp) trivial ?_
    simp only [List.getElem_toArray, List.getElem_cons_succ, List.getElem_cons_zero, Act.put]
    refine wpAnyH_take (i := 17) (oi := _) (v := .pointer (some ⟨gq, k * 3, none⟩)) rfl (by kernel_rfl) (by kernel_rfl) (by kernel_rfl) (fun _ _ _ h => h) (Or.inl ⟨by rfl, fun w' hw' => ?_⟩) (trivial) ?_
    · go_simp
      try first | with_reducible rfl | simp
    simp only [List.getElem_toArray, List.getElem_cons_succ, List.getElem_cons_zero, Act.put, List.setIfInBounds_toArray, List.set_cons_zero, List.set_cons_succ]
    refine wpAnyH_take (i := 18) (oi := _) (v := .pointer (some ⟨gq, k * 3 + 2, none⟩)) rfl (by kernel_rfl) (by kernel_rfl) (by kernel_rfl) (fun _ _ _ h => h) (Or.inl ⟨by rfl, fun w' hw' => ?_⟩) (trivial) ?_
    · go_simp
      try first | with_reducible rfl | simp
    simp only [List.getElem_toArray, List.getElem_cons_succ, List.getElem_cons_zero, Act.put, List.setIfInBounds_toArray, List.set_cons_zero, List.set_cons_succ]
    refine RX.anyH_eff (i := 19) (w' := (w.drew.setCell ⟨gq, k * 3 + 1, none⟩ (.slice (some ⟨b, 0, none⟩) j c)).setCell ⟨gq, k * 3 + 2, none⟩ (.slice (some ⟨d, 0, none⟩) j e)) (by kernel_rfl) rfl (by rfl) (by go_simp) trivial ?_
    simp only [List.getElem_toArray, List.getElem_cons_succ, List.getElem_cons_zero, Act.put]
    refine wpAnyH_done (by kernel_rfl) ?_ _
    refine NoPanic.normal ?_
    exact HQ.out _ _ ⟨_, rfl, rfl⟩ HM2.out

set_option maxRecDepth 100000 in
set_option maxHeartbeats 8000000 in
theorem oback_is {v0 v1 s2 s3 s4 v11 : Value} {tk : Bool} {L : Nat → Lb} {w0 w : World} {h t gw gc gk gs gq z m : Nat} {A : Ab} {T : Tb} {ss : Nat → List Int} {P : Int → List Wt} {f kept : Int → Int} {at0 : Int} {sv wv : Nat → Value} (H : Me L w0 w h t gw gc gk gs gq z m A T ss ss P f kept at0 sv wv) {k : Nat} (hk : k < 3) (hn : T.n ≤ 1000) {l : List Int} {sub : Int} (hl : ss k = l ++ [sub]) (hl9 : l.length ≤ 1000) (hsub : 1 ≤ sub ∧ sub ≤ 1000) (he : T.err sub = 0) {P' : Int → List Wt} (hP : ∀ i, i < 3 → ∀ s' ∈ updS ss k l i, ∀ y, lastBy s' (P' y) = lastBy s' (P y)) {a : Act}
    (HF : Fr [v0, v1, s2, s3, s4, .pointer (some ⟨gw, 0, none⟩), .pointer (some ⟨gc, 0, none⟩), .pointer (some ⟨gk, 0, none⟩), .pointer (some ⟨gs, 0, none⟩), .bool tk, .pointer (some ⟨gq, 0, none⟩), v11, .pointer (some ⟨gq, k * 3, none⟩)] a) {Q : Exit → Act → World → Prop} (hQ1 : l = [] → ∀ a', Fr [v0, v1, s2, s3, s4, .pointer (some ⟨gw, 0, none⟩), .pointer (some ⟨gc, 0, none⟩), .pointer (some ⟨gk, 0, none⟩), .pointer (some ⟨gs, 0, none⟩), .bool tk, .pointer (some ⟨gq, 0, none⟩), v11] a' → Q .normal a' w) (hQ2 : l ≠ [] → ∀ a' w', Fr [v0, v1, s2, s3, s4, .pointer (some ⟨gw, 0, none⟩), .pointer (some ⟨gc, 0, none⟩), .pointer (some ⟨gk, 0, none⟩), .pointer (some ⟨gs, 0, none⟩), .bool tk, .pointer (some ⟨gq, 0, none⟩), v11] a' → (∃ L' sv' wv', Me L' w0 w' h t gw gc gk gs gq z m A (T.aboT sub) (updS ss k l) (updS ss k l) P' f kept at0 sv' wv') → Q .normal a' w') :
    Code.wp Try.prog (nav [true, true, true, true, true, true, true, true, false, true, false, false, true, false, false, true, true, false, false, true, true, true, true, true, true, true, true, true, false] (Try.f3.body.getD .skip)) Q a w := by
  obtain ⟨j, hj⟩ : ∃ j, l.length = j := ⟨_, rfl⟩
  have hln : (ss k).length = j + 1 := by rw [hl, List.length_append, List.length_singleton, hj]
  obtain ⟨b, c, hsv, hnc, hcm, hb, hcell, -⟩ := RowI.at (H.mb.sub k hk).row (j := j) (by omega)
  rw [hln] at hsv hnc
  have q0 := H.mb.who.cell (who_top hk ss sv wv).2.1
  rw [hsv] at q0
  have ql := H.mb.who.lt
  have hj9 : j ≤ 1000 := by omega
  have hw1 : IntKind.i64.wrap ((j : Int) + 1 - 1) = (j : Int) := (congrArg IntKind.i64.wrap (show (j : Int) + 1 - 1 = (j : Int) by omega)).trans (iwrap (by omega) (by omega))
  have HM := Lib.hid H
  have HQ1 := Lib.hid hQ1
  have HQ2 := Lib.hid hQ2
  have HL := Lib.hid hl
  have HJ := Lib.hid hj
  have HP := Lib.hid hP
  have HE := Lib.hid he
  clear H hQ1 hQ2 hsv hln hl hl9 hcell hb hnc hcm hP he
  obtain ⟨tl, rfl, hlen⟩ := HF
  refine open_13 tl (by have h := hlen; simp only [List.length_cons, List.length_nil] at h; omega) fun x13 x14 x15 x16 x17 x18 x19 x20 x21 x22 x23 x24 x25 x26 x27 x28 x29 x30 x31 x32 x33 x34 x35 x36 x37 x38 x39 x40 x41 x42 x43 x44 x45 x46 x47 x48 x49 x50 x51 x52 x53 x54 x55 x56 x57 x58 x59 x60 x61 x62 x63 x64 x65 x66 x67 x68 x69 x70 x71 x72 x73 x74 x75 x76 x77 x78 x79 x80 x81 x82 x83 x84 x85 x86 x87 x88 x89 x90 x91 x92 x93 x94 x95 x96 x97 x98 x99 x100 x101 x102 x103 x104 x105 x106 x107 x108 x109 x110 x111 x112 x113 x114 x115 x116 x117 x118 x119 x120 x121 x122 x123 x124 x125 x126 x127 x128 x129 x130 x131 x132 x133 x134 x135 x136 x137 x138 x139 x140 x141 x142 x143 x144 x145 x146 x147 x148 x149 x150 x151 x152 x153 x154 x155 x156 x157 x158 x159 x160 x161 x162 x163 x164 x165 x166 x167 x168 x169 x170 x171 x172 x173 x174 x175 x176 x177 x178 x179 x180 x181 x182 x183 x184 x185 x186 x187 x188 x189 x190 x191 x192 x193 x194 x195 x196 x197 x198 x199 x200 x201 x202 x203 x204 x205 x206 x207 x208 x209 x210 x211 x212 x213 x214 x215 x216 x217 x218 x219 x220 x221 x222 x223 x224 x225 x226 x227 x228 x229 x230 x231 x232 x233 x234 x235 x236 x237 x238 x239 x240 x241 x242 x243 x244 x245 x246 x247 x248 x249 x250 x251 x252 x253 x254 x255 x256 x257 x258 x259 x260 x261 x262 x263 x264 x265 x266 x267 x268 x269 x270 x271 x272 x273 x274 x275 x276 x277 x278 x279 x280 x281 x282 x283 x284 x285 x286 x287 x288 x289 x290 x291 x292 x293 x294 x295 x296 x297 x298 x299 x300 x301 x302 x303 x304 x305 x306 x307 x308 x309 x310 x311 x312 x313 x314 x315 x316 x317 x318 x319 x320 x321 x322 x323 x324 x325 x326 x327 x328 x329 x330 x331 x332 x333 x334 x335 x336 x337 x338 x339 x340 x341 x342 x343 x344 x345 x346 x347 x348 x349 x350 x351 x352 x353 x354 x355 x356 x357 x358 x359 x360 x361 x362 x363 x364 x365 x366 x367 x368 x369 x370 x371 x372 x373 x374 x375 x376 x377 x378 x379 x380 x381 x382 x383 x384 x385 x386 x387 x388 x389 e => ?_
  subst e
  clear hlen
  simp only [List.cons_append, List.nil_append]
  show Code.wp Try.prog (Code.seq _ _) _ _ _
  cases l with
  | nil =>
    have hj0 : j = 0 := by rw [← HJ.out]; rfl
    subst hj0
    go_wp2_with fail
    exact HQ1.out (by first | rfl | trivial) _ ⟨_, rfl, rfl⟩
  | cons x r =>
    have hj0 : 0 < j := by have := HJ.out; simp at this; omega
    have hj1 : (0 : Int) < (j : Int) := by omega
    clear hj
    go_upto_if 277 with fail
    refine wp_cond_true (by first | rfl | (go_simp; done)) (wp_seq ?_)
    refine ob54_is (n := j + 1) HM.out hk hn HL.out HJ.out rfl hj9 hsub HE.out ⟨_, rfl, rfl⟩ (fun a' w' h1 h2 => ?_)
    refine ob56_is (n := j + 1) h2 hk HL.out (by simp) HJ.out rfl hj9 HP.out h1 (fun a2 w2 h3 h4 => ?_)
    exact HQ2.out (by simp) _ _ h3 h4


end Go.Proofs.Ytbgnbaogclnpgaa
