/-
  The laws' writer: what it sees, what it writes: walked (stage 12).
-/
import Derived.Test.YtbgnbaogclnpgaaMStep
import Derived.Test.YtbgnbaogclnpgaaRegG
import Derived.Test.YtbgnbaogclnpgaaERX
namespace Go.Proofs.Ytbgnbaogclnpgaa
open Go.RowKit
set_option linter.unusedVariables false

/-- What somebody who looks sees of a row: -1: none. -/
def oneN (t : Tup) : Int := match t.row with | [v] => v.n | _ => -2
def wsV (T : Tb) (A : Ab) (a m y : Int) : Int := if seenB T A a m 1 y then oneN (A.atT (seenV T A a m 1 y)) else -1
/-- Another one holds a version. -/
def lkB (T : Tb) (top x : Int) : Bool := decide (x ≠ 0) && (T.cnt x && (decide (T.g T.top x ≠ top) && decide (T.numI (T.g T.top x) = 0)))
def lockB (T : Tb) (A : Ab) (top y : Int) : Bool := (A.vs 1 y).any fun p => lkB T top p.2.mn || lkB T top p.2.mx
/-- Whether a transaction may write a row, and what it makes of it. -/
def wrB (T : Tb) (A : Ab) (top y n : Int) : Bool := !lockB T A top y && !(!seenB T A T.last top 1 y && decide (n < 0))
def wrA (T : Tb) (A : Ab) (top sub y n : Int) : Ab :=
  if wrB T A top y n = true then
    let B := if seenB T A T.last top 1 y then A.kl (seenV T A T.last top 1 y) sub 0 else A
    if n < 0 then B else B.pt (tupR 1 y sub n)
  else A

/-- The writer itself. -/
def wriC (h t : Nat) : List Value := [.pointer (some ⟨h, 0, none⟩), .pointer (some ⟨t, 0, none⟩), .slice none 0 0]

theorem wr_locked {T : Tb} {A : Ab} {top sub y n : Int} (h : lockB T A top y = true) : wrB T A top y n = false ∧ wrA T A top sub y n = A := by
  have e : wrB T A top y n = false := by unfold wrB; rw [h]; rfl
  exact ⟨e, by unfold wrA; rw [e]; rfl⟩
theorem seen_in {T : Tb} {A : Ab} (hA : A.Ok) {a m x y : Int} (h : seenB T A a m x y = true) : ∃ t, A.tupI (seenV T A a m x y) = some t ∧ t.wf ∧ t.no = x ∧ t.id = y ∧ visB T (ownR T m (A.vs x y)) a m t = true := by
  unfold seenB at h
  obtain ⟨p, hp⟩ := Option.isSome_iff_exists.1 h
  obtain ⟨q1, q2, q3, q4⟩ := seenO_some hp
  refine ⟨p.2, ?_, (hA.wf _ q1).1, q2, q3, q4⟩
  unfold seenV
  rw [hp]
  unfold Ab.tupI
  rw [if_pos (show (0 : Int) ≤ slotO (some p) from Int.natCast_nonneg _)]
  exact (hA.tup _ _).2 q1
theorem seen_at {T : Tb} {A : Ab} (hA : A.Ok) {a m x y : Int} (h : seenB T A a m x y = true) : A.atB (seenV T A a m x y) = true ∧ A.atE (seenV T A a m x y) = 0 := by
  obtain ⟨t, ht, _⟩ := seen_in hA h
  unfold Ab.atB Ab.atE
  rw [ht]
  exact ⟨rfl, rfl⟩

/-! ### A version's block -/

theorem seven {cs : List Value} (h : cs.length = 7) : ∃ a b c d e f g, cs = [a, b, c, d, e, f, g] := by
  match cs, h with
  | [a, b, c, d, e, f, g], _ => exact ⟨a, b, c, d, e, f, g, rfl⟩

/-- Blocks ahead of B stay; one behind it stays, or, where it is a version's, it comes to be the version u. -/
structure KeepT (B : Nat) (u : Tup) (w w' : World) : Prop where
  below : Below B w w'
  at' : ∀ k, B ≤ k → k < w.heap.size → w'.heap[k]? = w.heap[k]? ∨ ((∃ cs, Lit w k 61 cs ∧ cs.length = 7) ∧ ∃ s, Lit w' k 61 (tupC u s))

section
variable {B : Nat} {u : Tup} {w w' w1 w2 : World}
theorem KeepT.refl (u : Tup) (w : World) : KeepT B u w w := ⟨Below.refl _ _, fun k _ _ => .inl rfl⟩
theorem KeepT.trans (h : KeepT B u w w1) (h2 : KeepT B u w1 w2) : KeepT B u w w2 := by
  refine ⟨h.below.trans h2.below, fun k hk hl => ?_⟩
  have hs := h.below.size
  rcases h.at' k hk hl with e | ⟨e1, s, e2⟩
  · rcases h2.at' k hk (by omega) with f | ⟨⟨cs, f1, f2⟩, f3⟩
    · exact .inl (f.trans e)
    · exact .inr ⟨⟨cs, e.symm.trans f1, f2⟩, f3⟩
  · rcases h2.at' k hk (by omega) with f | ⟨_, f3⟩
    · exact .inr ⟨e1, s, f.trans e2⟩
    · exact .inr ⟨e1, f3⟩
theorem KeepT.of_below (h : Below w.heap.size w w') (hB : B ≤ w.heap.size) : KeepT B u w w' := ⟨h.mono hB, fun k _ hl => .inl (h.block k hl)⟩
theorem KeepT.lit {k : Nat} {cs : List Value} (h : KeepT B u w w') (hk : B ≤ k) (hl : Lit w k 61 cs) (hc : cs.length = 7) : ∃ cs', Lit w' k 61 cs' ∧ cs'.length = 7 := by
  rcases h.at' k hk hl.lt with e | ⟨_, s, e2⟩
  · exact ⟨cs, e.trans hl, hc⟩
  · exact ⟨_, e2, rfl⟩
theorem KeepT.tup {k : Nat} (h : KeepT B u w w') (hk : B ≤ k) (hl : ∃ s, Lit w k 61 (tupC u s)) : ∃ s, Lit w' k 61 (tupC u s) := by
  obtain ⟨s, hl⟩ := hl
  rcases h.at' k hk hl.lt with e | ⟨_, e2⟩
  · exact ⟨s, e.trans hl⟩
  · exact e2
theorem KeepT.rowV {s : Value} {l : List Val} (h : KeepT B u w w') (hr : RowV w s l) : RowV w' s l := by
  refine RowF.stay (G := fun k => s.ownBlock = some k) hr ⟨h.below.size, fun k hk hs => ?_⟩ (fun k hk => hk)
  by_cases hkB : k < B
  · exact h.below.block k hkB
  · rcases h.at' k (by omega) hk with e | ⟨⟨cs, e1, _⟩, _⟩
    · exact e
    · obtain ⟨⟨xs, o1, o2⟩, o3⟩ := hr
      rcases o1.2 with ⟨rfl, _⟩ | ⟨b, cap, cur, rfl, hb, hg, _⟩
      · cases hs
      · have hbk : b = k := Option.some.inj hs
        subst hbk
        unfold Lit at e1
        rw [hg] at e1
        simp at e1
theorem KeepT.put {k : Nat} {a0 a1 a2 a3 a4 a5 a6 s : Value} (hk : B ≤ k) (hl : Lit w k 61 [a0, a1, a2, a3, a4, a5, a6]) : KeepT B u w (put7 w k u s) := by
  have ht := touch_put7 w k u s
  refine ⟨ht.below (fun j hj => by have h1 : j = k := hj; omega) (by have := hl.lt; omega), fun j hj hjl => ?_⟩
  by_cases e : j = k
  · subst e
    exact .inr ⟨⟨_, hl, rfl⟩, s, lit_put7 hl u s⟩
  · exact .inl (ht.block j hjl e)
end

set_option maxRecDepth 100000 in
set_option maxHeartbeats 8000000 in
theorem wseen_is {X : Nat → Prop} {w0 w : World} {h z t : Nat} {A : Ab} {T : Tb} (H : Duo X w0 w h A z t T) (hn : T.n ≤ 1000) (hz : z ≤ 90000) (gw : Nat) (hwr : Lit w gw 31 (wriC h t)) (a m y r : Int) (hy : I64 y) (hr : wsV T A a m y = r) (hone : ∀ p ∈ A.pl, p.2.row.length = 1) :
    Calls Try.prog 14 #[.pointer (some ⟨gw, 0, none⟩), .agg #[.int .i64 a, .int .i64 m], .int .i64 y] w fun e w' => e = .returned (.int .i64 r) ∧ Below w.heap.size w w' := by
  have mixed : Try.prog.follows Departure.mixedOrders = true := by kernel_rfl
  obtain ⟨g, hg⟩ : ∃ g, w.heap.size = g := ⟨_, rfl⟩
  obtain ⟨W, hW⟩ : ∃ W, w.alloc (.cells #[.int .i64 a, .int .i64 m] 34) = W := ⟨_, rfl⟩
  have hl : Lit W g 34 [.int .i64 a, .int .i64 m] := by rw [← hW, ← hg]; exact Lit.new w _ _
  have hb0 : Below w.heap.size w W := by rw [← hW]; exact Below.allocs _ _
  obtain ⟨sb, hsb⟩ : ∃ o, seenB T A a m 1 y = o := ⟨_, rfl⟩
  obtain ⟨sv, hsv⟩ : ∃ o, seenV T A a m 1 y = o := ⟨_, rfl⟩
  obtain ⟨u, hu⟩ : ∃ u, A.atT sv = u := ⟨_, rfl⟩
  have hrr : r = if sb then oneN u else -1 := by rw [← hr]; unfold wsV; rw [hsb, hsv, hu]
  have hin : sb = true → A.atB sv = true ∧ ∃ v, u.row = [v] := fun h1 => by
    rw [h1] at hsb
    have h2 := seen_at H.aok hsb
    rw [hsv] at h2
    refine ⟨h2.1, ?_⟩
    obtain ⟨tt, q1, q2⟩ := seen_in H.aok hsb
    rw [hsv] at q1
    have h3 : u = tt := by rw [← hu]; unfold Ab.atT; rw [q1]; rfl
    have h4 : (sv.toNat, tt) ∈ A.pl := by
      unfold Ab.tupI at q1
      by_cases h0 : 0 ≤ sv
      · rw [if_pos h0] at q1; exact (H.aok.tup _ _).1 q1
      · rw [if_neg h0] at q1; cases q1
    have h5 := hone _ h4
    rw [h3]
    exact List.length_eq_one_iff.1 h5
  have HD := Lib.hid (H.below hb0)
  have HWR : Hid (Lit W gw 31 [.pointer (some ⟨h, 0, none⟩), .pointer (some ⟨t, 0, none⟩), .slice none 0 0]) := Lib.hid (hwr.below hb0)
  have HL := Lib.hid hl
  have HB0 := Lib.hid hb0
  have HW := Lib.hid hW
  have HG := Lib.hid hg
  have HSB := Lib.hid hsb
  have HSV := Lib.hid hsv
  have HU := Lib.hid hu
  have HRR := Lib.hid hrr
  have HIN := Lib.hid hin
  clear H hwr hl hb0 hW hg hsb hsv hu hrr hin hr hone
  go_enter Try.func14, Try.ntmps14
  go_upto_region 1 with (fail)
  rw [HW.out, HG.out]
  clear HW HG
  have hdr := below_drw W
  try simp only [List.append_eq, List.cons_append, List.nil_append]
  refine RX.wp_region_plan (fun w w' => Below w.heap.size w w') [.it (.pointer (some ⟨gw, 0, none⟩)), .it (.pointer (some ⟨gw, 0, none⟩)), .it (.pointer (some ⟨gw, 0, none⟩)), .it (.pointer (some ⟨h, 0, none⟩)), .it (.pointer (some ⟨gw, 0, none⟩)), .it (.pointer (some ⟨gw, 0, none⟩)), .it (.pointer (some ⟨gw, 1, none⟩)), .it (.pointer (some ⟨t, 0, none⟩)), .it (.agg #[.int .i64 a, .int .i64 m]), .it (.int .i64 y), .it (.tuple #[.int .i64 sv, .bool sb]), .it (.tuple #[.int .i64 sv, .bool sb]), .it (.int .i64 sv), .it (.bool sb), .it (.int .i64 sv), .it (.bool sb)] (by kernel_rfl) (by kernel_rfl) (fun _ => Below.refl _ _) (fun _ _ _ => below_tr) ?_
  refine RX.seqP_value (fun _ => Below.refl _ _) _ (by first | rfl | simp) (fun w' hw' hctx => by (go_simp); (try first | with_reducible rfl | simp)) ?_
  simp only [Act.put, List.setIfInBounds_toArray, List.set_cons_zero, List.set_cons_succ]
  refine RX.seqP_value (fun _ => Below.refl _ _) _ (by first | rfl | simp) (fun w' hw' hctx => by (go_simp); (try first | with_reducible rfl | simp)) ?_
  simp only [Act.put, List.setIfInBounds_toArray, List.set_cons_zero, List.set_cons_succ]
  refine RX.seqP_value (fun _ => Below.refl _ _) _ (by first | rfl | simp) (fun w' hw' hctx => by (go_simp); (try first | with_reducible rfl | simp)) ?_
  simp only [Act.put, List.setIfInBounds_toArray, List.set_cons_zero, List.set_cons_succ]
  refine RX.seqP_value (fun _ => Below.refl _ _) _ (by first | rfl | simp) (fun w' hw' hctx => ?_) ?_
  · have q0 := (HWR.out.below (below_tr hdr hw')).cell (o := 0) rfl
    have ql := (HWR.out.below (below_tr hdr hw')).lt
    go_simp
    try first | with_reducible rfl | simp
  simp only [Act.put, List.setIfInBounds_toArray, List.set_cons_zero, List.set_cons_succ]
  refine RX.seqP_value (fun _ => Below.refl _ _) _ (by first | rfl | simp) (fun w' hw' hctx => by (go_simp); (try first | with_reducible rfl | simp)) ?_
  simp only [Act.put, List.setIfInBounds_toArray, List.set_cons_zero, List.set_cons_succ]
  refine RX.seqP_value (fun _ => Below.refl _ _) _ (by first | rfl | simp) (fun w' hw' hctx => by (go_simp); (try first | with_reducible rfl | simp)) ?_
  simp only [Act.put, List.setIfInBounds_toArray, List.set_cons_zero, List.set_cons_succ]
  refine RX.seqP_value (fun _ => Below.refl _ _) _ (by first | rfl | simp) (fun w' hw' hctx => by (go_simp); (try first | with_reducible rfl | simp)) ?_
  simp only [Act.put, List.setIfInBounds_toArray, List.set_cons_zero, List.set_cons_succ]
  refine RX.seqP_value (fun _ => Below.refl _ _) _ (by first | rfl | simp) (fun w' hw' hctx => ?_) ?_
  · have q1 := (HWR.out.below (below_tr hdr hw')).cell (o := 1) rfl
    have ql := (HWR.out.below (below_tr hdr hw')).lt
    go_simp
    try first | with_reducible rfl | simp
  simp only [Act.put, List.setIfInBounds_toArray, List.set_cons_zero, List.set_cons_succ]
  refine RX.seqP_value (fun _ => Below.refl _ _) _ (by first | rfl | simp) (fun w' hw' hctx => ?_) ?_
  · have e0 := (HL.out.below (below_tr hdr hw')).cell (o := 0) rfl
    have e1 := (HL.out.below (below_tr hdr hw')).cell (o := 1) rfl
    have el := (HL.out.below (below_tr hdr hw')).lt
    go_simp
    try first | with_reducible rfl | simp
  simp only [Act.put, List.setIfInBounds_toArray, List.set_cons_zero, List.set_cons_succ]
  refine RX.seqP_value (fun _ => Below.refl _ _) _ (by first | rfl | simp) (fun w' hw' hctx => by (go_simp); (try first | with_reducible rfl | simp)) ?_
  simp only [Act.put, List.setIfInBounds_toArray, List.set_cons_zero, List.set_cons_succ]
  refine RX.seqP_call (19) #[.pointer (some ⟨h, 0, none⟩), .pointer (some ⟨t, 0, none⟩), .agg #[.int .i64 a, .int .i64 m], .int .i64 1, .int .i64 y] (.tuple #[.int .i64 sv, .bool sb]) (by first | rfl | simp) (fun w' hw' hctx => ?_) (fun w' hw' hctx => duo_seen (HD.out.below (below_tr hdr hw')) hn hz a m 1 y i64_1 hy sb sv HSB.out HSV.out) ?_
  · go_simp
  simp only [Act.put, List.setIfInBounds_toArray, List.set_cons_zero, List.set_cons_succ]
  refine RX.seqP_value (fun _ => Below.refl _ _) _ (by first | rfl | simp) (fun w' hw' hctx => by (go_simp); (try first | with_reducible rfl | simp)) ?_
  simp only [Act.put, List.setIfInBounds_toArray, List.set_cons_zero, List.set_cons_succ]
  refine RX.seqP_value (fun _ => Below.refl _ _) _ (by first | rfl | simp) (fun w' hw' hctx => by (go_simp); (try first | with_reducible rfl | simp)) ?_
  simp only [Act.put, List.setIfInBounds_toArray, List.set_cons_zero, List.set_cons_succ]
  refine RX.seqP_value (fun _ => Below.refl _ _) _ (by first | rfl | simp) (fun w' hw' hctx => by (go_simp); (try first | with_reducible rfl | simp)) ?_
  simp only [Act.put, List.setIfInBounds_toArray, List.set_cons_zero, List.set_cons_succ]
  refine RX.seqP_value (fun _ => Below.refl _ _) _ (by first | rfl | simp) (fun w' hw' hctx => by (go_simp); (try first | with_reducible rfl | simp)) ?_
  simp only [Act.put, List.setIfInBounds_toArray, List.set_cons_zero, List.set_cons_succ]
  refine RX.seqP_value (fun _ => Below.refl _ _) _ (by first | rfl | simp) (fun w' hw' hctx => by (go_simp); (try first | with_reducible rfl | simp)) ?_
  simp only [Act.put, List.setIfInBounds_toArray, List.set_cons_zero, List.set_cons_succ]
  refine RX.seqP_nil (fun w2 hR hctx _ => ?_)
  have hb2 := below_tr hdr hR
  clear hctx hR
  have HB2 := Lib.hid hb2
  clear hb2 hdr
  cases sb with
  | false =>
    have hrv : r = -1 := by rw [HRR.out]; rfl
    subst hrv
    go_wp2_with fail
    go_ret
    exact ⟨rfl, below_tr HB0.out HB2.out⟩
  | true =>
    have hrv : r = oneN u := by rw [HRR.out]; rfl
    obtain ⟨hab, v, hv⟩ := HIN.out rfl
    have hnv : r = v.n := by rw [hrv]; unfold oneN; rw [hv]
    subst hnv
    have hat := duo_at (u := u) (b := true) (HD.out.below HB2.out) sv hz HU.out hab
    unfold tupV at hat
    have HAT := Lib.hid hat
    have q0 := (HWR.out.below HB2.out).cell (o := 0) rfl
    have ql := (HWR.out.below HB2.out).lt
    have HV := Lib.hid hv
    clear hrv hab hv hat HIN HRR
    go_wp2_with fail
    refine HAT.out.mono ?_
    rintro e w3 ⟨sl, rfl, hr3, -, hb3⟩
    rw [HV.out] at hr3
    obtain ⟨bb, cc, hsf, hnc, hcm, hbl, hcell, -⟩ := RowF.at hr3 (j := 0) (Nat.lt_succ_self 0)
    rw [show ([v] : List Val).length = 1 from rfl] at hsf hnc
    subst hsf
    have v1 := hcell 0 (Nat.lt_succ_self 0) 1 _ rfl
    rw [Nat.zero_mul, Nat.zero_add] at v1
    obtain ⟨W4, hW4⟩ : ∃ W4, w3.alloc (.cells #[.int .i64 u.no, .int .i64 u.id, .int .i64 u.mn, .int .i64 u.cm, .int .i64 u.mx, .int .i64 u.cx, .slice (some ⟨bb, 0, none⟩) 1 cc] 61) = W4 := ⟨_, rfl⟩
    obtain ⟨g4, hg4⟩ : ∃ g, w3.heap.size = g := ⟨_, rfl⟩
    have hl4 : Lit W4 g4 61 [.int .i64 u.no, .int .i64 u.id, .int .i64 u.mn, .int .i64 u.cm, .int .i64 u.mx, .int .i64 u.cx, .slice (some ⟨bb, 0, none⟩) 1 cc] := by rw [← hW4, ← hg4]; exact Lit.new w3 _ _
    have hb4 : Below w3.heap.size w3 W4 := by rw [← hW4]; exact Below.allocs _ _
    have d6 := hl4.cell (o := 6) rfl
    have dl := hl4.lt
    have v1' : W4.cell? ⟨bb, 1, none⟩ = some (.int .i64 v.n) := by rw [hb4.cell (p := ⟨bb, 1, none⟩) hbl]; exact v1
    have vl : bb < W4.heap.size := Nat.lt_of_lt_of_le hbl hb4.size
    have HB4 := Lib.hid (below_tr HB2.out (below_tr hb3 hb4))
    clear q0 ql hr3 hcell v1 hl4 hb3 hb4 hbl HAT
    go_wp2_with fail
    go_ret
    exact ⟨rfl, below_tr HB0.out HB4.out⟩

set_option maxRecDepth 100000 in
set_option maxHeartbeats 8000000 in
theorem write_is {X : Nat → Prop} {w0 w : World} {h z t : Nat} {A : Ab} {T : Tb} (H : Duo X w0 w h A z t T) (hn : T.n ≤ 1000) (hz : z ≤ 80000) (gw : Nat) (hX : X gw) (hwr : Lit w gw 31 (wriC h t)) (top sub y n : Int) (htop : I64 top) (hsub : I64 sub) (hy : Most y) (hni : I64 n) (b : Bool) (hb : wrB T A top y n = b) (A' : Ab) (hA : wrA T A top sub y n = A') :
    Calls Try.prog 13 #[.pointer (some ⟨gw, 0, none⟩), .int .i64 top, .int .i64 sub, .int .i64 y, .int .i64 n] w fun e w' => e = .returned (.bool b) ∧ Duo X w0 w' h A' (z + 3) t T ∧ Stay X w w' := by
  have mixed : Try.prog.follows Departure.mixedOrders = true := by kernel_rfl
  have hy64 : I64 y := by unfold Most at hy; unfold I64; omega
  obtain ⟨L, hL⟩ : ∃ L, A.vs 1 y = L := ⟨_, rfl⟩
  obtain ⟨N, hN⟩ : ∃ N, L.length = N := ⟨_, rfl⟩
  have hsl := duo_slots H 1 y i64_1 hy64 (by omega) rfl
  rw [← Ab.vs_slots, hL] at hsl
  have HD := Lib.hid H
  have HWR : Hid (Lit w gw 31 [.pointer (some ⟨h, 0, none⟩), .pointer (some ⟨t, 0, none⟩), .slice none 0 0]) := Lib.hid hwr
  have HL := Lib.hid hL
  have HN := Lib.hid hN
  have HSL := Lib.hid hsl
  have HI := Lib.hid (And.intro htop (And.intro hsub (And.intro hy (And.intro hy64 hni))))
  have HBB := Lib.hid hb
  have HAA := Lib.hid hA
  have HX := Lib.hid hX
  have q0 := hwr.cell (o := 0) rfl
  have ql := hwr.lt
  clear H hwr hL hN hsl htop hsub hy hy64 hni hb hA hX
  go_enter Try.func13, Try.ntmps13
  go_wp2_with fail
  refine HSL.out.mono ?_
  rintro e w1 ⟨sl, rfl, hr1, -, hb1⟩
  obtain ⟨sa, sc, hsf, hnc, hcm⟩ := hr1.form
  rw [natI_len, List.length_map, HN.out] at hsf hnc
  subst hsf
  have HR := Lib.hid hr1
  have HB1 := Lib.hid hb1
  have hNb : N ≤ 9223372036854775807 := by unfold maxLen at hcm; omega
  clear hr1 hb1 q0 ql HSL hnc hcm
  go_wp2_with fail
  go_loopg [12] N (fun gg s12 wr => ∃ i : Nat, s12 = .int .i64 i ∧ i ≤ N ∧ N - i ≤ gg ∧ Hid (Below w1.heap.size w1 wr) ∧ Hid (∀ p ∈ L.take i, (lkB T top p.2.mn || lkB T top p.2.mx) = false))
  case atStart => exact ⟨0, rfl, Nat.zero_le _, by omega, Lib.hid (Below.refl _ _), Lib.hid (fun p hp => absurd hp List.not_mem_nil)⟩
  case round =>
    obtain ⟨i, rfl, hin, hgg, HBR, HNO⟩ := hrel
    obtain ⟨wo, rfl⟩ : ∃ wo, wo = wr := ⟨_, rfl⟩
    by_cases hlt : i < N
    · have hltz : (i : Int) < (N : Int) := by omega
      have z1 : ¬ N ≤ i := by omega
      have hB := below_tr HB1.out HBR.out
      obtain ⟨p, hp⟩ : ∃ p, L[i]? = some p := ⟨L[i]'(by rw [HN.out]; exact hlt), List.getElem?_eq_getElem _⟩
      have hpi : i < L.length := by rw [HN.out]; exact hlt
      have hpe : L[i] = p := by rw [List.getElem?_eq_getElem hpi] at hp; exact Option.some.inj hp
      obtain ⟨sb', c', e1, -, -, r0, r1, r2⟩ := RowI.at (RowF.below HR.out HBR.out) (j := i) (by rw [natI_len, List.length_map]; exact hpi)
      rw [natI_len, List.length_map, HN.out] at e1
      cases e1
      have r3 := r1 i (by rw [natI_len, List.length_map]; exact hpi)
      rw [natI_get (by rw [List.length_map]; exact hpi), List.getElem_map, hpe] at r3
      have hvt := vs_tup HD.out.aok (x := 1) (y := y) (i := i) (by rw [HL.out]; exact hpi)
      have hve : (A.vs 1 y)[i]'(by rw [HL.out]; exact hpi) = p := by simp only [HL.out]; exact hpe
      rw [hve] at hvt
      obtain ⟨slot, u⟩ := p
      have hpm : (slot, u) ∈ A.pl := by
        have h1 : (slot, u) ∈ A.vs 1 y := by rw [HL.out]; exact List.mem_of_getElem? hp
        exact (List.mem_filter.1 h1).1
      have hwf := (HD.out.aok.wf _ hpm).1
      have HROW := Lib.hid (And.intro r3 (And.intro r0 r2))
      have HU := Lib.hid hvt
      have HWF := Lib.hid hwf
      have HPE := Lib.hid hp
      have HDR := Lib.hid (HD.out.below hB)
      have HWRR := Lib.hid (HWR.out.below hB)
      have HIL := Lib.hid (And.intro hin (And.intro hgg (And.intro hlt z1)))
      clear hB r0 r1 r2 r3 hvt hve hpm hwf hp hpe hpi hin hgg
      go_upto_region 5 with (fail)
      have hdr := below_drw wo
      try simp only [List.append_eq, List.cons_append, List.nil_append]
      refine RX.wp_region_plan (KeepT (wo).heap.size u) [.it (.pointer (some ⟨gw, 0, none⟩)), .it (.pointer (some ⟨gw, 0, none⟩)), .it (.pointer (some ⟨gw, 0, none⟩)), .it (.pointer (some ⟨h, 0, none⟩)), .it (.slice (some ⟨sb', 0, none⟩) N sc), .it (.int .i64 i), .it (.pointer (some ⟨sb', i, none⟩)), .it (.int .i64 slot), .of (fun W v => ∃ s, v = .tuple #[tupV u s, .bool true] ∧ RowV W s u.row), .of (fun W v => ∃ s, v = .tuple #[tupV u s, .bool true] ∧ RowV W s u.row), .of (fun W v => ∃ s, v = tupV u s ∧ RowV W s u.row), .it (.bool true), .of (fun W v => ∃ gx cs, v = .pointer (some ⟨gx, 0, none⟩) ∧ wo.heap.size ≤ gx ∧ Lit W gx 61 cs ∧ cs.length = 7), .on 12 (fun p w _ => ∀ gx, p = .pointer (some ⟨gx, 0, none⟩) → wo.heap.size ≤ gx → ∃ s, Lit w gx 61 (tupC u s)), .it (.bool true)] (by kernel_rfl) (by kernel_rfl) (KeepT.refl _) (fun _ _ _ => KeepT.trans) ?_
      refine RX.seqP_value (KeepT.refl _) _ (by first | rfl | simp) (fun w' hw' hctx => by (go_simp); (try first | with_reducible rfl | simp)) ?_
      simp only [Act.put, List.setIfInBounds_toArray, List.set_cons_zero, List.set_cons_succ]
      refine RX.seqP_value (KeepT.refl _) _ (by first | rfl | simp) (fun w' hw' hctx => by (go_simp); (try first | with_reducible rfl | simp)) ?_
      simp only [Act.put, List.setIfInBounds_toArray, List.set_cons_zero, List.set_cons_succ]
      refine RX.seqP_value (KeepT.refl _) _ (by first | rfl | simp) (fun w' hw' hctx => by (go_simp); (try first | with_reducible rfl | simp)) ?_
      simp only [Act.put, List.setIfInBounds_toArray, List.set_cons_zero, List.set_cons_succ]
      refine RX.seqP_value (KeepT.refl _) _ (by first | rfl | simp) (fun w' hw' hctx => ?_) ?_
      · have q0 := (HWRR.out.below (below_tr hdr hw'.below)).cell (o := 0) rfl
        have ql := (HWRR.out.below (below_tr hdr hw'.below)).lt
        go_simp
        try first | with_reducible rfl | simp
      simp only [Act.put, List.setIfInBounds_toArray, List.set_cons_zero, List.set_cons_succ]
      refine RX.seqP_value (KeepT.refl _) _ (by first | rfl | simp) (fun w' hw' hctx => by (go_simp); (try first | with_reducible rfl | simp)) ?_
      simp only [Act.put, List.setIfInBounds_toArray, List.set_cons_zero, List.set_cons_succ]
      refine RX.seqP_value (KeepT.refl _) _ (by first | rfl | simp) (fun w' hw' hctx => by (go_simp); (try first | with_reducible rfl | simp)) ?_
      simp only [Act.put, List.setIfInBounds_toArray, List.set_cons_zero, List.set_cons_succ]
      refine RX.seqP_value (KeepT.refl _) _ (by first | rfl | simp) (fun w' hw' hctx => by (go_simp); (try first | with_reducible rfl | simp)) ?_
      simp only [Act.put, List.setIfInBounds_toArray, List.set_cons_zero, List.set_cons_succ]
      refine RX.seqP_value (KeepT.refl _) _ (by first | rfl | simp) (fun w' hw' hctx => ?_) ?_
      · have r3 := HROW.out.1
        have r0 := HROW.out.2.1
        have r4 : w'.cell? ⟨sb', i, none⟩ = some (.int .i64 slot) := by rw [((below_tr hdr hw'.below)).cell (p := ⟨sb', i, none⟩) r0]; exact r3
        have r5 := Nat.lt_of_lt_of_le r0 ((below_tr hdr hw'.below)).size
        go_simp
        try first | with_reducible rfl | simp
      simp only [Act.put, List.setIfInBounds_toArray, List.set_cons_zero, List.set_cons_succ]
      refine RX.seqP_callOf (17) #[.pointer (some ⟨h, 0, none⟩), .int .i64 slot] (fun W v => ∃ s, v = .tuple #[tupV u s, .bool true] ∧ RowV W s u.row) (fun w w' v hb h => by obtain ⟨s, h1, h2⟩ := h; exact ⟨s, h1, hb.rowV h2⟩) (by first | rfl | simp) (fun w' hw' hctx => ?_) (fun w' hw' hctx => (duo_at (u := u) (b := true) (HDR.out.below (below_tr hdr hw'.below)) slot (by omega) HU.out.1 HU.out.2).mono fun e w2 hh => by obtain ⟨s, h1, h2, h3, h4⟩ := hh; exact ⟨_, h1, KeepT.of_below h4 hw'.below.size, s, rfl, h2⟩) (fun u8 => ?_)
      · go_simp
      simp only [Act.put, List.setIfInBounds_toArray, List.set_cons_zero, List.set_cons_succ]
      refine RX.seqP_make (fun W v => ∃ s, v = .tuple #[tupV u s, .bool true] ∧ RowV W s u.row) (fun w w' v hb h => by obtain ⟨s, h1, h2⟩ := h; exact ⟨s, h1, hb.rowV h2⟩) (by first | rfl | simp) (fun w' hw' hctx => ?_) (fun u9 => ?_)
      · have hc := hctx.1
        exact ⟨u8, w', by go_simp, KeepT.refl _ _, hc⟩
      simp only [Act.put, List.setIfInBounds_toArray, List.set_cons_zero, List.set_cons_succ]
      refine RX.seqP_make (fun W v => ∃ s, v = tupV u s ∧ RowV W s u.row) (fun w w' v hb h => by obtain ⟨s, h1, h2⟩ := h; exact ⟨s, h1, hb.rowV h2⟩) (by first | rfl | simp) (fun w' hw' hctx => ?_) (fun u10 => ?_)
      · obtain ⟨sx, rfl, hsx⟩ := hctx.1
        exact ⟨tupV u sx, w', by go_simp, KeepT.refl _ _, sx, rfl, hsx⟩
      simp only [Act.put, List.setIfInBounds_toArray, List.set_cons_zero, List.set_cons_succ]
      refine RX.seqP_value (KeepT.refl _) _ (by first | rfl | simp) (fun w' hw' hctx => ?_) ?_
      · obtain ⟨sx, rfl, hsx⟩ := hctx.2.1
        go_simp
        try first | with_reducible rfl | simp
      simp only [Act.put, List.setIfInBounds_toArray, List.set_cons_zero, List.set_cons_succ]
      refine RX.seqP_make (fun W v => ∃ gx cs, v = .pointer (some ⟨gx, 0, none⟩) ∧ wo.heap.size ≤ gx ∧ Lit W gx 61 cs ∧ cs.length = 7) (fun w w' v hb h => by obtain ⟨gx, cs, h1, h2, h3, h4⟩ := h; obtain ⟨cs', h5, h6⟩ := hb.lit h2 h3 h4; exact ⟨gx, cs', h1, h2, h5, h6⟩) (by first | rfl | simp) (fun w' hw' hctx => ?_) (fun u12 => ?_)
      · exact ⟨.pointer (some ⟨w'.heap.size, 0, none⟩), w'.alloc (.cells #[.int .i64 0, .int .i64 0, .int .i64 0, .int .i64 0, .int .i64 0, .int .i64 0, .slice none 0 0] 61), by go_simp, KeepT.of_below (Below.allocs _ _) hw'.below.size, _, _, rfl, hw'.below.size, Lit.new w' _ _, rfl⟩
      simp only [Act.put, List.setIfInBounds_toArray, List.set_cons_zero, List.set_cons_succ]
      refine RX.seqP_write 12 _ (by decide) (fun w w' v hR hV gx h1 h2 => hR.tup h2 (hV gx h1 h2)) (by first | rfl | simp) (fun w' hw' hctx => ?_) (fun u13 => ?_)
      · obtain ⟨gx, cs, hgx, h2, h3, h4⟩ := hctx.1
        obtain ⟨sx, hsx, hrx⟩ := hctx.2.1
        subst hgx hsx
        obtain ⟨xa, xc, hxf, -, -⟩ := hrx.form
        subst hxf
        obtain ⟨xn, hxn⟩ : ∃ xn, u.row.length = xn := ⟨_, rfl⟩
        rw [hxn]
        obtain ⟨x0, x1, x2, x3, x4, x5, x6, rfl⟩ := seven h4
        have y0 := h3.cell (o := 0) rfl
        have f0 := h3.fz 0
        have y1 := h3.cell (o := 1) rfl
        have f1 := h3.fz 1
        have y2 := h3.cell (o := 2) rfl
        have f2 := h3.fz 2
        have y3 := h3.cell (o := 3) rfl
        have f3 := h3.fz 3
        have y4 := h3.cell (o := 4) rfl
        have f4 := h3.fz 4
        have y5 := h3.cell (o := 5) rfl
        have f5 := h3.fz 5
        have y6 := h3.cell (o := 6) rfl
        have f6 := h3.fz 6
        have yl := h3.lt
        clear hctx
        refine ⟨put7 w' gx u (.slice xa xn xc), ?_, KeepT.put h2 h3, fun gy h5 _ => ?_⟩
        · unfold tupV put7
          go_simp
        · simp [RX.upd] at h5
          subst h5
          exact ⟨_, lit_put7 h3 _ _⟩
      simp only [Act.put]
      refine RX.seqP_value (KeepT.refl _) _ (by first | rfl | simp) (fun w' hw' hctx => by (go_simp); (try first | with_reducible rfl | simp)) ?_
      simp only [Act.put, List.setIfInBounds_toArray, List.set_cons_zero, List.set_cons_succ]
      refine RX.seqP_nil (fun w5 hR hctx _ => ?_)
      have hb5 := below_tr hdr hR.below
      have HB5 := Lib.hid hb5
      obtain ⟨g7, cs7, rfl, hg7, -, -⟩ := hctx.2.1
      obtain ⟨s7, hl7⟩ := hctx.1 g7 (by simp [RX.upd]) hg7
      clear hctx hR hdr
      have HE := Lib.hid hl7
      have HB5 := Lib.hid hb5
      clear hl7 hb5 HROW
      have d2 := HE.out.cell (o := 2) rfl
      have d4 := HE.out.cell (o := 4) rfl
      have dl := HE.out.lt
      obtain ⟨V6, hV6⟩ : ∃ V6, w5.alloc (.cells #[.int .i64 u.mn, .int .i64 u.mx] 3) = V6 := ⟨_, rfl⟩
      obtain ⟨g6, hg6⟩ : ∃ g, w5.heap.size = g := ⟨_, rfl⟩
      have hl6 : Lit V6 g6 3 [.int .i64 u.mn, .int .i64 u.mx] := by rw [← hV6, ← hg6]; exact Lit.new w5 _ _
      have hb6 : Below w5.heap.size w5 V6 := by rw [← hV6]; exact Below.allocs _ _
      have HL6 := Lib.hid hl6
      have HB6 := Lib.hid (HB5.out.trans (hb6.mono HB5.out.size))
      clear hl6 hb6
      go_wp2_with fail
      clear d2 d4 dl hV6 hg6
      go_loopg [51] 2 (fun gk s51 wq => ∃ j : Nat, s51 = .int .i64 j ∧ j ≤ 2 ∧ 2 - j ≤ gk ∧ Hid (Below V6.heap.size V6 wq) ∧ Hid ((1 ≤ j → lkB T top u.mn = false) ∧ (2 ≤ j → lkB T top u.mx = false)))
      case atStart => exact ⟨0, rfl, by omega, by omega, Lib.hid (Below.refl _ _), Lib.hid ⟨fun h => absurd h (by omega), fun h => absurd h (by omega)⟩⟩
      case round =>
        obtain ⟨j, rfl, hj2, hgk, HBQ, HNL⟩ := hrel
        by_cases hj : j < 2
        · have hjz : (j : Int) < 2 := by omega
          have hj0 : (0 : Int) ≤ (j : Int) := by omega
          have hjn : ¬ 2 ≤ j := by omega
          obtain ⟨x, hx, hxi, hxl⟩ : ∃ x, ([.int .i64 u.mn, .int .i64 u.mx] : List Value)[j]? = some (.int .i64 x) ∧ I64 x ∧ (x = u.mn ∧ j = 0 ∨ x = u.mx ∧ j = 1) := by
            rcases (show j = 0 ∨ j = 1 by omega) with rfl | rfl
            · exact ⟨u.mn, rfl, HWF.out.mn, .inl ⟨rfl, rfl⟩⟩
            · exact ⟨u.mx, rfl, HWF.out.mx, .inr ⟨rfl, rfl⟩⟩
          have hbq := below_tr HB6.out HBQ.out
          have x0 := (HL6.out.below HBQ.out).cell (o := j) hx
          have xl := (HL6.out.below HBQ.out).lt
          have HDQ := Lib.hid (HDR.out.below hbq)
          have HWQ := Lib.hid (HWRR.out.below hbq)
          have HBW := Lib.hid hbq
          have HXI := Lib.hid hxi
          have HXL := Lib.hid hxl
          have HJ := Lib.hid (And.intro hj2 (And.intro hgk hj))
          obtain ⟨lk, hlk⟩ : ∃ lk, lkB T top x = lk := ⟨_, rfl⟩
          have HLK := Lib.hid hlk
          obtain ⟨c1, hc1⟩ : ∃ c, T.cnt x = c := ⟨_, rfl⟩
          obtain ⟨tp, htp⟩ : ∃ c, T.g T.top x = c := ⟨_, rfl⟩
          obtain ⟨nu, hnu⟩ : ∃ c, T.numI tp = c := ⟨_, rfl⟩
          have htp64 : I64 tp := by rw [← htp]; exact g_i64 HD.out.tok (by omega) x
          have HC1 := Lib.hid hc1
          have HTP := Lib.hid htp
          have HNU := Lib.hid hnu
          have HT64 := Lib.hid htp64
          unfold lkB at hlk
          rw [hc1, htp, hnu] at hlk
          clear hbq hx hxi hxl hj2 hgk hj hc1 htp hnu htp64
          go_upto_region 9 with (fail)
          clear x0 xl hjz hj0 hjn
          by_cases hx0 : x = 0
          · have hlf : lk = false := by rw [← hlk, hx0]; rfl
            subst hlf
            subst hx0
            clear hlk
            have hdr := below_drw wr
            try simp only [List.append_eq, List.cons_append, List.nil_append]
            refine RX.wp_region_plan (fun w w' => Below w.heap.size w w') [.it (.int .i64 0), .it (.bool false), .it (.bool false), .it undef, .it undef, .it undef, .it undef, .it undef, .it undef, .it (.bool false), .it (.bool false), .it undef, .it undef, .it undef, .it undef, .it undef, .it undef, .it undef, .it undef, .it (.bool false), .it (.bool false), .it undef, .it undef, .it undef, .it undef, .it undef, .it undef, .it undef, .it undef, .it undef, .it undef, .it undef, .it undef, .it (.bool false)] (by kernel_rfl) (by kernel_rfl) (fun _ => Below.refl _ _) (fun _ _ _ => below_tr) ?_
            refine RX.seqP_value (fun _ => Below.refl _ _) _ (by first | rfl | simp) (fun w' hw' hctx => by (go_simp); (try first | with_reducible rfl | simp)) ?_
            simp only [Act.put, List.setIfInBounds_toArray, List.set_cons_zero, List.set_cons_succ]
            refine RX.seqP_value (fun _ => Below.refl _ _) _ (by first | rfl | simp) (fun w' hw' hctx => by (go_simp); (try first | with_reducible rfl | simp)) ?_
            simp only [Act.put, List.setIfInBounds_toArray, List.set_cons_zero, List.set_cons_succ]
            refine RX.seqP_value (fun _ => Below.refl _ _) _ (by first | rfl | simp) (fun w' hw' hctx => by (go_simp); (try first | with_reducible rfl | simp)) ?_
            simp only [Act.put, List.setIfInBounds_toArray, List.set_cons_zero, List.set_cons_succ]
            refine RX.seqP_skip (by first | rfl | simp) ?_
            simp only [Act.put, List.setIfInBounds_toArray, List.set_cons_zero, List.set_cons_succ]
            refine RX.seqP_skip (by first | rfl | simp) ?_
            simp only [Act.put, List.setIfInBounds_toArray, List.set_cons_zero, List.set_cons_succ]
            refine RX.seqP_skip (by first | rfl | simp) ?_
            simp only [Act.put, List.setIfInBounds_toArray, List.set_cons_zero, List.set_cons_succ]
            refine RX.seqP_skip (by first | rfl | simp) ?_
            simp only [Act.put, List.setIfInBounds_toArray, List.set_cons_zero, List.set_cons_succ]
            refine RX.seqP_skip (by first | rfl | simp) ?_
            simp only [Act.put, List.setIfInBounds_toArray, List.set_cons_zero, List.set_cons_succ]
            refine RX.seqP_skip (by first | rfl | simp) ?_
            simp only [Act.put, List.setIfInBounds_toArray, List.set_cons_zero, List.set_cons_succ]
            refine RX.seqP_value (fun _ => Below.refl _ _) _ (by first | rfl | simp) (fun w' hw' hctx => by (go_simp); (try first | with_reducible rfl | simp)) ?_
            simp only [Act.put, List.setIfInBounds_toArray, List.set_cons_zero, List.set_cons_succ]
            refine RX.seqP_value (fun _ => Below.refl _ _) _ (by first | rfl | simp) (fun w' hw' hctx => by (go_simp); (try first | with_reducible rfl | simp)) ?_
            simp only [Act.put, List.setIfInBounds_toArray, List.set_cons_zero, List.set_cons_succ]
            refine RX.seqP_skip (by first | rfl | simp) ?_
            simp only [Act.put, List.setIfInBounds_toArray, List.set_cons_zero, List.set_cons_succ]
            refine RX.seqP_skip (by first | rfl | simp) ?_
            simp only [Act.put, List.setIfInBounds_toArray, List.set_cons_zero, List.set_cons_succ]
            refine RX.seqP_skip (by first | rfl | simp) ?_
            simp only [Act.put, List.setIfInBounds_toArray, List.set_cons_zero, List.set_cons_succ]
            refine RX.seqP_skip (by first | rfl | simp) ?_
            simp only [Act.put, List.setIfInBounds_toArray, List.set_cons_zero, List.set_cons_succ]
            refine RX.seqP_skip (by first | rfl | simp) ?_
            simp only [Act.put, List.setIfInBounds_toArray, List.set_cons_zero, List.set_cons_succ]
            refine RX.seqP_skip (by first | rfl | simp) ?_
            simp only [Act.put, List.setIfInBounds_toArray, List.set_cons_zero, List.set_cons_succ]
            refine RX.seqP_skip (by first | rfl | simp) ?_
            simp only [Act.put, List.setIfInBounds_toArray, List.set_cons_zero, List.set_cons_succ]
            refine RX.seqP_skip (by first | rfl | simp) ?_
            simp only [Act.put, List.setIfInBounds_toArray, List.set_cons_zero, List.set_cons_succ]
            refine RX.seqP_value (fun _ => Below.refl _ _) _ (by first | rfl | simp) (fun w' hw' hctx => by (go_simp); (try first | with_reducible rfl | simp)) ?_
            simp only [Act.put, List.setIfInBounds_toArray, List.set_cons_zero, List.set_cons_succ]
            refine RX.seqP_value (fun _ => Below.refl _ _) _ (by first | rfl | simp) (fun w' hw' hctx => by (go_simp); (try first | with_reducible rfl | simp)) ?_
            simp only [Act.put, List.setIfInBounds_toArray, List.set_cons_zero, List.set_cons_succ]
            refine RX.seqP_skip (by first | rfl | simp) ?_
            simp only [Act.put, List.setIfInBounds_toArray, List.set_cons_zero, List.set_cons_succ]
            refine RX.seqP_skip (by first | rfl | simp) ?_
            simp only [Act.put, List.setIfInBounds_toArray, List.set_cons_zero, List.set_cons_succ]
            refine RX.seqP_skip (by first | rfl | simp) ?_
            simp only [Act.put, List.setIfInBounds_toArray, List.set_cons_zero, List.set_cons_succ]
            refine RX.seqP_skip (by first | rfl | simp) ?_
            simp only [Act.put, List.setIfInBounds_toArray, List.set_cons_zero, List.set_cons_succ]
            refine RX.seqP_skip (by first | rfl | simp) ?_
            simp only [Act.put, List.setIfInBounds_toArray, List.set_cons_zero, List.set_cons_succ]
            refine RX.seqP_skip (by first | rfl | simp) ?_
            simp only [Act.put, List.setIfInBounds_toArray, List.set_cons_zero, List.set_cons_succ]
            refine RX.seqP_skip (by first | rfl | simp) ?_
            simp only [Act.put, List.setIfInBounds_toArray, List.set_cons_zero, List.set_cons_succ]
            refine RX.seqP_skip (by first | rfl | simp) ?_
            simp only [Act.put, List.setIfInBounds_toArray, List.set_cons_zero, List.set_cons_succ]
            refine RX.seqP_skip (by first | rfl | simp) ?_
            simp only [Act.put, List.setIfInBounds_toArray, List.set_cons_zero, List.set_cons_succ]
            refine RX.seqP_skip (by first | rfl | simp) ?_
            simp only [Act.put, List.setIfInBounds_toArray, List.set_cons_zero, List.set_cons_succ]
            refine RX.seqP_skip (by first | rfl | simp) ?_
            simp only [Act.put, List.setIfInBounds_toArray, List.set_cons_zero, List.set_cons_succ]
            refine RX.seqP_skip (by first | rfl | simp) ?_
            simp only [Act.put, List.setIfInBounds_toArray, List.set_cons_zero, List.set_cons_succ]
            refine RX.seqP_value (fun _ => Below.refl _ _) _ (by first | rfl | simp) (fun w' hw' hctx => by (go_simp); (try first | with_reducible rfl | simp)) ?_
            simp only [Act.put, List.setIfInBounds_toArray, List.set_cons_zero, List.set_cons_succ]
            refine RX.seqP_nil (fun wz hR hctx _ => ?_)
            have hbz := below_tr hdr hR
            clear hctx hR
            have HBZ := Lib.hid hbz
            clear hbz hdr
            have HNL2 : Hid ((1 ≤ j + 1 → lkB T top u.mn = false) ∧ (2 ≤ j + 1 → lkB T top u.mx = false)) := Lib.hid (by
              rcases HXL.out with ⟨e1, e2⟩ | ⟨e1, e2⟩
              · exact ⟨fun _ => by rw [← e1]; exact HLK.out, fun h => by omega⟩
              · exact ⟨fun _ => HNL.out.1 (by omega), fun _ => by rw [← e1]; exact HLK.out⟩)
            have HBQ2 := Lib.hid (below_tr HBQ.out HBZ.out)
            go_wp2_with fail
            go_roundg (2 - (j + 1))
            case measure => have := HJ.out; omega
            case rel => exact ⟨j + 1, by have h1 := HJ.out; have h2 : wrap64 ((j : Int) + 1) = ((j + 1 : Nat) : Int) := (by rw [wrOk (by omega)]; omega); rw [h2], by have := HJ.out; omega, Nat.le_refl _, HBQ2, HNL2⟩
          · have hxn : (x != 0) = true := by simpa using hx0
            rw [decide_eq_true hx0, Bool.true_and] at hlk
            clear hx0
            cases c1 with
            | false =>
              have hlf : lk = false := by rw [← hlk]; rfl
              subst hlf
              clear hlk
              have hdr := below_drw wr
              try simp only [List.append_eq, List.cons_append, List.nil_append]
              refine RX.wp_region_plan (fun w w' => Below w.heap.size w w') [.it (.int .i64 x), .it (.bool true), .it (.bool true), .it (.pointer (some ⟨gw, 0, none⟩)), .it (.pointer (some ⟨gw, 0, none⟩)), .it (.pointer (some ⟨gw, 1, none⟩)), .it (.pointer (some ⟨t, 0, none⟩)), .it (.int .i64 x), .it (.bool false), .it (.bool false), .it (.bool false), .it undef, .it undef, .it undef, .it undef, .it undef, .it undef, .it undef, .it undef, .it (.bool false), .it (.bool false), .it undef, .it undef, .it undef, .it undef, .it undef, .it undef, .it undef, .it undef, .it undef, .it undef, .it undef, .it undef, .it (.bool false)] (by kernel_rfl) (by kernel_rfl) (fun _ => Below.refl _ _) (fun _ _ _ => below_tr) ?_
              refine RX.seqP_value (fun _ => Below.refl _ _) _ (by first | rfl | simp) (fun w' hw' hctx => by (go_simp); (try first | with_reducible rfl | simp)) ?_
              simp only [Act.put, List.setIfInBounds_toArray, List.set_cons_zero, List.set_cons_succ]
              refine RX.seqP_value (fun _ => Below.refl _ _) _ (by first | rfl | simp) (fun w' hw' hctx => ?_) ?_
              · have hxn := hxn
                go_simp
                try first | with_reducible rfl | simp
              simp only [Act.put, List.setIfInBounds_toArray, List.set_cons_zero, List.set_cons_succ]
              refine RX.seqP_value (fun _ => Below.refl _ _) _ (by first | rfl | simp) (fun w' hw' hctx => by (go_simp); (try first | with_reducible rfl | simp)) ?_
              simp only [Act.put, List.setIfInBounds_toArray, List.set_cons_zero, List.set_cons_succ]
              refine RX.seqP_value (fun _ => Below.refl _ _) _ (by first | rfl | simp) (fun w' hw' hctx => by (go_simp); (try first | with_reducible rfl | simp)) ?_
              simp only [Act.put, List.setIfInBounds_toArray, List.set_cons_zero, List.set_cons_succ]
              refine RX.seqP_value (fun _ => Below.refl _ _) _ (by first | rfl | simp) (fun w' hw' hctx => by (go_simp); (try first | with_reducible rfl | simp)) ?_
              simp only [Act.put, List.setIfInBounds_toArray, List.set_cons_zero, List.set_cons_succ]
              refine RX.seqP_value (fun _ => Below.refl _ _) _ (by first | rfl | simp) (fun w' hw' hctx => by (go_simp); (try first | with_reducible rfl | simp)) ?_
              simp only [Act.put, List.setIfInBounds_toArray, List.set_cons_zero, List.set_cons_succ]
              refine RX.seqP_value (fun _ => Below.refl _ _) _ (by first | rfl | simp) (fun w' hw' hctx => ?_) ?_
              · have q1 := (HWQ.out.below (below_tr hdr hw')).cell (o := 1) rfl
                have ql := (HWQ.out.below (below_tr hdr hw')).lt
                go_simp
                try first | with_reducible rfl | simp
              simp only [Act.put, List.setIfInBounds_toArray, List.set_cons_zero, List.set_cons_succ]
              refine RX.seqP_value (fun _ => Below.refl _ _) _ (by first | rfl | simp) (fun w' hw' hctx => by (go_simp); (try first | with_reducible rfl | simp)) ?_
              simp only [Act.put, List.setIfInBounds_toArray, List.set_cons_zero, List.set_cons_succ]
              refine RX.seqP_call (28) #[.pointer (some ⟨t, 0, none⟩), .int .i64 x] (.bool false) (by first | rfl | simp) (fun w' hw' hctx => ?_) (fun w' hw' hctx => duo_counts (HDQ.out.below (below_tr hdr hw')) hn x false HXI.out HC1.out) ?_
              · go_simp
              simp only [Act.put, List.setIfInBounds_toArray, List.set_cons_zero, List.set_cons_succ]
              refine RX.seqP_value (fun _ => Below.refl _ _) _ (by first | rfl | simp) (fun w' hw' hctx => by (go_simp); (try first | with_reducible rfl | simp)) ?_
              simp only [Act.put, List.setIfInBounds_toArray, List.set_cons_zero, List.set_cons_succ]
              refine RX.seqP_value (fun _ => Below.refl _ _) _ (by first | rfl | simp) (fun w' hw' hctx => by (go_simp); (try first | with_reducible rfl | simp)) ?_
              simp only [Act.put, List.setIfInBounds_toArray, List.set_cons_zero, List.set_cons_succ]
              refine RX.seqP_skip (by first | rfl | simp) ?_
              simp only [Act.put, List.setIfInBounds_toArray, List.set_cons_zero, List.set_cons_succ]
              refine RX.seqP_skip (by first | rfl | simp) ?_
              simp only [Act.put, List.setIfInBounds_toArray, List.set_cons_zero, List.set_cons_succ]
              refine RX.seqP_skip (by first | rfl | simp) ?_
              simp only [Act.put, List.setIfInBounds_toArray, List.set_cons_zero, List.set_cons_succ]
              refine RX.seqP_skip (by first | rfl | simp) ?_
              simp only [Act.put, List.setIfInBounds_toArray, List.set_cons_zero, List.set_cons_succ]
              refine RX.seqP_skip (by first | rfl | simp) ?_
              simp only [Act.put, List.setIfInBounds_toArray, List.set_cons_zero, List.set_cons_succ]
              refine RX.seqP_skip (by first | rfl | simp) ?_
              simp only [Act.put, List.setIfInBounds_toArray, List.set_cons_zero, List.set_cons_succ]
              refine RX.seqP_skip (by first | rfl | simp) ?_
              simp only [Act.put, List.setIfInBounds_toArray, List.set_cons_zero, List.set_cons_succ]
              refine RX.seqP_skip (by first | rfl | simp) ?_
              simp only [Act.put, List.setIfInBounds_toArray, List.set_cons_zero, List.set_cons_succ]
              refine RX.seqP_value (fun _ => Below.refl _ _) _ (by first | rfl | simp) (fun w' hw' hctx => by (go_simp); (try first | with_reducible rfl | simp)) ?_
              simp only [Act.put, List.setIfInBounds_toArray, List.set_cons_zero, List.set_cons_succ]
              refine RX.seqP_value (fun _ => Below.refl _ _) _ (by first | rfl | simp) (fun w' hw' hctx => by (go_simp); (try first | with_reducible rfl | simp)) ?_
              simp only [Act.put, List.setIfInBounds_toArray, List.set_cons_zero, List.set_cons_succ]
              refine RX.seqP_skip (by first | rfl | simp) ?_
              simp only [Act.put, List.setIfInBounds_toArray, List.set_cons_zero, List.set_cons_succ]
              refine RX.seqP_skip (by first | rfl | simp) ?_
              simp only [Act.put, List.setIfInBounds_toArray, List.set_cons_zero, List.set_cons_succ]
              refine RX.seqP_skip (by first | rfl | simp) ?_
              simp only [Act.put, List.setIfInBounds_toArray, List.set_cons_zero, List.set_cons_succ]
              refine RX.seqP_skip (by first | rfl | simp) ?_
              simp only [Act.put, List.setIfInBounds_toArray, List.set_cons_zero, List.set_cons_succ]
              refine RX.seqP_skip (by first | rfl | simp) ?_
              simp only [Act.put, List.setIfInBounds_toArray, List.set_cons_zero, List.set_cons_succ]
              refine RX.seqP_skip (by first | rfl | simp) ?_
              simp only [Act.put, List.setIfInBounds_toArray, List.set_cons_zero, List.set_cons_succ]
              refine RX.seqP_skip (by first | rfl | simp) ?_
              simp only [Act.put, List.setIfInBounds_toArray, List.set_cons_zero, List.set_cons_succ]
              refine RX.seqP_skip (by first | rfl | simp) ?_
              simp only [Act.put, List.setIfInBounds_toArray, List.set_cons_zero, List.set_cons_succ]
              refine RX.seqP_skip (by first | rfl | simp) ?_
              simp only [Act.put, List.setIfInBounds_toArray, List.set_cons_zero, List.set_cons_succ]
              refine RX.seqP_skip (by first | rfl | simp) ?_
              simp only [Act.put, List.setIfInBounds_toArray, List.set_cons_zero, List.set_cons_succ]
              refine RX.seqP_skip (by first | rfl | simp) ?_
              simp only [Act.put, List.setIfInBounds_toArray, List.set_cons_zero, List.set_cons_succ]
              refine RX.seqP_skip (by first | rfl | simp) ?_
              simp only [Act.put, List.setIfInBounds_toArray, List.set_cons_zero, List.set_cons_succ]
              refine RX.seqP_value (fun _ => Below.refl _ _) _ (by first | rfl | simp) (fun w' hw' hctx => by (go_simp); (try first | with_reducible rfl | simp)) ?_
              simp only [Act.put, List.setIfInBounds_toArray, List.set_cons_zero, List.set_cons_succ]
              refine RX.seqP_nil (fun wz hR hctx _ => ?_)
              have hbz := below_tr hdr hR
              clear hctx hR
              have HBZ := Lib.hid hbz
              clear hbz hdr
              have HNL2 : Hid ((1 ≤ j + 1 → lkB T top u.mn = false) ∧ (2 ≤ j + 1 → lkB T top u.mx = false)) := Lib.hid (by
                rcases HXL.out with ⟨e1, e2⟩ | ⟨e1, e2⟩
                · exact ⟨fun _ => by rw [← e1]; exact HLK.out, fun h => by omega⟩
                · exact ⟨fun _ => HNL.out.1 (by omega), fun _ => by rw [← e1]; exact HLK.out⟩)
              have HBQ2 := Lib.hid (below_tr HBQ.out HBZ.out)
              go_wp2_with fail
              go_roundg (2 - (j + 1))
              case measure => have := HJ.out; omega
              case rel => exact ⟨j + 1, by have h1 := HJ.out; have h2 : wrap64 ((j : Int) + 1) = ((j + 1 : Nat) : Int) := (by rw [wrOk (by omega)]; omega); rw [h2], by have := HJ.out; omega, Nat.le_refl _, HBQ2, HNL2⟩
            | true =>
              rw [Bool.true_and] at hlk
              obtain ⟨c2, hc2⟩ : ∃ c, (tp != top) = c := ⟨_, rfl⟩
              have hc2' : decide (tp ≠ top) = c2 := by rw [← hc2]; by_cases h : tp = top <;> simp [h]
              rw [hc2'] at hlk
              have HC2 := Lib.hid hc2
              clear hc2 hc2'
              cases c2 with
              | false =>
                have hlf : lk = false := by rw [← hlk]; rfl
                subst hlf
                clear hlk
                have hdr := below_drw wr
                try simp only [List.append_eq, List.cons_append, List.nil_append]
                refine RX.wp_region_plan (fun w w' => Below w.heap.size w w') [.it (.int .i64 x), .it (.bool true), .it (.bool true), .it (.pointer (some ⟨gw, 0, none⟩)), .it (.pointer (some ⟨gw, 0, none⟩)), .it (.pointer (some ⟨gw, 1, none⟩)), .it (.pointer (some ⟨t, 0, none⟩)), .it (.int .i64 x), .it (.bool true), .it (.bool true), .it (.bool true), .it (.pointer (some ⟨gw, 0, none⟩)), .it (.pointer (some ⟨gw, 0, none⟩)), .it (.pointer (some ⟨gw, 1, none⟩)), .it (.pointer (some ⟨t, 0, none⟩)), .it (.int .i64 x), .it (.int .i64 tp), .it (.int .i64 top), .it (.bool false), .it (.bool false), .it (.bool false), .it undef, .it undef, .it undef, .it undef, .it undef, .it undef, .it undef, .it undef, .it undef, .it undef, .it undef, .it undef, .it (.bool false)] (by kernel_rfl) (by kernel_rfl) (fun _ => Below.refl _ _) (fun _ _ _ => below_tr) ?_
                refine RX.seqP_value (fun _ => Below.refl _ _) _ (by first | rfl | simp) (fun w' hw' hctx => by (go_simp); (try first | with_reducible rfl | simp)) ?_
                simp only [Act.put, List.setIfInBounds_toArray, List.set_cons_zero, List.set_cons_succ]
                refine RX.seqP_value (fun _ => Below.refl _ _) _ (by first | rfl | simp) (fun w' hw' hctx => ?_) ?_
                · have hxn := hxn
                  go_simp
                  try first | with_reducible rfl | simp
                simp only [Act.put, List.setIfInBounds_toArray, List.set_cons_zero, List.set_cons_succ]
                refine RX.seqP_value (fun _ => Below.refl _ _) _ (by first | rfl | simp) (fun w' hw' hctx => by (go_simp); (try first | with_reducible rfl | simp)) ?_
                simp only [Act.put, List.setIfInBounds_toArray, List.set_cons_zero, List.set_cons_succ]
                refine RX.seqP_value (fun _ => Below.refl _ _) _ (by first | rfl | simp) (fun w' hw' hctx => by (go_simp); (try first | with_reducible rfl | simp)) ?_
                simp only [Act.put, List.setIfInBounds_toArray, List.set_cons_zero, List.set_cons_succ]
                refine RX.seqP_value (fun _ => Below.refl _ _) _ (by first | rfl | simp) (fun w' hw' hctx => by (go_simp); (try first | with_reducible rfl | simp)) ?_
                simp only [Act.put, List.setIfInBounds_toArray, List.set_cons_zero, List.set_cons_succ]
                refine RX.seqP_value (fun _ => Below.refl _ _) _ (by first | rfl | simp) (fun w' hw' hctx => by (go_simp); (try first | with_reducible rfl | simp)) ?_
                simp only [Act.put, List.setIfInBounds_toArray, List.set_cons_zero, List.set_cons_succ]
                refine RX.seqP_value (fun _ => Below.refl _ _) _ (by first | rfl | simp) (fun w' hw' hctx => ?_) ?_
                · have q1 := (HWQ.out.below (below_tr hdr hw')).cell (o := 1) rfl
                  have ql := (HWQ.out.below (below_tr hdr hw')).lt
                  go_simp
                  try first | with_reducible rfl | simp
                simp only [Act.put, List.setIfInBounds_toArray, List.set_cons_zero, List.set_cons_succ]
                refine RX.seqP_value (fun _ => Below.refl _ _) _ (by first | rfl | simp) (fun w' hw' hctx => by (go_simp); (try first | with_reducible rfl | simp)) ?_
                simp only [Act.put, List.setIfInBounds_toArray, List.set_cons_zero, List.set_cons_succ]
                refine RX.seqP_call (28) #[.pointer (some ⟨t, 0, none⟩), .int .i64 x] (.bool true) (by first | rfl | simp) (fun w' hw' hctx => ?_) (fun w' hw' hctx => duo_counts (HDQ.out.below (below_tr hdr hw')) hn x true HXI.out HC1.out) ?_
                · go_simp
                simp only [Act.put, List.setIfInBounds_toArray, List.set_cons_zero, List.set_cons_succ]
                refine RX.seqP_value (fun _ => Below.refl _ _) _ (by first | rfl | simp) (fun w' hw' hctx => by (go_simp); (try first | with_reducible rfl | simp)) ?_
                simp only [Act.put, List.setIfInBounds_toArray, List.set_cons_zero, List.set_cons_succ]
                refine RX.seqP_value (fun _ => Below.refl _ _) _ (by first | rfl | simp) (fun w' hw' hctx => by (go_simp); (try first | with_reducible rfl | simp)) ?_
                simp only [Act.put, List.setIfInBounds_toArray, List.set_cons_zero, List.set_cons_succ]
                refine RX.seqP_value (fun _ => Below.refl _ _) _ (by first | rfl | simp) (fun w' hw' hctx => by (go_simp); (try first | with_reducible rfl | simp)) ?_
                simp only [Act.put, List.setIfInBounds_toArray, List.set_cons_zero, List.set_cons_succ]
                refine RX.seqP_value (fun _ => Below.refl _ _) _ (by first | rfl | simp) (fun w' hw' hctx => by (go_simp); (try first | with_reducible rfl | simp)) ?_
                simp only [Act.put, List.setIfInBounds_toArray, List.set_cons_zero, List.set_cons_succ]
                refine RX.seqP_value (fun _ => Below.refl _ _) _ (by first | rfl | simp) (fun w' hw' hctx => by (go_simp); (try first | with_reducible rfl | simp)) ?_
                simp only [Act.put, List.setIfInBounds_toArray, List.set_cons_zero, List.set_cons_succ]
                refine RX.seqP_value (fun _ => Below.refl _ _) _ (by first | rfl | simp) (fun w' hw' hctx => ?_) ?_
                · have q1 := (HWQ.out.below (below_tr hdr hw')).cell (o := 1) rfl
                  have ql := (HWQ.out.below (below_tr hdr hw')).lt
                  go_simp
                  try first | with_reducible rfl | simp
                simp only [Act.put, List.setIfInBounds_toArray, List.set_cons_zero, List.set_cons_succ]
                refine RX.seqP_value (fun _ => Below.refl _ _) _ (by first | rfl | simp) (fun w' hw' hctx => by (go_simp); (try first | with_reducible rfl | simp)) ?_
                simp only [Act.put, List.setIfInBounds_toArray, List.set_cons_zero, List.set_cons_succ]
                refine RX.seqP_call (26) #[.pointer (some ⟨t, 0, none⟩), .int .i64 x] (.int .i64 tp) (by first | rfl | simp) (fun w' hw' hctx => ?_) (fun w' hw' hctx => duo_top (HDQ.out.below (below_tr hdr hw')) hn x tp HXI.out HTP.out) ?_
                · go_simp
                simp only [Act.put, List.setIfInBounds_toArray, List.set_cons_zero, List.set_cons_succ]
                refine RX.seqP_value (fun _ => Below.refl _ _) _ (by first | rfl | simp) (fun w' hw' hctx => by (go_simp); (try first | with_reducible rfl | simp)) ?_
                simp only [Act.put, List.setIfInBounds_toArray, List.set_cons_zero, List.set_cons_succ]
                refine RX.seqP_value (fun _ => Below.refl _ _) _ (by first | rfl | simp) (fun w' hw' hctx => ?_) ?_
                · have hc2 := HC2.out
                  go_simp
                  try first | with_reducible rfl | simp
                simp only [Act.put, List.setIfInBounds_toArray, List.set_cons_zero, List.set_cons_succ]
                refine RX.seqP_value (fun _ => Below.refl _ _) _ (by first | rfl | simp) (fun w' hw' hctx => by (go_simp); (try first | with_reducible rfl | simp)) ?_
                simp only [Act.put, List.setIfInBounds_toArray, List.set_cons_zero, List.set_cons_succ]
                refine RX.seqP_value (fun _ => Below.refl _ _) _ (by first | rfl | simp) (fun w' hw' hctx => by (go_simp); (try first | with_reducible rfl | simp)) ?_
                simp only [Act.put, List.setIfInBounds_toArray, List.set_cons_zero, List.set_cons_succ]
                refine RX.seqP_skip (by first | rfl | simp) ?_
                simp only [Act.put, List.setIfInBounds_toArray, List.set_cons_zero, List.set_cons_succ]
                refine RX.seqP_skip (by first | rfl | simp) ?_
                simp only [Act.put, List.setIfInBounds_toArray, List.set_cons_zero, List.set_cons_succ]
                refine RX.seqP_skip (by first | rfl | simp) ?_
                simp only [Act.put, List.setIfInBounds_toArray, List.set_cons_zero, List.set_cons_succ]
                refine RX.seqP_skip (by first | rfl | simp) ?_
                simp only [Act.put, List.setIfInBounds_toArray, List.set_cons_zero, List.set_cons_succ]
                refine RX.seqP_skip (by first | rfl | simp) ?_
                simp only [Act.put, List.setIfInBounds_toArray, List.set_cons_zero, List.set_cons_succ]
                refine RX.seqP_skip (by first | rfl | simp) ?_
                simp only [Act.put, List.setIfInBounds_toArray, List.set_cons_zero, List.set_cons_succ]
                refine RX.seqP_skip (by first | rfl | simp) ?_
                simp only [Act.put, List.setIfInBounds_toArray, List.set_cons_zero, List.set_cons_succ]
                refine RX.seqP_skip (by first | rfl | simp) ?_
                simp only [Act.put, List.setIfInBounds_toArray, List.set_cons_zero, List.set_cons_succ]
                refine RX.seqP_skip (by first | rfl | simp) ?_
                simp only [Act.put, List.setIfInBounds_toArray, List.set_cons_zero, List.set_cons_succ]
                refine RX.seqP_skip (by first | rfl | simp) ?_
                simp only [Act.put, List.setIfInBounds_toArray, List.set_cons_zero, List.set_cons_succ]
                refine RX.seqP_skip (by first | rfl | simp) ?_
                simp only [Act.put, List.setIfInBounds_toArray, List.set_cons_zero, List.set_cons_succ]
                refine RX.seqP_skip (by first | rfl | simp) ?_
                simp only [Act.put, List.setIfInBounds_toArray, List.set_cons_zero, List.set_cons_succ]
                refine RX.seqP_value (fun _ => Below.refl _ _) _ (by first | rfl | simp) (fun w' hw' hctx => by (go_simp); (try first | with_reducible rfl | simp)) ?_
                simp only [Act.put, List.setIfInBounds_toArray, List.set_cons_zero, List.set_cons_succ]
                refine RX.seqP_nil (fun wz hR hctx _ => ?_)
                have hbz := below_tr hdr hR
                clear hctx hR
                have HBZ := Lib.hid hbz
                clear hbz hdr
                have HNL2 : Hid ((1 ≤ j + 1 → lkB T top u.mn = false) ∧ (2 ≤ j + 1 → lkB T top u.mx = false)) := Lib.hid (by
                  rcases HXL.out with ⟨e1, e2⟩ | ⟨e1, e2⟩
                  · exact ⟨fun _ => by rw [← e1]; exact HLK.out, fun h => by omega⟩
                  · exact ⟨fun _ => HNL.out.1 (by omega), fun _ => by rw [← e1]; exact HLK.out⟩)
                have HBQ2 := Lib.hid (below_tr HBQ.out HBZ.out)
                go_wp2_with fail
                go_roundg (2 - (j + 1))
                case measure => have := HJ.out; omega
                case rel => exact ⟨j + 1, by have h1 := HJ.out; have h2 : wrap64 ((j : Int) + 1) = ((j + 1 : Nat) : Int) := (by rw [wrOk (by omega)]; omega); rw [h2], by have := HJ.out; omega, Nat.le_refl _, HBQ2, HNL2⟩
              | true =>
                rw [Bool.true_and] at hlk
                have hc3 : (nu == 0) = lk := by rw [← hlk]; rfl
                have HC3 := Lib.hid hc3
                clear hc3 hlk
                have hdr := below_drw wr
                try simp only [List.append_eq, List.cons_append, List.nil_append]
                refine RX.wp_region_plan (fun w w' => Below w.heap.size w w') [.it (.int .i64 x), .it (.bool true), .it (.bool true), .it (.pointer (some ⟨gw, 0, none⟩)), .it (.pointer (some ⟨gw, 0, none⟩)), .it (.pointer (some ⟨gw, 1, none⟩)), .it (.pointer (some ⟨t, 0, none⟩)), .it (.int .i64 x), .it (.bool true), .it (.bool true), .it (.bool true), .it (.pointer (some ⟨gw, 0, none⟩)), .it (.pointer (some ⟨gw, 0, none⟩)), .it (.pointer (some ⟨gw, 1, none⟩)), .it (.pointer (some ⟨t, 0, none⟩)), .it (.int .i64 x), .it (.int .i64 tp), .it (.int .i64 top), .it (.bool true), .it (.bool true), .it (.bool true), .it (.pointer (some ⟨gw, 0, none⟩)), .it (.pointer (some ⟨gw, 0, none⟩)), .it (.pointer (some ⟨gw, 1, none⟩)), .it (.pointer (some ⟨t, 0, none⟩)), .it (.pointer (some ⟨gw, 0, none⟩)), .it (.pointer (some ⟨gw, 0, none⟩)), .it (.pointer (some ⟨gw, 1, none⟩)), .it (.pointer (some ⟨t, 0, none⟩)), .it (.int .i64 x), .it (.int .i64 tp), .it (.int .i64 nu), .it (.bool lk), .it (.bool lk)] (by kernel_rfl) (by kernel_rfl) (fun _ => Below.refl _ _) (fun _ _ _ => below_tr) ?_
                refine RX.seqP_value (fun _ => Below.refl _ _) _ (by first | rfl | simp) (fun w' hw' hctx => by (go_simp); (try first | with_reducible rfl | simp)) ?_
                simp only [Act.put, List.setIfInBounds_toArray, List.set_cons_zero, List.set_cons_succ]
                refine RX.seqP_value (fun _ => Below.refl _ _) _ (by first | rfl | simp) (fun w' hw' hctx => ?_) ?_
                · have hxn := hxn
                  go_simp
                  try first | with_reducible rfl | simp
                simp only [Act.put, List.setIfInBounds_toArray, List.set_cons_zero, List.set_cons_succ]
                refine RX.seqP_value (fun _ => Below.refl _ _) _ (by first | rfl | simp) (fun w' hw' hctx => by (go_simp); (try first | with_reducible rfl | simp)) ?_
                simp only [Act.put, List.setIfInBounds_toArray, List.set_cons_zero, List.set_cons_succ]
                refine RX.seqP_value (fun _ => Below.refl _ _) _ (by first | rfl | simp) (fun w' hw' hctx => by (go_simp); (try first | with_reducible rfl | simp)) ?_
                simp only [Act.put, List.setIfInBounds_toArray, List.set_cons_zero, List.set_cons_succ]
                refine RX.seqP_value (fun _ => Below.refl _ _) _ (by first | rfl | simp) (fun w' hw' hctx => by (go_simp); (try first | with_reducible rfl | simp)) ?_
                simp only [Act.put, List.setIfInBounds_toArray, List.set_cons_zero, List.set_cons_succ]
                refine RX.seqP_value (fun _ => Below.refl _ _) _ (by first | rfl | simp) (fun w' hw' hctx => by (go_simp); (try first | with_reducible rfl | simp)) ?_
                simp only [Act.put, List.setIfInBounds_toArray, List.set_cons_zero, List.set_cons_succ]
                refine RX.seqP_value (fun _ => Below.refl _ _) _ (by first | rfl | simp) (fun w' hw' hctx => ?_) ?_
                · have q1 := (HWQ.out.below (below_tr hdr hw')).cell (o := 1) rfl
                  have ql := (HWQ.out.below (below_tr hdr hw')).lt
                  go_simp
                  try first | with_reducible rfl | simp
                simp only [Act.put, List.setIfInBounds_toArray, List.set_cons_zero, List.set_cons_succ]
                refine RX.seqP_value (fun _ => Below.refl _ _) _ (by first | rfl | simp) (fun w' hw' hctx => by (go_simp); (try first | with_reducible rfl | simp)) ?_
                simp only [Act.put, List.setIfInBounds_toArray, List.set_cons_zero, List.set_cons_succ]
                refine RX.seqP_call (28) #[.pointer (some ⟨t, 0, none⟩), .int .i64 x] (.bool true) (by first | rfl | simp) (fun w' hw' hctx => ?_) (fun w' hw' hctx => duo_counts (HDQ.out.below (below_tr hdr hw')) hn x true HXI.out HC1.out) ?_
                · go_simp
                simp only [Act.put, List.setIfInBounds_toArray, List.set_cons_zero, List.set_cons_succ]
                refine RX.seqP_value (fun _ => Below.refl _ _) _ (by first | rfl | simp) (fun w' hw' hctx => by (go_simp); (try first | with_reducible rfl | simp)) ?_
                simp only [Act.put, List.setIfInBounds_toArray, List.set_cons_zero, List.set_cons_succ]
                refine RX.seqP_value (fun _ => Below.refl _ _) _ (by first | rfl | simp) (fun w' hw' hctx => by (go_simp); (try first | with_reducible rfl | simp)) ?_
                simp only [Act.put, List.setIfInBounds_toArray, List.set_cons_zero, List.set_cons_succ]
                refine RX.seqP_value (fun _ => Below.refl _ _) _ (by first | rfl | simp) (fun w' hw' hctx => by (go_simp); (try first | with_reducible rfl | simp)) ?_
                simp only [Act.put, List.setIfInBounds_toArray, List.set_cons_zero, List.set_cons_succ]
                refine RX.seqP_value (fun _ => Below.refl _ _) _ (by first | rfl | simp) (fun w' hw' hctx => by (go_simp); (try first | with_reducible rfl | simp)) ?_
                simp only [Act.put, List.setIfInBounds_toArray, List.set_cons_zero, List.set_cons_succ]
                refine RX.seqP_value (fun _ => Below.refl _ _) _ (by first | rfl | simp) (fun w' hw' hctx => by (go_simp); (try first | with_reducible rfl | simp)) ?_
                simp only [Act.put, List.setIfInBounds_toArray, List.set_cons_zero, List.set_cons_succ]
                refine RX.seqP_value (fun _ => Below.refl _ _) _ (by first | rfl | simp) (fun w' hw' hctx => ?_) ?_
                · have q1 := (HWQ.out.below (below_tr hdr hw')).cell (o := 1) rfl
                  have ql := (HWQ.out.below (below_tr hdr hw')).lt
                  go_simp
                  try first | with_reducible rfl | simp
                simp only [Act.put, List.setIfInBounds_toArray, List.set_cons_zero, List.set_cons_succ]
                refine RX.seqP_value (fun _ => Below.refl _ _) _ (by first | rfl | simp) (fun w' hw' hctx => by (go_simp); (try first | with_reducible rfl | simp)) ?_
                simp only [Act.put, List.setIfInBounds_toArray, List.set_cons_zero, List.set_cons_succ]
                refine RX.seqP_call (26) #[.pointer (some ⟨t, 0, none⟩), .int .i64 x] (.int .i64 tp) (by first | rfl | simp) (fun w' hw' hctx => ?_) (fun w' hw' hctx => duo_top (HDQ.out.below (below_tr hdr hw')) hn x tp HXI.out HTP.out) ?_
                · go_simp
                simp only [Act.put, List.setIfInBounds_toArray, List.set_cons_zero, List.set_cons_succ]
                refine RX.seqP_value (fun _ => Below.refl _ _) _ (by first | rfl | simp) (fun w' hw' hctx => by (go_simp); (try first | with_reducible rfl | simp)) ?_
                simp only [Act.put, List.setIfInBounds_toArray, List.set_cons_zero, List.set_cons_succ]
                refine RX.seqP_value (fun _ => Below.refl _ _) _ (by first | rfl | simp) (fun w' hw' hctx => ?_) ?_
                · have hc2 := HC2.out
                  go_simp
                  try first | with_reducible rfl | simp
                simp only [Act.put, List.setIfInBounds_toArray, List.set_cons_zero, List.set_cons_succ]
                refine RX.seqP_value (fun _ => Below.refl _ _) _ (by first | rfl | simp) (fun w' hw' hctx => by (go_simp); (try first | with_reducible rfl | simp)) ?_
                simp only [Act.put, List.setIfInBounds_toArray, List.set_cons_zero, List.set_cons_succ]
                refine RX.seqP_value (fun _ => Below.refl _ _) _ (by first | rfl | simp) (fun w' hw' hctx => by (go_simp); (try first | with_reducible rfl | simp)) ?_
                simp only [Act.put, List.setIfInBounds_toArray, List.set_cons_zero, List.set_cons_succ]
                refine RX.seqP_value (fun _ => Below.refl _ _) _ (by first | rfl | simp) (fun w' hw' hctx => by (go_simp); (try first | with_reducible rfl | simp)) ?_
                simp only [Act.put, List.setIfInBounds_toArray, List.set_cons_zero, List.set_cons_succ]
                refine RX.seqP_value (fun _ => Below.refl _ _) _ (by first | rfl | simp) (fun w' hw' hctx => by (go_simp); (try first | with_reducible rfl | simp)) ?_
                simp only [Act.put, List.setIfInBounds_toArray, List.set_cons_zero, List.set_cons_succ]
                refine RX.seqP_value (fun _ => Below.refl _ _) _ (by first | rfl | simp) (fun w' hw' hctx => by (go_simp); (try first | with_reducible rfl | simp)) ?_
                simp only [Act.put, List.setIfInBounds_toArray, List.set_cons_zero, List.set_cons_succ]
                refine RX.seqP_value (fun _ => Below.refl _ _) _ (by first | rfl | simp) (fun w' hw' hctx => ?_) ?_
                · have q1 := (HWQ.out.below (below_tr hdr hw')).cell (o := 1) rfl
                  have ql := (HWQ.out.below (below_tr hdr hw')).lt
                  go_simp
                  try first | with_reducible rfl | simp
                simp only [Act.put, List.setIfInBounds_toArray, List.set_cons_zero, List.set_cons_succ]
                refine RX.seqP_value (fun _ => Below.refl _ _) _ (by first | rfl | simp) (fun w' hw' hctx => by (go_simp); (try first | with_reducible rfl | simp)) ?_
                simp only [Act.put, List.setIfInBounds_toArray, List.set_cons_zero, List.set_cons_succ]
                refine RX.seqP_value (fun _ => Below.refl _ _) _ (by first | rfl | simp) (fun w' hw' hctx => by (go_simp); (try first | with_reducible rfl | simp)) ?_
                simp only [Act.put, List.setIfInBounds_toArray, List.set_cons_zero, List.set_cons_succ]
                refine RX.seqP_value (fun _ => Below.refl _ _) _ (by first | rfl | simp) (fun w' hw' hctx => by (go_simp); (try first | with_reducible rfl | simp)) ?_
                simp only [Act.put, List.setIfInBounds_toArray, List.set_cons_zero, List.set_cons_succ]
                refine RX.seqP_value (fun _ => Below.refl _ _) _ (by first | rfl | simp) (fun w' hw' hctx => ?_) ?_
                · have q1 := (HWQ.out.below (below_tr hdr hw')).cell (o := 1) rfl
                  have ql := (HWQ.out.below (below_tr hdr hw')).lt
                  go_simp
                  try first | with_reducible rfl | simp
                simp only [Act.put, List.setIfInBounds_toArray, List.set_cons_zero, List.set_cons_succ]
                refine RX.seqP_value (fun _ => Below.refl _ _) _ (by first | rfl | simp) (fun w' hw' hctx => by (go_simp); (try first | with_reducible rfl | simp)) ?_
                simp only [Act.put, List.setIfInBounds_toArray, List.set_cons_zero, List.set_cons_succ]
                refine RX.seqP_call (26) #[.pointer (some ⟨t, 0, none⟩), .int .i64 x] (.int .i64 tp) (by first | rfl | simp) (fun w' hw' hctx => ?_) (fun w' hw' hctx => duo_top (HDQ.out.below (below_tr hdr hw')) hn x tp HXI.out HTP.out) ?_
                · go_simp
                simp only [Act.put, List.setIfInBounds_toArray, List.set_cons_zero, List.set_cons_succ]
                refine RX.seqP_call (29) #[.pointer (some ⟨t, 0, none⟩), .int .i64 tp] (.int .i64 nu) (by first | rfl | simp) (fun w' hw' hctx => ?_) (fun w' hw' hctx => duo_number (HDQ.out.below (below_tr hdr hw')) hn tp nu HT64.out HNU.out) ?_
                · go_simp
                simp only [Act.put, List.setIfInBounds_toArray, List.set_cons_zero, List.set_cons_succ]
                refine RX.seqP_value (fun _ => Below.refl _ _) _ (by first | rfl | simp) (fun w' hw' hctx => ?_) ?_
                · have hc3 := HC3.out
                  go_simp
                  try first | with_reducible rfl | simp
                simp only [Act.put, List.setIfInBounds_toArray, List.set_cons_zero, List.set_cons_succ]
                refine RX.seqP_value (fun _ => Below.refl _ _) _ (by first | rfl | simp) (fun w' hw' hctx => by (go_simp); (try first | with_reducible rfl | simp)) ?_
                simp only [Act.put, List.setIfInBounds_toArray, List.set_cons_zero, List.set_cons_succ]
                refine RX.seqP_nil (fun wz hR hctx _ => ?_)
                have hbz := below_tr hdr hR
                clear hctx hR
                have HBZ := Lib.hid hbz
                clear hbz hdr
                cases lk with
                | true =>
                  go_wp2_with fail
                  go_ret
                  have hlo : lockB T A top y = true := by
                    unfold lockB
                    rw [HL.out, List.any_eq_true]
                    refine ⟨_, List.mem_of_getElem? HPE.out, ?_⟩
                    rcases HXL.out with ⟨e1, -⟩ | ⟨e1, -⟩
                    · show (lkB T top u.mn || lkB T top u.mx) = true
                      rw [← e1, HLK.out, Bool.true_or]
                    · show (lkB T top u.mn || lkB T top u.mx) = true
                      rw [← e1, HLK.out, Bool.or_true]
                  obtain ⟨e1, e2⟩ := wr_locked (sub := sub) (n := n) hlo
                  rw [← HBB.out, ← HAA.out, e1, e2]
                  have hbe := below_tr (below_tr HB1.out HBR.out) (below_tr HBW.out HBZ.out)
                  exact ⟨rfl, (HD.out.below hbe).more (by omega), Stay.of_below hbe⟩
                | false =>
                  have HNL2 : Hid ((1 ≤ j + 1 → lkB T top u.mn = false) ∧ (2 ≤ j + 1 → lkB T top u.mx = false)) := Lib.hid (by
                    rcases HXL.out with ⟨e1, e2⟩ | ⟨e1, e2⟩
                    · exact ⟨fun _ => by rw [← e1]; exact HLK.out, fun h => by omega⟩
                    · exact ⟨fun _ => HNL.out.1 (by omega), fun _ => by rw [← e1]; exact HLK.out⟩)
                  have HBQ2 := Lib.hid (below_tr HBQ.out HBZ.out)
                  go_wp2_with fail
                  go_roundg (2 - (j + 1))
                  case measure => have := HJ.out; omega
                  case rel => exact ⟨j + 1, by have h1 := HJ.out; have h2 : wrap64 ((j : Int) + 1) = ((j + 1 : Nat) : Int) := (by rw [wrOk (by omega)]; omega); rw [h2], by have := HJ.out; omega, Nat.le_refl _, HBQ2, HNL2⟩
        · obtain rfl : j = 2 := by omega
          have hjz : ¬ (2 : Int) < 2 := by omega
          have hnl := HNL.out
          have HN1 : Hid (∀ p ∈ L.take (i + 1), (lkB T top p.2.mn || lkB T top p.2.mx) = false) := Lib.hid (fun p hp => by
            rw [List.take_add_one, HPE.out] at hp
            rcases List.mem_append.1 hp with hp | hp
            · exact HNO.out p hp
            · have hpe : p = (slot, u) := by simpa using hp
              rw [hpe]
              show (lkB T top u.mn || lkB T top u.mx) = false
              rw [hnl.1 (by omega), hnl.2 (by omega)]
              rfl)
          have HBE := Lib.hid (below_tr HBR.out (below_tr HB6.out HBQ.out))
          have hlt' := HIL.out.2.2.1
          clear hnl
          go_wp2_with fail
          go_roundg (N - (i + 1))
          case measure => have := HIL.out; omega
          case rel => exact ⟨i + 1, by go_num, by omega, Nat.le_refl _, HBE, HN1⟩
    · obtain rfl : i = N := by omega
      have hltz : ¬ (i : Int) < (i : Int) := by omega
      have hlo : lockB T A top y = false := by
        unfold lockB
        rw [HL.out, List.any_eq_false]
        intro p hp
        have h1 := HNO.out p (by rw [List.take_of_length_le (by rw [HN.out]; exact Nat.le_refl _)]; exact hp)
        rw [h1]
        decide
      have hB := below_tr HB1.out HBR.out
      obtain ⟨sb, hsb⟩ : ∃ o, seenB T A T.last top 1 y = o := ⟨_, rfl⟩
      obtain ⟨sv, hsv⟩ : ∃ o, seenV T A T.last top 1 y = o := ⟨_, rfl⟩
      obtain ⟨la, hla⟩ : ∃ la : Int, (T.last : Int) = la := ⟨_, rfl⟩
      have hspec : b = !(!sb && decide (n < 0)) ∧ A' = if b = true then (if n < 0 then (if sb then A.kl sv sub 0 else A) else (if sb then A.kl sv sub 0 else A).pt (tupR 1 y sub n)) else A := by
        have e1 := HBB.out
        have e2 := HAA.out
        unfold wrA at e2
        rw [e1, hsb, hsv] at e2
        unfold wrB at e1
        rw [hlo, hsb] at e1
        exact ⟨by rw [← e1]; simp, by rw [← e2]⟩
      have hat : sb = true → A.atE sv = 0 := fun h1 => by
        rw [h1] at hsb
        have := (seen_at HD.out.aok hsb).2
        rw [hsv] at this
        exact this
      rw [hla] at hsb hsv
      have HSP := Lib.hid hspec
      have HAT := Lib.hid hat
      have HSB := Lib.hid hsb
      have HSV := Lib.hid hsv
      have HLA := Lib.hid hla
      have HDQ := Lib.hid (HD.out.below hB)
      have HWQ := Lib.hid (HWR.out.below hB)
      have HBW := Lib.hid hB
      clear hlo hB hsb hsv hla hspec hat hin hgg hlt
      go_upto_region 12 with (fail)
      have hdr := below_drw wo
      try simp only [List.append_eq, List.cons_append, List.nil_append]
      refine RX.wp_region_plan (fun w w' => Below w.heap.size w w') [.it (.pointer (some ⟨gw, 0, none⟩)), .it (.pointer (some ⟨gw, 0, none⟩)), .it (.pointer (some ⟨gw, 0, none⟩)), .it (.pointer (some ⟨h, 0, none⟩)), .it (.pointer (some ⟨gw, 0, none⟩)), .it (.pointer (some ⟨gw, 0, none⟩)), .it (.pointer (some ⟨gw, 1, none⟩)), .it (.pointer (some ⟨t, 0, none⟩)), .it (.pointer (some ⟨gw, 0, none⟩)), .it (.pointer (some ⟨gw, 0, none⟩)), .it (.pointer (some ⟨gw, 1, none⟩)), .it (.pointer (some ⟨t, 0, none⟩)), .it (.int .i64 top), .it (.agg #[.int .i64 la, .int .i64 top]), .it (.int .i64 y), .it (.tuple #[.int .i64 sv, .bool sb]), .it (.tuple #[.int .i64 sv, .bool sb]), .it (.int .i64 sv), .it (.bool sb), .it (.int .i64 sv), .it (.bool sb)] (by kernel_rfl) (by kernel_rfl) (fun _ => Below.refl _ _) (fun _ _ _ => below_tr) ?_
      refine RX.seqP_value (fun _ => Below.refl _ _) _ (by first | rfl | simp) (fun w' hw' hctx => by (go_simp); (try first | with_reducible rfl | simp)) ?_
      simp only [Act.put, List.setIfInBounds_toArray, List.set_cons_zero, List.set_cons_succ]
      refine RX.seqP_value (fun _ => Below.refl _ _) _ (by first | rfl | simp) (fun w' hw' hctx => by (go_simp); (try first | with_reducible rfl | simp)) ?_
      simp only [Act.put, List.setIfInBounds_toArray, List.set_cons_zero, List.set_cons_succ]
      refine RX.seqP_value (fun _ => Below.refl _ _) _ (by first | rfl | simp) (fun w' hw' hctx => by (go_simp); (try first | with_reducible rfl | simp)) ?_
      simp only [Act.put, List.setIfInBounds_toArray, List.set_cons_zero, List.set_cons_succ]
      refine RX.seqP_value (fun _ => Below.refl _ _) _ (by first | rfl | simp) (fun w' hw' hctx => ?_) ?_
      · have q0 := (HWQ.out.below (below_tr hdr hw')).cell (o := 0) rfl
        have ql := (HWQ.out.below (below_tr hdr hw')).lt
        go_simp
        try first | with_reducible rfl | simp
      simp only [Act.put, List.setIfInBounds_toArray, List.set_cons_zero, List.set_cons_succ]
      refine RX.seqP_value (fun _ => Below.refl _ _) _ (by first | rfl | simp) (fun w' hw' hctx => by (go_simp); (try first | with_reducible rfl | simp)) ?_
      simp only [Act.put, List.setIfInBounds_toArray, List.set_cons_zero, List.set_cons_succ]
      refine RX.seqP_value (fun _ => Below.refl _ _) _ (by first | rfl | simp) (fun w' hw' hctx => by (go_simp); (try first | with_reducible rfl | simp)) ?_
      simp only [Act.put, List.setIfInBounds_toArray, List.set_cons_zero, List.set_cons_succ]
      refine RX.seqP_value (fun _ => Below.refl _ _) _ (by first | rfl | simp) (fun w' hw' hctx => by (go_simp); (try first | with_reducible rfl | simp)) ?_
      simp only [Act.put, List.setIfInBounds_toArray, List.set_cons_zero, List.set_cons_succ]
      refine RX.seqP_value (fun _ => Below.refl _ _) _ (by first | rfl | simp) (fun w' hw' hctx => ?_) ?_
      · have q1 := (HWQ.out.below (below_tr hdr hw')).cell (o := 1) rfl
        have ql := (HWQ.out.below (below_tr hdr hw')).lt
        go_simp
        try first | with_reducible rfl | simp
      simp only [Act.put, List.setIfInBounds_toArray, List.set_cons_zero, List.set_cons_succ]
      refine RX.seqP_value (fun _ => Below.refl _ _) _ (by first | rfl | simp) (fun w' hw' hctx => by (go_simp); (try first | with_reducible rfl | simp)) ?_
      simp only [Act.put, List.setIfInBounds_toArray, List.set_cons_zero, List.set_cons_succ]
      refine RX.seqP_value (fun _ => Below.refl _ _) _ (by first | rfl | simp) (fun w' hw' hctx => by (go_simp); (try first | with_reducible rfl | simp)) ?_
      simp only [Act.put, List.setIfInBounds_toArray, List.set_cons_zero, List.set_cons_succ]
      refine RX.seqP_value (fun _ => Below.refl _ _) _ (by first | rfl | simp) (fun w' hw' hctx => by (go_simp); (try first | with_reducible rfl | simp)) ?_
      simp only [Act.put, List.setIfInBounds_toArray, List.set_cons_zero, List.set_cons_succ]
      refine RX.seqP_value (fun _ => Below.refl _ _) _ (by first | rfl | simp) (fun w' hw' hctx => ?_) ?_
      · have q1 := (HWQ.out.below (below_tr hdr hw')).cell (o := 1) rfl
        have ql := (HWQ.out.below (below_tr hdr hw')).lt
        go_simp
        try first | with_reducible rfl | simp
      simp only [Act.put, List.setIfInBounds_toArray, List.set_cons_zero, List.set_cons_succ]
      refine RX.seqP_value (fun _ => Below.refl _ _) _ (by first | rfl | simp) (fun w' hw' hctx => by (go_simp); (try first | with_reducible rfl | simp)) ?_
      simp only [Act.put, List.setIfInBounds_toArray, List.set_cons_zero, List.set_cons_succ]
      refine RX.seqP_call (9) #[.pointer (some ⟨t, 0, none⟩), .int .i64 top] (.agg #[.int .i64 la, .int .i64 top]) (by first | rfl | simp) (fun w' hw' hctx => ?_) (fun w' hw' hctx => duo_now (HDQ.out.below (below_tr hdr hw')) hn top la HLA.out) ?_
      · go_simp
      simp only [Act.put, List.setIfInBounds_toArray, List.set_cons_zero, List.set_cons_succ]
      refine RX.seqP_value (fun _ => Below.refl _ _) _ (by first | rfl | simp) (fun w' hw' hctx => by (go_simp); (try first | with_reducible rfl | simp)) ?_
      simp only [Act.put, List.setIfInBounds_toArray, List.set_cons_zero, List.set_cons_succ]
      refine RX.seqP_call (19) #[.pointer (some ⟨h, 0, none⟩), .pointer (some ⟨t, 0, none⟩), .agg #[.int .i64 la, .int .i64 top], .int .i64 1, .int .i64 y] (.tuple #[.int .i64 sv, .bool sb]) (by first | rfl | simp) (fun w' hw' hctx => ?_) (fun w' hw' hctx => duo_seen (HDQ.out.below (below_tr hdr hw')) hn (by omega) la top 1 y i64_1 HI.out.2.2.2.1 sb sv HSB.out HSV.out) ?_
      · go_simp
      simp only [Act.put, List.setIfInBounds_toArray, List.set_cons_zero, List.set_cons_succ]
      refine RX.seqP_value (fun _ => Below.refl _ _) _ (by first | rfl | simp) (fun w' hw' hctx => by (go_simp); (try first | with_reducible rfl | simp)) ?_
      simp only [Act.put, List.setIfInBounds_toArray, List.set_cons_zero, List.set_cons_succ]
      refine RX.seqP_value (fun _ => Below.refl _ _) _ (by first | rfl | simp) (fun w' hw' hctx => by (go_simp); (try first | with_reducible rfl | simp)) ?_
      simp only [Act.put, List.setIfInBounds_toArray, List.set_cons_zero, List.set_cons_succ]
      refine RX.seqP_value (fun _ => Below.refl _ _) _ (by first | rfl | simp) (fun w' hw' hctx => by (go_simp); (try first | with_reducible rfl | simp)) ?_
      simp only [Act.put, List.setIfInBounds_toArray, List.set_cons_zero, List.set_cons_succ]
      refine RX.seqP_value (fun _ => Below.refl _ _) _ (by first | rfl | simp) (fun w' hw' hctx => by (go_simp); (try first | with_reducible rfl | simp)) ?_
      simp only [Act.put, List.setIfInBounds_toArray, List.set_cons_zero, List.set_cons_succ]
      refine RX.seqP_value (fun _ => Below.refl _ _) _ (by first | rfl | simp) (fun w' hw' hctx => by (go_simp); (try first | with_reducible rfl | simp)) ?_
      simp only [Act.put, List.setIfInBounds_toArray, List.set_cons_zero, List.set_cons_succ]
      refine RX.seqP_nil (fun w12 hR hctx _ => ?_)
      have hb12 := below_tr hdr hR
      clear hctx hR
      have HB12 := Lib.hid hb12
      clear hb12 hdr
      cases sb with
      | false =>
        by_cases hneg : n < 0
        · have hbf : b = false := by rw [HSP.out.1, decide_eq_true hneg]; rfl
          have hAf : A' = A := by rw [HSP.out.2, hbf]; rfl
          subst hbf hAf
          go_wp2_with fail
          go_ret
          have hbe := below_tr HBW.out HB12.out
          exact ⟨rfl, (HD.out.below hbe).more (by omega), Stay.of_below hbe⟩
        · have hbt : b = true := by rw [HSP.out.1, decide_eq_false hneg]; rfl
          have hAt : A' = A.pt (tupR 1 y sub n) := by rw [HSP.out.2, if_pos hbt, if_neg hneg]; rfl
          subst hbt hAt
          have hd0 := HDQ.out.below HB12.out
          have q0 := (HWQ.out.below HB12.out).cell (o := 0) rfl
          have ql := (HWQ.out.below HB12.out).lt
          have HST := Lib.hid (Stay.of_below (G := X) (below_tr HBW.out HB12.out))
          have HD0 := Lib.hid hd0
          clear hd0
          obtain ⟨wk, hwk⟩ : ∃ wk, wk = w12 := ⟨_, rfl⟩
          rw [← hwk] at HD0 q0 ql HST ⊢
          clear hwk
          obtain ⟨Ak, rfl⟩ : ∃ Ak, Ak = A := ⟨_, rfl⟩
          obtain ⟨V, hV⟩ : ∃ V, wk.alloc (.cells #[.int .u8 1, .int .i64 n, .int .i64 0, .string ⟨#[]⟩] 90) = V := ⟨_, rfl⟩
          obtain ⟨gv, hgv⟩ : ∃ g, wk.heap.size = g := ⟨_, rfl⟩
          have hbV : Below wk.heap.size wk V := by rw [← hV]; exact Below.allocs _ _
          have hrow : RowV V (.slice (some ⟨gv, 0, none⟩) 1 1) [valI n] := by rw [← hV, ← hgv]; exact lit_rowV wk [valI n] 1 rfl (by decide)
          have hpe : Ak.ptE (tupR 1 y sub n) = 0 := by unfold Ab.ptE; rw [if_pos ⟨by show Most 1; unfold Most; omega, HI.out.2.2.1⟩]
          have hcon := duo_put (HD0.out.below hbV) (tupR 1 y sub n) (.slice (some ⟨gv, 0, none⟩) 1 1) (tupR_wf i64_1 HI.out.2.2.2.1 HI.out.2.1 HI.out.2.2.2.2) hrow (by omega) rfl rfl hpe
          unfold tupV at hcon
          simp only [tupR] at hcon
          have HCON2 := Lib.hid hcon
          have HST2 := Lib.hid (HST.out.trans (Stay.of_below hbV))
          clear hcon hrow hbV hpe
          go_wp2_with fail
          refine HCON2.out.mono ?_
          rintro e wf ⟨rfl, q1, q2⟩
          have HE := Lib.hid (And.intro q1 (HST2.out.trans q2))
          clear q0 ql q1 q2 hV hgv HCON2
          go_wp2_with fail
          go_ret
          exact ⟨rfl, HE.out⟩
      | true =>
        have hbt : b = true := by rw [HSP.out.1]; rfl
        have hd0 := HDQ.out.below HB12.out
        have q0 := (HWQ.out.below HB12.out).cell (o := 0) rfl
        have ql := (HWQ.out.below HB12.out).lt
        have hcon := duo_kill hd0 sv sub 0 HI.out.2.1 i64_0 (by omega) rfl (HAT.out rfl)
        have HCON := Lib.hid hcon
        subst hbt
        clear hd0 hcon
        go_wp2_with fail
        refine HCON.out.mono ?_
        rintro e wk ⟨rfl, hdk, hsk⟩
        have HST := Lib.hid ((Stay.of_below (G := X) (below_tr HBW.out HB12.out)).trans hsk)
        have hwk := (HWQ.out.below HB12.out).stay hsk HX.out
        obtain ⟨Ak, hAk⟩ : ∃ Ak, Ak = A.kl sv sub 0 := ⟨_, rfl⟩
        rw [← hAk] at hdk
        have HD0 := Lib.hid hdk
        have HAK := Lib.hid hAk
        clear q0 ql HCON hdk hsk hAk
        have q0 := hwk.cell (o := 0) rfl
        have ql := hwk.lt
        clear hwk
        by_cases hneg : n < 0
        · have hAt : A' = Ak := by rw [HSP.out.2, HAK.out]; simp [hneg]
          subst hAt
          go_wp2_with fail
          go_ret
          exact ⟨rfl, HD0.out.more (by omega), HST.out⟩
        · have hAt : A' = Ak.pt (tupR 1 y sub n) := by rw [HSP.out.2, HAK.out]; simp [hneg]
          subst hAt
          obtain ⟨V, hV⟩ : ∃ V, wk.alloc (.cells #[.int .u8 1, .int .i64 n, .int .i64 0, .string ⟨#[]⟩] 90) = V := ⟨_, rfl⟩
          obtain ⟨gv, hgv⟩ : ∃ g, wk.heap.size = g := ⟨_, rfl⟩
          have hbV : Below wk.heap.size wk V := by rw [← hV]; exact Below.allocs _ _
          have hrow : RowV V (.slice (some ⟨gv, 0, none⟩) 1 1) [valI n] := by rw [← hV, ← hgv]; exact lit_rowV wk [valI n] 1 rfl (by decide)
          have hpe : Ak.ptE (tupR 1 y sub n) = 0 := by unfold Ab.ptE; rw [if_pos ⟨by show Most 1; unfold Most; omega, HI.out.2.2.1⟩]
          have hcon := duo_put (HD0.out.below hbV) (tupR 1 y sub n) (.slice (some ⟨gv, 0, none⟩) 1 1) (tupR_wf i64_1 HI.out.2.2.2.1 HI.out.2.1 HI.out.2.2.2.2) hrow (by omega) rfl rfl hpe
          unfold tupV at hcon
          simp only [tupR] at hcon
          have HCON2 := Lib.hid hcon
          have HST2 := Lib.hid (HST.out.trans (Stay.of_below hbV))
          clear hcon hrow hbV hpe
          go_wp2_with fail
          refine HCON2.out.mono ?_
          rintro e wf ⟨rfl, q1, q2⟩
          have HE := Lib.hid (And.intro q1 (HST2.out.trans q2))
          clear q0 ql q1 q2 hV hgv HCON2
          go_wp2_with fail
          go_ret
          exact ⟨rfl, HE.out⟩

end Go.Proofs.Ytbgnbaogclnpgaa
