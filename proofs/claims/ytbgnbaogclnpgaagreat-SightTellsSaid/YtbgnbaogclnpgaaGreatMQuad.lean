/-
  The document's own Own, Seen, Newest, Fresh, Dead: walked (stage 12).
-/
import Derived.Test.YtbgnbaogclnpgaaGreatMFresh
import Derived.Test.YtbgnbaogclnpgaaGreatHRef11
import Derived.Test.YtbgnbaogclnpgaaGreatNLaw
import Derived.Test.YtbgnbaogclnpgaaGreatMDuo
import Derived.Test.YtbgnbaogclnpgaaGreatHSlots
import Derived.Test.YtbgnbaogclnpgaaGreatMStep
namespace Go.Proofs.YtbgnbaogclnpgaaGreat
open Go.RowKit
set_option linter.unusedVariables false

/-- The document's heap at g stands for A, its table at y for T. -/
def Rd (W : World) (g : Nat) (A : Ab) (y : Nat) (T : Tb) : Prop := (∃ (z : Nat) (F : Nat → Prop) (ls gs : Value) (gl : List Gvn) (R : Nat → Prop), Rf W g A z F ls gs gl R) ∧ A.Ok ∧ A.pl.length ≤ 50000 ∧ RV W y T
section
variable {w w' : World} {g y : Nat} {A : Ab} {T : Tb}
theorem Rd.below (H : Rd w g A y T) (hb : Below w.heap.size w w') : Rd w' g A y T := by
  obtain ⟨⟨z, F, ls, gs, gl, R, h1⟩, h2, h3, h4⟩ := H
  exact ⟨⟨z, F, ls, gs, gl, R, h1.below hb⟩, h2, h3, h4.below hb⟩
theorem rd_at {u : Tup} {b : Bool} (H : Rd w g A y T) (x : Int) (hu : A.atT x = u) (hb : A.atB x = b) :
    Calls Tryz.prog 45 #[.pointer (some ⟨g, 0, none⟩), .int .i64 x] w fun e w' => ∃ a n c, e = .returned (.tuple #[tupV u (.slice a n c), .bool b]) ∧ Below w.heap.size w w' := by
  subst hu hb
  obtain ⟨⟨z, F, ls, gs, gl, R, h1⟩, h2, h3, h4⟩ := H
  refine (rat_is w g A z F ls gs gl R x h3 h2 h1).mono ?_
  rintro e w' ⟨a, c, h5, h6⟩
  exact ⟨a, _, c, h5, h6⟩
theorem rd_slots {l : List Int} (H : Rd w g A y T) (u v : Int) (hl : natI (A.slots u v) = l) :
    Calls Tryz.prog 44 #[.pointer (some ⟨g, 0, none⟩), .int .i64 u, .int .i64 v] w fun e w' => ∃ s, e = .returned s ∧ RowI w' s l ∧ Below w.heap.size w w' := by
  subst hl
  obtain ⟨⟨z, F, ls, gs, gl, R, h1⟩, h2, h3, h4⟩ := H
  exact rslots_is w g A z F ls gs gl R u v h3 h1
theorem rd_own (H : Rd w g A y T) (a m id : Int) (hi : I64 id) (b : Bool) (hb : T.ownB m id = b) :
    Calls Tryz.prog 46 #[.agg #[.int .i64 a, .int .i64 m], .pointer (some ⟨y, 0, none⟩), .int .i64 id] w fun e w' => e = .returned (.bool b) ∧ Below w.heap.size w w' := ownR_is w y T a m id hi H.2.2.2 b hb
theorem rd_sees (H : Rd w g A y T) (a m id : Int) (hi : I64 id) (b : Bool) (hb : T.seesB a m id = b) :
    Calls Tryz.prog 47 #[.agg #[.int .i64 a, .int .i64 m], .pointer (some ⟨y, 0, none⟩), .int .i64 id] w fun e w' => e = .returned (.bool b) ∧ Below w.heap.size w w' := seesR_is w y T a m id hi H.2.2.2 b hb
end

/-- The versions of a row, one by one. -/
theorem vs_len (A : Ab) (x y : Int) : (natI (A.slots x y)).length = (A.vs x y).length := by
  rw [← Ab.vs_slots]
  unfold natI
  rw [List.length_map, List.length_map]
theorem vs_at {A : Ab} (hok : A.Ok) {x y : Int} {i : Nat} (hi : i < (A.vs x y).length) : ∃ (k : Nat) (t : Tup), (A.vs x y)[i]? = some (k, t) ∧ (natI (A.slots x y)).getD i 0 = (k : Int) ∧ A.atT (k : Int) = t ∧ A.atB (k : Int) = true ∧ t.wf := by
  obtain ⟨⟨k, t⟩, hp⟩ : ∃ p, (A.vs x y)[i]? = some p := ⟨_, List.getElem?_eq_getElem hi⟩
  have hm : (k, t) ∈ A.pl := (List.mem_filter.1 (List.mem_of_getElem? hp)).1
  obtain ⟨h1, h2⟩ := atT_is hok hm
  refine ⟨k, t, hp, ?_, h1, h2, (hok.wf _ hm).1⟩
  rw [← Ab.vs_slots]
  unfold natI
  rw [List.getD_eq_getElem?_getD, List.getElem?_map, List.getElem?_map, hp]
  rfl
theorem own_take {T : Tb} {m : Int} {l : List (Nat × Tup)} {i : Nat} {p : Nat × Tup} (hp : l[i]? = some p) : ownR T m (l.take (i + 1)) = (ownR T m (l.take i) || ownP T m p.2) := by
  unfold ownR
  rw [List.take_add_one, hp, List.any_append]
  simp
theorem own_hit {T : Tb} {m : Int} {l : List (Nat × Tup)} {i : Nat} {p : Nat × Tup} (hp : l[i]? = some p) (h : ownP T m p.2 = true) : ownR T m l = true := by
  unfold ownR
  exact List.any_eq_true.2 ⟨p, List.mem_of_getElem? hp, h⟩
theorem own_put {T : Tb} {m : Int} {t : Tup} (c1 c2 : Bool) (h1 : T.ownB m t.mn = c1) (h2 : T.ownB m t.mx = c2) : ownP T m t = (c1 || c2) := by
  unfold ownP
  rw [h1, h2]

set_option maxRecDepth 100000 in
set_option maxHeartbeats 4000000 in
theorem rvown_is (w : World) (g yt : Nat) (A : Ab) (T : Tb) (a m x y : Int) (H : Rd w g A yt T) (b : Bool) (hb : ownR T m (A.vs x y) = b) :
    Calls Tryz.prog 17 #[.pointer (some ⟨g, 0, none⟩), .pointer (some ⟨yt, 0, none⟩), .agg #[.int .i64 a, .int .i64 m], .int .i64 x, .int .i64 y] w fun e w' => e = .returned (.bool b) ∧ Below w.heap.size w w' := by
  obtain ⟨bg, hbg⟩ : ∃ b, w.heap.size = b := ⟨_, rfl⟩
  obtain ⟨V, hV⟩ : ∃ V, w.alloc (.cells #[.int .i64 a, .int .i64 m] 39) = V := ⟨_, rfl⟩
  have hlv : Lit V bg 39 [.int .i64 a, .int .i64 m] := by rw [← hV, ← hbg]; exact Lit.new w _ _
  have hb0 : Below w.heap.size w V := by rw [← hV]; exact Below.allocs _ _
  have hcon := rd_slots (H.below hb0) x y rfl
  obtain ⟨l, hl⟩ : ∃ l, natI (A.slots x y) = l := ⟨_, rfl⟩
  obtain ⟨n, hn⟩ : ∃ n, (A.vs x y).length = n := ⟨_, rfl⟩
  have hln : l.length = n := by rw [← hl, ← hn]; exact vs_len A x y
  have hn9 : n ≤ 50000 := by rw [← hn]; exact Nat.le_trans (List.length_filter_le _ _) H.2.2.1
  rw [hl] at hcon
  have HL := Lib.hid hl
  have HN := Lib.hid hn
  have HLN := Lib.hid hln
  have HH := Lib.hid (H.below hb0)
  have HOK := Lib.hid H.2.1
  have HB0 := Lib.hid hb0
  have HLV := Lib.hid hlv
  have HBG := Lib.hid hbg
  have HB := Lib.hid hb
  have HCON := Lib.hid hcon
  clear H hb0 hlv hbg hb hcon hl hn hln
  go_enter Tryz.func17, Tryz.ntmps17
  go_upto_region 1 with (fail)
  rw [HBG.out]
  clear hV
  go_wp2_with fail
  refine HCON.out.mono ?_
  rintro e w1 ⟨s1, rfl, hr1, hb1⟩
  obtain ⟨sa0, sc0, hsf, -, -⟩ := hr1.form
  subst hsf
  have hlnz := HLN.out
  rw [hlnz] at hr1 ⊢
  have HR1 := Lib.hid hr1
  have HB1 := Lib.hid hb1
  clear hr1 hb1 hlnz HCON
  go_wp2_with fail
  go_loopg [12] n (fun gg s12 wr => ∃ (i : Nat), s12 = .int .i64 i ∧ i ≤ n ∧ n - i ≤ gg ∧ Hid (Below w1.heap.size w1 wr) ∧ Hid (ownR T m ((A.vs x y).take i) = false))
  case atStart => exact ⟨0, rfl, Nat.zero_le _, by omega, Lib.hid (Below.refl _ _), Lib.hid rfl⟩
  case round =>
    obtain ⟨i, rfl, hi, hgg, HBW, HF⟩ := hrel
    by_cases hlt : i < n
    · have hltz : (i : Int) < (n : Int) := by omega
      obtain ⟨k, t, hp, hk, ht1, ht2, hwf⟩ := vs_at HOK.out (A := A) (x := x) (y := y) (i := i) (by rw [HN.out]; exact hlt)
      rw [HL.out] at hk
      have hr2 := RowF.below HR1.out HBW.out
      obtain ⟨lb, lc, hse, hc1, hc2, hlb, hcel, -⟩ := RowI.at (j := i) hr2 (by rw [HLN.out]; exact hlt)
      rw [HLN.out] at hse hc1
      simp only [Value.slice.injEq] at hse
      obtain ⟨rfl, -, rfl⟩ := hse
      have cc := hcel i (by rw [HLN.out]; exact hlt)
      rw [hk] at cc
      have HBV := Lib.hid (below_tr HB1.out HBW.out)
      have hat := rd_at (HH.out.below HBV.out) (k : Int) ht1 ht2
      unfold tupV at hat
      have HAT := Lib.hid hat
      have HP := Lib.hid hp
      have HWF := Lib.hid hwf
      have HLT := Lib.hid (And.intro hlt (And.intro hi hgg))
      clear hp hk ht1 ht2 hwf hr2 hcel hat hlt hi hgg
      go_wp2_with fail
      refine HAT.out.mono ?_
      rintro e w3 ⟨sa, rn, sc, rfl, hbA⟩
      obtain ⟨W2, hW2⟩ : ∃ W2, (w3).alloc (.cells #[.int .i64 t.no, .int .i64 t.id, .int .i64 t.mn, .int .i64 t.cm, .int .i64 t.mx, .int .i64 t.cx, .slice sa rn sc] 87) = W2 := ⟨_, rfl⟩
      obtain ⟨g2, hg2⟩ : ∃ g, (w3).heap.size = g := ⟨_, rfl⟩
      have hl2 : Lit W2 g2 87 [.int .i64 t.no, .int .i64 t.id, .int .i64 t.mn, .int .i64 t.cm, .int .i64 t.mx, .int .i64 t.cx, .slice sa rn sc] := by rw [← hW2, ← hg2]; exact Lit.new w3 _ _
      have hb2 : Below (w3).heap.size w3 W2 := by rw [← hW2]; exact Below.allocs _ _
      have HL2 := Lib.hid hl2
      have HB2 := Lib.hid (below_tr hbA hb2)
      clear hbA hb2 hl2 HAT cc
      obtain ⟨c1, hc1⟩ : ∃ c, T.ownB m t.mn = c := ⟨_, rfl⟩
      obtain ⟨c2, hc2⟩ : ∃ c, T.ownB m t.mx = c := ⟨_, rfl⟩
      have HBX := Lib.hid (below_tr HBV.out HB2.out)
      have HC1 := Lib.hid (rd_own (HH.out.below HBX.out) a m t.mn HWF.out.mn c1 hc1)
      have HO2 : Hid (∀ w5, Below W2.heap.size W2 w5 → Calls Tryz.prog 46 #[.agg #[.int .i64 a, .int .i64 m], .pointer (some ⟨yt, 0, none⟩), .int .i64 t.mx] w5 fun e w' => e = .returned (.bool c2) ∧ Below w5.heap.size w5 w') := Lib.hid (fun w5 hb5 => rd_own (HH.out.below (below_tr HBX.out hb5)) a m t.mx HWF.out.mx c2 hc2)
      have HPUT := Lib.hid (own_put c1 c2 hc1 hc2)
      have HM0 : Hid (t.mx = 0 → c2 = false) := Lib.hid (fun e => by rw [← hc2, e, own_zero])
      clear hc1 hc2
      have v0 := (HLV.out.below HBX.out).cell (o := 0) rfl
      have v1 := (HLV.out.below HBX.out).cell (o := 1) rfl
      have vl := (HLV.out.below HBX.out).lt
      have d2 := (HL2.out.below (Below.refl _ _)).cell (o := 2) rfl
      have d4 := (HL2.out.below (Below.refl _ _)).cell (o := 4) rfl
      have dl := (HL2.out.below (Below.refl _ _)).lt
      go_wp2_with fail
      refine HC1.out.mono ?_
      rintro e w5 ⟨rfl, hb5⟩
      have HB5 := Lib.hid (below_tr HB2.out hb5)
      have HB5V := Lib.hid (below_tr HBX.out hb5)
      have HB52 := Lib.hid hb5
      clear hb5 HC1 v0 v1 vl d2 d4 dl hW2 hg2
      have HEND : Hid (∀ w6, Below w5.heap.size w5 w6 → Below w.heap.size w w6) := Lib.hid (fun w6 h6 => below_tr HB0.out (below_tr HB5V.out h6))
      have HWR : Hid (∀ w6, Below w5.heap.size w5 w6 → Below w1.heap.size w1 w6) := Lib.hid (fun w6 h6 => below_tr HBW.out (below_tr HB5.out h6))
      cases c1 with
      | true =>
        have hbt : b = true := by rw [← HB.out]; exact own_hit HP.out (by rw [HPUT.out]; rfl)
        subst hbt
        go_wp2_with fail
        go_ret
        exact ⟨rfl, HEND.out _ (Below.refl _ _)⟩
      | false =>
        have v0 := (HLV.out.below HB5V.out).cell (o := 0) rfl
        have v1 := (HLV.out.below HB5V.out).cell (o := 1) rfl
        have vl := (HLV.out.below HB5V.out).lt
        have d2 := (HL2.out.below HB52.out).cell (o := 2) rfl
        have d4 := (HL2.out.below HB52.out).cell (o := 4) rfl
        have dl := (HL2.out.below HB52.out).lt
        by_cases hmx : t.mx = 0
        · have hc0 := HM0.out hmx
          subst hc0
          have HPF : Hid (ownP T m t = false) := Lib.hid (by rw [HPUT.out]; rfl)
          rw [hmx] at d4
          clear hmx HM0 HO2
          go_wp2_with fail
          go_roundg (n - (i + 1))
          case measure => have := HLT.out; omega
          case rel => exact ⟨i + 1, by go_num, by have := HLT.out; omega, Nat.le_refl _, Lib.hid (HWR.out _ (Below.refl _ _)), Lib.hid (by rw [own_take HP.out, HF.out, HPF.out]; rfl)⟩
        · have hmz : (t.mx == 0) = false := by simpa using hmx
          have HC2 := Lib.hid (HO2.out w5 HB52.out)
          clear HO2 HM0
          go_wp2_with fail
          refine HC2.out.mono ?_
          rintro e w6 ⟨rfl, hb6⟩
          have HB6 := Lib.hid hb6
          clear hb6 HC2 v0 v1 vl d2 d4 dl
          cases c2 with
          | true =>
            have hbt : b = true := by rw [← HB.out]; exact own_hit HP.out (by rw [HPUT.out]; rfl)
            subst hbt
            go_wp2_with fail
            go_ret
            exact ⟨rfl, HEND.out _ HB6.out⟩
          | false =>
            have HPF : Hid (ownP T m t = false) := Lib.hid (by rw [HPUT.out]; rfl)
            go_wp2_with fail
            go_roundg (n - (i + 1))
            case measure => have := HLT.out; omega
            case rel => exact ⟨i + 1, by go_num, by have := HLT.out; omega, Nat.le_refl _, Lib.hid (HWR.out _ HB6.out), Lib.hid (by rw [own_take HP.out, HF.out, HPF.out]; rfl)⟩
    · have hltz : ¬ (i : Int) < (n : Int) := by omega
      obtain rfl : n = i := by omega
      have hbf : b = false := by
        have h1 := HF.out
        rw [List.take_of_length_le (by rw [HN.out]; exact Nat.le_refl _), HB.out] at h1
        exact h1
      subst hbf
      go_wp2_with fail
      go_ret
      exact ⟨rfl, below_tr HB0.out (below_tr HB1.out HBW.out)⟩

/-- None of the versions from j on is visible. -/
def NoneD (T : Tb) (own : Bool) (a m : Int) (l : List (Nat × Tup)) (j : Nat) : Prop := ∀ i p, j ≤ i → l[i]? = some p → visB T own a m p.2 = false
theorem NoneD.start (T : Tb) (own : Bool) (a m : Int) (l : List (Nat × Tup)) {n : Nat} (h : l.length = n) : NoneD T own a m l n := fun i p hi hp => by
  have := (List.getElem?_eq_some_iff.1 hp).1
  omega
theorem NoneD.step {T : Tb} {own : Bool} {a m : Int} {l : List (Nat × Tup)} {i : Nat} {p : Nat × Tup} (h : NoneD T own a m l (i + 1)) (hp : l[i]? = some p) (hv : visB T own a m p.2 = false) : NoneD T own a m l i := fun j q hj hq => by
  by_cases e : j = i
  · subst e
    rw [hp] at hq
    cases hq
    exact hv
  · exact h j q (by omega) hq
theorem seen_zero {T : Tb} {own : Bool} {a m : Int} {l : List (Nat × Tup)} (h : NoneD T own a m l 0) : seenL T own a m l = none := by
  unfold seenL
  rw [List.find?_eq_none]
  intro p hp
  obtain ⟨i, hi, e⟩ := List.mem_iff_getElem.1 (List.mem_reverse.1 hp)
  rw [h i p (Nat.zero_le _) (by rw [List.getElem?_eq_getElem hi, e])]
  decide
theorem seen_hit {T : Tb} {own : Bool} {a m : Int} {l : List (Nat × Tup)} {i : Nat} {p : Nat × Tup} (h : NoneD T own a m l (i + 1)) (hp : l[i]? = some p) (hv : visB T own a m p.2 = true) : seenL T own a m l = some p := by
  have hlt := (List.getElem?_eq_some_iff.1 hp).1
  have hsp : l.reverse = (l.drop (i + 1)).reverse ++ p :: (l.take i).reverse := by
    conv => lhs; rw [← List.take_append_drop (i + 1) l]
    rw [List.reverse_append, List.take_add_one, hp]
    simp
  unfold seenL
  rw [hsp, List.find?_append]
  have : (l.drop (i + 1)).reverse.find? (fun p => visB T own a m p.2) = none := List.find?_eq_none.2 fun v hv2 => by
    obtain ⟨j, hj, e⟩ := List.mem_iff_getElem.1 (List.mem_reverse.1 hv2)
    rw [h (i + 1 + j) v (by omega) (by rw [← List.getElem?_drop, List.getElem?_eq_getElem hj, e])]
    decide
  rw [this, List.find?_cons, hv]
  rfl
theorem vis_is {T : Tb} {own : Bool} {a m : Int} {t : Tup} (c1 c2 : Bool) (h1 : affB T own a m t.mn = c1) (h2 : affB T own a m t.mx = c2) : visB T own a m t = (c1 && !c2) := by
  unfold visB
  rw [endB_is, h1, h2]

set_option maxRecDepth 100000 in
set_option maxHeartbeats 4000000 in
theorem rvseen_is (w : World) (g yt : Nat) (A : Ab) (T : Tb) (a m x y : Int) (H : Rd w g A yt T) (b : Bool) (r : Int) (hb : seenB T A a m x y = b) (hr : seenV T A a m x y = r) :
    Calls Tryz.prog 13 #[.pointer (some ⟨g, 0, none⟩), .pointer (some ⟨yt, 0, none⟩), .agg #[.int .i64 a, .int .i64 m], .int .i64 x, .int .i64 y] w fun e w' => e = .returned (.tuple #[.int .i64 r, .bool b]) ∧ Below w.heap.size w w' := by
  obtain ⟨bg, hbg⟩ : ∃ b, w.heap.size = b := ⟨_, rfl⟩
  obtain ⟨V, hV⟩ : ∃ V, w.alloc (.cells #[.int .i64 a, .int .i64 m] 39) = V := ⟨_, rfl⟩
  have hlv : Lit V bg 39 [.int .i64 a, .int .i64 m] := by rw [← hV, ← hbg]; exact Lit.new w _ _
  have hb0 : Below w.heap.size w V := by rw [← hV]; exact Below.allocs _ _
  have hcon := rd_slots (H.below hb0) x y rfl
  obtain ⟨l, hl⟩ : ∃ l, natI (A.slots x y) = l := ⟨_, rfl⟩
  obtain ⟨n, hn⟩ : ∃ n, (A.vs x y).length = n := ⟨_, rfl⟩
  obtain ⟨own, ho⟩ : ∃ o, ownR T m (A.vs x y) = o := ⟨_, rfl⟩
  obtain ⟨so, hso⟩ : ∃ o, seenL T own a m (A.vs x y) = o := ⟨_, rfl⟩
  have hbs : b = so.isSome ∧ r = slotO so := by
    rw [← hb, ← hr]
    unfold seenB seenV seenO
    rw [ho, hso]
    exact ⟨rfl, rfl⟩
  have HSO : Hid (∀ (k : Nat) (t : Tup), so = some (k, t) → b = true ∧ r = (k : Int)) := Lib.hid (fun k t e => by rw [hbs.1, hbs.2, e]; exact ⟨rfl, rfl⟩)
  have HSN : Hid (so = none → b = false ∧ r = 0) := Lib.hid (fun e => by rw [hbs.1, hbs.2, e]; exact ⟨rfl, rfl⟩)
  have hln : l.length = n := by rw [← hl, ← hn]; exact vs_len A x y
  have hn9 : n ≤ 50000 := by rw [← hn]; exact Nat.le_trans (List.length_filter_le _ _) H.2.2.1
  rw [hl] at hcon
  have HSL := Lib.hid hso
  have HL := Lib.hid hl
  have HN := Lib.hid hn
  have HLN := Lib.hid hln
  have HH := Lib.hid (H.below hb0)
  have HOK := Lib.hid H.2.1
  have HB0 := Lib.hid hb0
  have HLV := Lib.hid hlv
  have HBG := Lib.hid hbg
  have HO := Lib.hid ho
  have HCON := Lib.hid hcon
  clear H hb0 hlv hbg hb hr hcon hl hn hln ho hso hbs
  go_enter Tryz.func13, Tryz.ntmps13
  go_upto_region 1 with (fail)
  rw [HBG.out]
  clear hV
  go_wp2_with fail
  refine HCON.out.mono ?_
  rintro e w0 ⟨s1, rfl, hr1, hb1⟩
  obtain ⟨sa0, sc0, hsf, -, -⟩ := hr1.form
  subst hsf
  have hlnz := HLN.out
  rw [hlnz] at hr1 ⊢
  have HR0 := Lib.hid hr1
  have HB00 := Lib.hid hb1
  have hcon := rvown_is w0 g yt A T a m x y (HH.out.below hb1) own HO.out
  have HCON2 := Lib.hid hcon
  have v0 := (HLV.out.below hb1).cell (o := 0) rfl
  have v1 := (HLV.out.below hb1).cell (o := 1) rfl
  have vl := (HLV.out.below hb1).lt
  clear hr1 hb1 hlnz HCON hcon
  go_wp2_with fail
  refine HCON2.out.mono ?_
  rintro e w1 ⟨rfl, hb1⟩
  have HR1 : Hid (RowI w1 (.slice sa0 n sc0) l) := Lib.hid (RowF.below HR0.out hb1)
  have HB1 := Lib.hid (below_tr HB00.out hb1)
  clear v0 v1 vl hb1 HCON2
  go_wp2_with fail
  go_loopg [14] n (fun gg s14 wr => ∃ (j : Nat), s14 = .int .i64 ((j : Int) - 1) ∧ j ≤ n ∧ j ≤ gg ∧ Hid (Below w1.heap.size w1 wr) ∧ Hid (NoneD T own a m (A.vs x y) j))
  case atStart => exact ⟨n, by go_num, Nat.le_refl _, Nat.le_refl _, Lib.hid (Below.refl _ _), Lib.hid (NoneD.start _ _ _ _ _ HN.out)⟩
  case round =>
    obtain ⟨j, rfl, hi, hgg, HBW, HFJ⟩ := hrel
    cases j with
    | succ i =>
      have HF := HFJ
      clear HFJ
      have hlt : i < n := by omega
      have hw1 : ((i + 1 : Nat) : Int) - 1 = (i : Int) := by omega
      rw [hw1]
      have hltn := Lib.hid hlt
      have hltz : (i : Int) < (n : Int) := by omega
      have hi0 : (0 : Int) ≤ (i : Int) := by omega
      obtain ⟨k, t, hp, hk, ht1, ht2, hwf⟩ := vs_at HOK.out (A := A) (x := x) (y := y) (i := i) (by rw [HN.out]; exact hlt)
      rw [HL.out] at hk
      have hr2 := RowF.below HR1.out HBW.out
      obtain ⟨lb, lc, hse, hc1, hc2, hlb, hcel, -⟩ := RowI.at (j := i) hr2 (by rw [HLN.out]; exact hlt)
      rw [HLN.out] at hse hc1
      simp only [Value.slice.injEq] at hse
      obtain ⟨rfl, -, rfl⟩ := hse
      have cc := hcel i (by rw [HLN.out]; exact hlt)
      rw [hk] at cc
      have HK := Lib.hid hk
      have HBV := Lib.hid (below_tr HB1.out HBW.out)
      have hat := rd_at (HH.out.below HBV.out) (k : Int) ht1 ht2
      unfold tupV at hat
      have HAT := Lib.hid hat
      have HP := Lib.hid hp
      have HWF := Lib.hid hwf
      have HLT := Lib.hid (And.intro hlt (And.intro hi hgg))
      clear hp hk ht1 ht2 hwf hr2 hcel hat hi hgg hw1
      go_wp2_with fail
      refine HAT.out.mono ?_
      rintro e w3 ⟨sa, rn, sc, rfl, hbA⟩
      obtain ⟨W2, hW2⟩ : ∃ W2, (w3).alloc (.cells #[.int .i64 t.no, .int .i64 t.id, .int .i64 t.mn, .int .i64 t.cm, .int .i64 t.mx, .int .i64 t.cx, .slice sa rn sc] 87) = W2 := ⟨_, rfl⟩
      obtain ⟨g2, hg2⟩ : ∃ g, (w3).heap.size = g := ⟨_, rfl⟩
      have hl2 : Lit W2 g2 87 [.int .i64 t.no, .int .i64 t.id, .int .i64 t.mn, .int .i64 t.cm, .int .i64 t.mx, .int .i64 t.cx, .slice sa rn sc] := by rw [← hW2, ← hg2]; exact Lit.new w3 _ _
      have hb2 : Below (w3).heap.size w3 W2 := by rw [← hW2]; exact Below.allocs _ _
      have HL2 := Lib.hid hl2
      have HB2 := Lib.hid (below_tr hbA hb2)
      clear hbA hb2 hl2 HAT cc
      have HBX := Lib.hid (below_tr HBV.out HB2.out)
      cases own with
      | true =>
        obtain ⟨c1, hc1⟩ : ∃ c, T.ownB m t.mn = c := ⟨_, rfl⟩
        obtain ⟨c2, hc2⟩ : ∃ c, T.ownB m t.mx = c := ⟨_, rfl⟩
        have HC1 := Lib.hid (rd_own (HH.out.below HBX.out) a m t.mn HWF.out.mn c1 hc1)
        have HO2 : Hid (∀ w5, Below W2.heap.size W2 w5 → Calls Tryz.prog 46 #[.agg #[.int .i64 a, .int .i64 m], .pointer (some ⟨yt, 0, none⟩), .int .i64 t.mx] w5 fun e w' => e = .returned (.bool c2) ∧ Below w5.heap.size w5 w') := Lib.hid (fun w5 hb5 => rd_own (HH.out.below (below_tr HBX.out hb5)) a m t.mx HWF.out.mx c2 hc2)
        have HVIS : Hid (visB T true a m t = (c1 && !c2)) := Lib.hid (vis_is c1 c2 (by unfold affB; exact hc1) (by unfold affB; exact hc2))
        have HM0 : Hid (t.mx = 0 → c2 = false) := Lib.hid (fun e => by rw [← hc2, e]; first | exact own_zero _ _ | exact sees_zero' _ _ _)
        clear hc1 hc2
        have v0 := (HLV.out.below HBX.out).cell (o := 0) rfl
        have v1 := (HLV.out.below HBX.out).cell (o := 1) rfl
        have vl := (HLV.out.below HBX.out).lt
        have d2 := (HL2.out.below (Below.refl _ _)).cell (o := 2) rfl
        have d4 := (HL2.out.below (Below.refl _ _)).cell (o := 4) rfl
        have dl := (HL2.out.below (Below.refl _ _)).lt
        go_wp2_with fail
        refine HC1.out.mono ?_
        rintro e w5 ⟨rfl, hb5⟩
        have HB5 := Lib.hid (below_tr HB2.out hb5)
        have HB5V := Lib.hid (below_tr HBX.out hb5)
        have HB52 := Lib.hid hb5
        clear hb5 HC1 v0 v1 vl d2 d4 dl hW2 hg2
        have HEND : Hid (∀ w6, Below w5.heap.size w5 w6 → Below w.heap.size w w6) := Lib.hid (fun w6 h6 => below_tr HB0.out (below_tr HB5V.out h6))
        have HWR : Hid (∀ w6, Below w5.heap.size w5 w6 → Below w1.heap.size w1 w6) := Lib.hid (fun w6 h6 => below_tr HBW.out (below_tr HB5.out h6))
        cases c1 with
        | false =>
          have HPF : Hid (visB T true a m t = false) := Lib.hid (by rw [HVIS.out]; rfl)
          clear HO2 HM0
          go_wp2_with fail
          go_roundg i
          case measure => have := HLT.out.2.2; omega
          case rel => exact ⟨i, by go_num, by have := HLT.out; omega, Nat.le_refl _, Lib.hid (HWR.out _ (Below.refl _ _)), Lib.hid (HF.out.step HP.out HPF.out)⟩
        | true =>
          have v0 := (HLV.out.below HB5V.out).cell (o := 0) rfl
          have v1 := (HLV.out.below HB5V.out).cell (o := 1) rfl
          have vl := (HLV.out.below HB5V.out).lt
          have d2 := (HL2.out.below HB52.out).cell (o := 2) rfl
          have d4 := (HL2.out.below HB52.out).cell (o := 4) rfl
          have dl := (HL2.out.below HB52.out).lt
          by_cases hmx : t.mx = 0
          · have hc0 := HM0.out hmx
            subst hc0
            have hse := seen_hit HF.out HP.out (by rw [HVIS.out]; rfl)
            rw [HSL.out] at hse
            obtain ⟨rfl, rfl⟩ := HSO.out k t hse
            rw [hmx] at d4
            have hr3 := RowF.below HR1.out (HWR.out _ (Below.refl _ _))
            obtain ⟨lb2, lc2, hse2, -, -, hlb2, hcel2, -⟩ := RowI.at (j := i) hr3 (by rw [HLN.out]; exact hltn.out)
            rw [HLN.out] at hse2
            simp only [Value.slice.injEq, Option.some.injEq, Addr.mk.injEq] at hse2
            have hlb3 := hse2.1.1
            subst hlb3
            have cc := hcel2 i (by rw [HLN.out]; exact hltn.out)
            rw [HK.out] at cc
            clear hmx HM0 HO2 hse hr3 hcel2 hse2
            go_wp2_with fail
            go_ret2
            exact ⟨rfl, HEND.out _ (Below.refl _ _)⟩
          · have hmz : (t.mx == 0) = false := by simpa using hmx
            have hmn : (t.mx != 0) = true := by simpa using hmx
            have HC2 := Lib.hid (HO2.out w5 HB52.out)
            clear HO2 HM0
            go_wp2_with fail
            refine HC2.out.mono ?_
            rintro e w6 ⟨rfl, hb6⟩
            have HB6 := Lib.hid hb6
            clear hb6 HC2 v0 v1 vl d2 d4 dl
            cases c2 with
            | false =>
              have hse := seen_hit HF.out HP.out (by rw [HVIS.out]; rfl)
              rw [HSL.out] at hse
              obtain ⟨rfl, rfl⟩ := HSO.out k t hse
              have hr3 := RowF.below HR1.out (HWR.out _ HB6.out)
              obtain ⟨lb2, lc2, hse2, -, -, hlb2, hcel2, -⟩ := RowI.at (j := i) hr3 (by rw [HLN.out]; exact hltn.out)
              rw [HLN.out] at hse2
              simp only [Value.slice.injEq, Option.some.injEq, Addr.mk.injEq] at hse2
              have hlb3 := hse2.1.1
              subst hlb3
              have cc := hcel2 i (by rw [HLN.out]; exact hltn.out)
              rw [HK.out] at cc
              clear hse hr3 hcel2 hse2
              go_wp2_with fail
              go_ret2
              exact ⟨rfl, HEND.out _ HB6.out⟩
            | true =>
              have HPF : Hid (visB T true a m t = false) := Lib.hid (by rw [HVIS.out]; rfl)
              go_wp2_with fail
              go_roundg i
              case measure => have := HLT.out.2.2; omega
              case rel => exact ⟨i, by go_num, by have := HLT.out; omega, Nat.le_refl _, Lib.hid (HWR.out _ HB6.out), Lib.hid (HF.out.step HP.out HPF.out)⟩
      | false =>
        obtain ⟨c1, hc1⟩ : ∃ c, T.seesB a m t.mn = c := ⟨_, rfl⟩
        obtain ⟨c2, hc2⟩ : ∃ c, T.seesB a m t.mx = c := ⟨_, rfl⟩
        have HC1 := Lib.hid (rd_sees (HH.out.below HBX.out) a m t.mn HWF.out.mn c1 hc1)
        have HO2 : Hid (∀ w5, Below W2.heap.size W2 w5 → Calls Tryz.prog 47 #[.agg #[.int .i64 a, .int .i64 m], .pointer (some ⟨yt, 0, none⟩), .int .i64 t.mx] w5 fun e w' => e = .returned (.bool c2) ∧ Below w5.heap.size w5 w') := Lib.hid (fun w5 hb5 => rd_sees (HH.out.below (below_tr HBX.out hb5)) a m t.mx HWF.out.mx c2 hc2)
        have HVIS : Hid (visB T false a m t = (c1 && !c2)) := Lib.hid (vis_is c1 c2 (by unfold affB; exact hc1) (by unfold affB; exact hc2))
        have HM0 : Hid (t.mx = 0 → c2 = false) := Lib.hid (fun e => by rw [← hc2, e]; first | exact own_zero _ _ | exact sees_zero' _ _ _)
        clear hc1 hc2
        have v0 := (HLV.out.below HBX.out).cell (o := 0) rfl
        have v1 := (HLV.out.below HBX.out).cell (o := 1) rfl
        have vl := (HLV.out.below HBX.out).lt
        have d2 := (HL2.out.below (Below.refl _ _)).cell (o := 2) rfl
        have d4 := (HL2.out.below (Below.refl _ _)).cell (o := 4) rfl
        have dl := (HL2.out.below (Below.refl _ _)).lt
        go_wp2_with fail
        refine HC1.out.mono ?_
        rintro e w5 ⟨rfl, hb5⟩
        have HB5 := Lib.hid (below_tr HB2.out hb5)
        have HB5V := Lib.hid (below_tr HBX.out hb5)
        have HB52 := Lib.hid hb5
        clear hb5 HC1 v0 v1 vl d2 d4 dl hW2 hg2
        have HEND : Hid (∀ w6, Below w5.heap.size w5 w6 → Below w.heap.size w w6) := Lib.hid (fun w6 h6 => below_tr HB0.out (below_tr HB5V.out h6))
        have HWR : Hid (∀ w6, Below w5.heap.size w5 w6 → Below w1.heap.size w1 w6) := Lib.hid (fun w6 h6 => below_tr HBW.out (below_tr HB5.out h6))
        cases c1 with
        | false =>
          have HPF : Hid (visB T false a m t = false) := Lib.hid (by rw [HVIS.out]; rfl)
          clear HO2 HM0
          go_wp2_with fail
          go_roundg i
          case measure => have := HLT.out.2.2; omega
          case rel => exact ⟨i, by go_num, by have := HLT.out; omega, Nat.le_refl _, Lib.hid (HWR.out _ (Below.refl _ _)), Lib.hid (HF.out.step HP.out HPF.out)⟩
        | true =>
          have v0 := (HLV.out.below HB5V.out).cell (o := 0) rfl
          have v1 := (HLV.out.below HB5V.out).cell (o := 1) rfl
          have vl := (HLV.out.below HB5V.out).lt
          have d2 := (HL2.out.below HB52.out).cell (o := 2) rfl
          have d4 := (HL2.out.below HB52.out).cell (o := 4) rfl
          have dl := (HL2.out.below HB52.out).lt
          by_cases hmx : t.mx = 0
          · have hc0 := HM0.out hmx
            subst hc0
            have hse := seen_hit HF.out HP.out (by rw [HVIS.out]; rfl)
            rw [HSL.out] at hse
            obtain ⟨rfl, rfl⟩ := HSO.out k t hse
            rw [hmx] at d4
            have hr3 := RowF.below HR1.out (HWR.out _ (Below.refl _ _))
            obtain ⟨lb2, lc2, hse2, -, -, hlb2, hcel2, -⟩ := RowI.at (j := i) hr3 (by rw [HLN.out]; exact hltn.out)
            rw [HLN.out] at hse2
            simp only [Value.slice.injEq, Option.some.injEq, Addr.mk.injEq] at hse2
            have hlb3 := hse2.1.1
            subst hlb3
            have cc := hcel2 i (by rw [HLN.out]; exact hltn.out)
            rw [HK.out] at cc
            clear hmx HM0 HO2 hse hr3 hcel2 hse2
            go_wp2_with fail
            go_ret2
            exact ⟨rfl, HEND.out _ (Below.refl _ _)⟩
          · have hmz : (t.mx == 0) = false := by simpa using hmx
            have hmn : (t.mx != 0) = true := by simpa using hmx
            have HC2 := Lib.hid (HO2.out w5 HB52.out)
            clear HO2 HM0
            go_wp2_with fail
            refine HC2.out.mono ?_
            rintro e w6 ⟨rfl, hb6⟩
            have HB6 := Lib.hid hb6
            clear hb6 HC2 v0 v1 vl d2 d4 dl
            cases c2 with
            | false =>
              have hse := seen_hit HF.out HP.out (by rw [HVIS.out]; rfl)
              rw [HSL.out] at hse
              obtain ⟨rfl, rfl⟩ := HSO.out k t hse
              have hr3 := RowF.below HR1.out (HWR.out _ HB6.out)
              obtain ⟨lb2, lc2, hse2, -, -, hlb2, hcel2, -⟩ := RowI.at (j := i) hr3 (by rw [HLN.out]; exact hltn.out)
              rw [HLN.out] at hse2
              simp only [Value.slice.injEq, Option.some.injEq, Addr.mk.injEq] at hse2
              have hlb3 := hse2.1.1
              subst hlb3
              have cc := hcel2 i (by rw [HLN.out]; exact hltn.out)
              rw [HK.out] at cc
              clear hse hr3 hcel2 hse2
              go_wp2_with fail
              go_ret2
              exact ⟨rfl, HEND.out _ HB6.out⟩
            | true =>
              have HPF : Hid (visB T false a m t = false) := Lib.hid (by rw [HVIS.out]; rfl)
              go_wp2_with fail
              go_roundg i
              case measure => have := HLT.out.2.2; omega
              case rel => exact ⟨i, by go_num, by have := HLT.out; omega, Nat.le_refl _, Lib.hid (HWR.out _ HB6.out), Lib.hid (HF.out.step HP.out HPF.out)⟩
    | zero =>
      have hse := seen_zero HFJ.out
      rw [HSL.out] at hse
      obtain ⟨rfl, rfl⟩ := HSN.out hse
      go_wp2_with fail
      go_ret2
      exact ⟨rfl, below_tr HB0.out (below_tr HB1.out HBW.out)⟩

end Go.Proofs.YtbgnbaogclnpgaaGreat

namespace Go.Proofs.YtbgnbaogclnpgaaGreat
open Go.RowKit
set_option linter.unusedVariables false

set_option maxRecDepth 100000 in
set_option maxHeartbeats 4000000 in
theorem rvnewest_is (w : World) (g yt : Nat) (A : Ab) (T : Tb) (x y : Int) (H : Rd w g A yt T) (b : Bool) (r : Int) (hb : seenB T A T.last 0 x y = b) (hr : seenV T A T.last 0 x y = r) :
    Calls Tryz.prog 15 #[.pointer (some ⟨g, 0, none⟩), .pointer (some ⟨yt, 0, none⟩), .int .i64 x, .int .i64 y] w fun e w' => e = .returned (.tuple #[.int .i64 r, .bool b]) ∧ Below w.heap.size w w' := by
  obtain ⟨la, hla⟩ : ∃ la : Int, (T.last : Int) = la := ⟨_, rfl⟩
  rw [hla] at hb hr
  have hcon := nowR_is w yt T 0 H.2.2.2 la hla
  have HS := Lib.hid (show ∀ w2, Below w.heap.size w w2 → Calls Tryz.prog 13 #[.pointer (some ⟨g, 0, none⟩), .pointer (some ⟨yt, 0, none⟩), .agg #[.int .i64 la, .int .i64 0], .int .i64 x, .int .i64 y] w2 fun e w' => e = .returned (.tuple #[.int .i64 r, .bool b]) ∧ Below w2.heap.size w2 w' from fun w2 hb2 => rvseen_is w2 g yt A T la 0 x y (H.below hb2) b r hb hr)
  unfold vw at hcon
  clear H hb hr hla
  go_enter Tryz.func15, Tryz.ntmps15
  go_wp2_with fail
  refine (show Calls Tryz.prog _ _ _ _ from hcon).mono ?_
  rintro e w2 ⟨rfl, hb2⟩
  have hcon2 := HS.out w2 hb2
  have HB2 := Lib.hid hb2
  clear hcon hb2 HS
  go_wp2_with fail
  refine (show Calls Tryz.prog _ _ _ _ from hcon2).mono ?_
  rintro e w3 ⟨rfl, hb3⟩
  have HB3 := Lib.hid (below_tr HB2.out hb3)
  clear hcon2 hb3 HB2
  go_wp2_with fail
  go_ret2
  exact ⟨rfl, HB3.out⟩

set_option maxRecDepth 100000 in
set_option maxHeartbeats 4000000 in
theorem rvfresh_is (w : World) (h yt : Nat) (A : Ab) (T : Tb) (a m x y : Int) (H : Rd w h A yt T) (b : Bool) (hb : freshB T A a m x y = b) :
    Calls Tryz.prog 19 #[.pointer (some ⟨h, 0, none⟩), .pointer (some ⟨yt, 0, none⟩), .agg #[.int .i64 a, .int .i64 m], .int .i64 x, .int .i64 y] w fun e w' => e = .returned (.bool b) ∧ Below w.heap.size w w' := by
  obtain ⟨g, hg⟩ : ∃ g, w.heap.size = g := ⟨_, rfl⟩
  obtain ⟨W, hW⟩ : ∃ W, w.alloc (.cells #[.int .i64 a, .int .i64 m] 39) = W := ⟨_, rfl⟩
  have hl : Lit W g 39 [.int .i64 a, .int .i64 m] := by rw [← hW, ← hg]; exact Lit.new w _ _
  have hb0 : Below w.heap.size w W := by rw [← hW]; exact Below.allocs _ _
  obtain ⟨own, ho⟩ : ∃ o, ownR T m (A.vs x y) = o := ⟨_, rfl⟩
  obtain ⟨sb, hsb⟩ : ∃ o, seenB T A a m x y = o := ⟨_, rfl⟩
  obtain ⟨sv, hsv⟩ : ∃ o, seenV T A a m x y = o := ⟨_, rfl⟩
  obtain ⟨nb, hnb⟩ : ∃ o, seenB T A T.last 0 x y = o := ⟨_, rfl⟩
  obtain ⟨nv, hnv⟩ : ∃ o, seenV T A T.last 0 x y = o := ⟨_, rfl⟩
  unfold freshB at hb
  rw [ho, hsb, hsv, hnb, hnv] at hb
  have HO := Lib.hid (show ∀ w2, Below W.heap.size W w2 → Calls Tryz.prog 17 #[.pointer (some ⟨h, 0, none⟩), .pointer (some ⟨yt, 0, none⟩), .agg #[.int .i64 a, .int .i64 m], .int .i64 x, .int .i64 y] w2 fun e w' => e = .returned (.bool own) ∧ Below w2.heap.size w2 w' from fun w2 hb2 => rvown_is w2 h yt A T a m x y (H.below (below_tr hb0 hb2)) own ho)
  have HS := Lib.hid (show ∀ w2, Below W.heap.size W w2 → Calls Tryz.prog 13 #[.pointer (some ⟨h, 0, none⟩), .pointer (some ⟨yt, 0, none⟩), .agg #[.int .i64 a, .int .i64 m], .int .i64 x, .int .i64 y] w2 fun e w' => e = .returned (.tuple #[.int .i64 sv, .bool sb]) ∧ Below w2.heap.size w2 w' from fun w2 hb2 => rvseen_is w2 h yt A T a m x y (H.below (below_tr hb0 hb2)) sb sv hsb hsv)
  have HN := Lib.hid (show ∀ w2, Below W.heap.size W w2 → Calls Tryz.prog 15 #[.pointer (some ⟨h, 0, none⟩), .pointer (some ⟨yt, 0, none⟩), .int .i64 x, .int .i64 y] w2 fun e w' => e = .returned (.tuple #[.int .i64 nv, .bool nb]) ∧ Below w2.heap.size w2 w' from fun w2 hb2 => rvnewest_is w2 h yt A T x y (H.below (below_tr hb0 hb2)) nb nv hnb hnv)
  have HL := Lib.hid hl
  have HW := Lib.hid hW
  have HG := Lib.hid hg
  have HB0 := Lib.hid hb0
  have hcon := HO.out W (Below.refl _ _)
  have v0 := hl.cell (o := 0) rfl
  have v1 := hl.cell (o := 1) rfl
  have vl := hl.lt
  clear H ho hsb hsv hnb hnv hl hW hg hb0 HO
  go_enter Tryz.func19, Tryz.ntmps19
  go_upto_region 1 with (fail)
  rw [HW.out, HG.out]
  clear HW HG
  go_wp2_with fail
  refine (show Calls Tryz.prog _ _ _ _ from hcon).mono ?_
  rintro e w2 ⟨rfl, hb2⟩
  have HB2 := Lib.hid hb2
  clear hcon hb2 v0 v1 vl
  cases own with
  | true =>
    have hbt : b = true := by rw [← hb]; rfl
    subst hbt
    clear hb
    go_wp2_with fail
    go_ret
    exact ⟨rfl, below_tr HB0.out HB2.out⟩
  | false =>
    rw [Bool.false_or] at hb
    have v0 := (HL.out.below HB2.out).cell (o := 0) rfl
    have v1 := (HL.out.below HB2.out).cell (o := 1) rfl
    have vl := (HL.out.below HB2.out).lt
    have hcon := HS.out w2 HB2.out
    have HBB := Lib.hid hb
    clear hb
    go_wp2_with fail
    refine (show Calls Tryz.prog _ _ _ _ from hcon).mono ?_
    rintro e w3 ⟨rfl, hb3⟩
    have HB3 := Lib.hid (below_tr HB2.out hb3)
    have hcon := HN.out w3 HB3.out
    clear hb3 v0 v1 vl HB2
    go_wp2_with fail
    refine (show Calls Tryz.prog _ _ _ _ from hcon).mono ?_
    rintro e w4 ⟨rfl, hb4⟩
    have HB4 := Lib.hid (below_tr HB3.out hb4)
    clear hb4 hcon
    by_cases hvv : sv = nv
    · subst hvv
      have hbz : (sb == nb) = b := by rw [← HBB.out]; cases sb <;> cases nb <;> simp
      go_wp2_with fail
      go_ret
      exact ⟨by first | rfl | rw [hbz] | simp [← hbz], below_tr HB0.out HB4.out⟩
    · have hbz : b = false := by rw [← HBB.out, decide_eq_false hvv, Bool.and_false]
      subst hbz
      have hz2 : (sv == nv) = false := by simpa using hvv
      go_wp2_with fail
      go_ret
      exact ⟨rfl, below_tr HB0.out HB4.out⟩

/-- Dead, by the table's numbers. -/
theorem dead_put {T : Tb} (hok : T.Ok) (a : Int) (t : Tup) (tp v : Int) (h1 : T.cnt t.mx = true) (ht : T.g T.top t.mx = tp) (hv : T.numI tp = v) : endB T false a 0 t = (decide (0 < v) && decide (v ≤ a)) := by
  rw [endB_is]
  unfold affB
  simp only [Bool.false_eq_true, if_false]
  rw [sees_none hok]
  unfold Tb.reachB
  rw [← num_top hok h1, ht, hv]
theorem dead_off {T : Tb} (hok : T.Ok) (a : Int) (t : Tup) (h1 : T.cnt t.mx = false) : endB T false a 0 t = false := by
  rw [endB_is]
  unfold affB
  simp only [Bool.false_eq_true, if_false]
  rw [sees_none hok]
  unfold Tb.reachB Tb.numI
  rw [h1]
  rfl

set_option maxRecDepth 100000 in
set_option maxHeartbeats 4000000 in
theorem rvdead_is (w : World) (h yt : Nat) (A : Ab) (T : Tb) (a slot : Int) (H : Rd w h A yt T) (b : Bool) (hb : deadB T A a slot = b) :
    Calls Tryz.prog 21 #[.pointer (some ⟨h, 0, none⟩), .pointer (some ⟨yt, 0, none⟩), .int .i64 a, .int .i64 slot] w fun e w' => e = .returned (.bool b) ∧ Below w.heap.size w w' := by
  obtain ⟨t, ht⟩ : ∃ t, A.atT slot = t := ⟨_, rfl⟩
  obtain ⟨is, his⟩ : ∃ t, A.atB slot = t := ⟨_, rfl⟩
  have hat := rd_at H slot ht his
  have hb' : b = (is && deadT T a t) := by
    rw [← hb, ← his, ← ht]
    unfold deadB Ab.atB Ab.atT
    cases A.tupI slot <;> rfl
  have hwf : is = true → t.wf := fun hi => by
    rw [← his] at hi
    unfold Ab.atB at hi
    obtain ⟨u, hu⟩ := Option.isSome_iff_exists.1 hi
    rw [← ht]
    unfold Ab.atT
    rw [hu]
    unfold Ab.tupI at hu
    by_cases h0 : 0 ≤ slot
    · rw [if_pos h0] at hu
      exact (H.2.1.wf _ ((H.2.1.tup _ _).1 hu)).1
    · rw [if_neg h0] at hu; cases hu
  unfold tupV at hat
  have HAT := Lib.hid hat
  have HWF := Lib.hid hwf
  have HH := Lib.hid H
  clear hat hwf ht his hb H
  go_enter Tryz.func21, Tryz.ntmps21
  go_wp2_with fail
  refine (show Calls Tryz.prog _ _ _ _ from HAT.out).mono ?_
  rintro e w1 ⟨sa, rn, sc, rfl, hb1⟩
  obtain ⟨W2, hW2⟩ : ∃ W2, w1.alloc (.cells #[.int .i64 t.no, .int .i64 t.id, .int .i64 t.mn, .int .i64 t.cm, .int .i64 t.mx, .int .i64 t.cx, .slice sa rn sc] 87) = W2 := ⟨_, rfl⟩
  obtain ⟨g2, hg2⟩ : ∃ g, w1.heap.size = g := ⟨_, rfl⟩
  have hl2 : Lit W2 g2 87 [.int .i64 t.no, .int .i64 t.id, .int .i64 t.mn, .int .i64 t.cm, .int .i64 t.mx, .int .i64 t.cx, .slice sa rn sc] := by rw [← hW2, ← hg2]; exact Lit.new w1 _ _
  have hb2 : Below w1.heap.size w1 W2 := by rw [← hW2]; exact Below.allocs _ _
  have HL2 := Lib.hid hl2
  have HB2 := Lib.hid (below_tr hb1 hb2)
  clear hb1 hb2 hl2 HAT
  cases is with
  | false =>
    have hbf : b = false := by rw [hb']; rfl
    subst hbf
    clear hb'
    go_wp2_with fail
    go_ret
    exact ⟨rfl, HB2.out⟩
  | true =>
    have HWFT : Hid t.wf := Lib.hid (HWF.out (by first | rfl | trivial))
    clear HWF
    rw [Bool.true_and] at hb'
    obtain ⟨c1, hc1⟩ : ∃ c, T.cnt t.mn = c := ⟨_, rfl⟩
    obtain ⟨c2, hc2⟩ : ∃ c, T.cnt t.mx = c := ⟨_, rfl⟩
    obtain ⟨tp, htp⟩ : ∃ tp, T.g T.top t.mx = tp := ⟨_, rfl⟩
    obtain ⟨v, hv⟩ : ∃ v, T.numI tp = v := ⟨_, rfl⟩
    have hbv : b = (!c1 || (c2 && (decide (0 < v) && decide (v ≤ a)))) := by
      rw [hb']
      unfold deadT
      rw [hc1]
      cases c2 with
      | false => rw [dead_off HH.out.2.2.2.ok.1 a t hc2, Bool.false_and]
      | true => rw [dead_put HH.out.2.2.2.ok.1 a t tp v hc2 htp hv, Bool.true_and]
    have HTI : Hid (I64 tp) := Lib.hid (by rw [← htp]; exact g_i64 HH.out.2.2.2.ok.1 (by have := HH.out.2.2.2.ok.2; omega) t.mx)
    have HM0 : Hid (t.mx = 0 → c2 = false) := Lib.hid (fun e => by rw [← hc2, e]; exact cnt_zero _)
    have HC1 := Lib.hid hc1
    have HC2 := Lib.hid hc2
    have HTP := Lib.hid htp
    have HV := Lib.hid hv
    have HBV := Lib.hid hbv
    have hcon := rv_counts (HH.out.below HB2.out).2.2.2 t.mn HWFT.out.mn c1 hc1
    have HCON := Lib.hid hcon
    have d2 := HL2.out.cell (o := 2) rfl
    have dl := HL2.out.lt
    clear hb' hc1 hc2 hbv hcon htp hv
    go_wp2_with fail
    refine (show Calls Tryz.prog _ _ _ _ from HCON.out).mono ?_
    rintro e w4 ⟨rfl, hb4⟩
    have HB4 := Lib.hid (below_tr HB2.out hb4)
    have HL4 := Lib.hid (HL2.out.below hb4)
    clear d2 dl HCON hb4 hW2 hg2
    cases c1 with
    | false =>
      have hbt : b = true := by rw [HBV.out]; rfl
      subst hbt
      go_wp2_with fail
      go_ret
      exact ⟨rfl, HB4.out⟩
    | true =>
      have d4 := HL4.out.cell (o := 4) rfl
      have dl := HL4.out.lt
      by_cases hmx : t.mx = 0
      · have hc0 := HM0.out hmx
        subst hc0
        have hbf : b = false := by rw [HBV.out]; rfl
        subst hbf
        rw [hmx] at d4
        clear hmx HM0
        go_wp2_with fail
        go_ret
        exact ⟨rfl, HB4.out⟩
      · have hmz : (t.mx == 0) = false := by simpa using hmx
        have hcon := rv_counts (HH.out.below HB4.out).2.2.2 t.mx HWFT.out.mx c2 HC2.out
        have HCON := Lib.hid hcon
        clear hcon HM0
        go_wp2_with fail
        refine (show Calls Tryz.prog _ _ _ _ from HCON.out).mono ?_
        rintro e w5 ⟨rfl, hb5⟩
        have HB5 := Lib.hid (below_tr HB4.out hb5)
        have HL5 := Lib.hid (HL4.out.below hb5)
        clear d4 dl HCON hb5
        cases c2 with
        | false =>
          have hbf : b = false := by rw [HBV.out]; rfl
          subst hbf
          go_wp2_with fail
          go_ret
          exact ⟨rfl, HB5.out⟩
        | true =>
          have d4 := HL5.out.cell (o := 4) rfl
          have dl := HL5.out.lt
          have hcon := rv_top (HH.out.below HB5.out).2.2.2 t.mx tp HWFT.out.mx HTP.out
          have HCON := Lib.hid hcon
          clear hcon
          go_wp2_with fail
          refine (show Calls Tryz.prog _ _ _ _ from HCON.out).mono ?_
          rintro e w6 ⟨rfl, hb6⟩
          have HB6 := Lib.hid (below_tr HB5.out hb6)
          have hcon := rv_number (HH.out.below HB6.out).2.2.2 tp v HTI.out HV.out
          have HCON2 := Lib.hid hcon
          clear hcon hb6 HCON d4 dl
          go_wp2_with fail
          refine (show Calls Tryz.prog _ _ _ _ from HCON2.out).mono ?_
          rintro e w7 ⟨rfl, hb7⟩
          have HB7 := Lib.hid (below_tr HB6.out hb7)
          clear hb7 HCON2
          have hbt : b = (decide (0 < v) && decide (v ≤ a)) := by rw [HBV.out]; rfl
          by_cases h0 : 0 < v
          · by_cases h1 : v ≤ a
            · have hbz : b = true := by rw [hbt, decide_eq_true h0, decide_eq_true h1]; rfl
              subst hbz
              clear hbt
              go_wp2_with fail
              go_ret
              exact ⟨by first | rfl | simp [h1] | simp [h0], HB7.out⟩
            · have hbz : b = false := by rw [hbt, decide_eq_true h0, decide_eq_false h1]; rfl
              subst hbz
              clear hbt
              go_wp2_with fail
              go_ret
              exact ⟨by first | rfl | simp [h1] | simp [h0], HB7.out⟩
          · have hbz : b = false := by rw [hbt, decide_eq_false h0]; rfl
            subst hbz
            clear hbt
            go_wp2_with fail
            go_ret
            exact ⟨by first | rfl | simp [h0], HB7.out⟩

end Go.Proofs.YtbgnbaogclnpgaaGreat

namespace Go.Proofs.YtbgnbaogclnpgaaGreat
open Go.RowKit Go.Shelf Go.Lib
set_option linter.unusedVariables false

/-- A row of n numbers E in block b. -/
def RowN (W : World) (b n c : Nat) (E : Nat → Int) : Prop := RowF 3 1 W (.slice (some ⟨b, 0, none⟩) n c) n (numR E)
def updE (E : Nat → Int) (i : Nat) (v : Int) : Nat → Int := fun t => if t = i then v else E t

theorem RowN.at {W : World} {b n c : Nat} {E : Nat → Int} (h : RowN W b n c E) {i : Nat} (hi : i < n) : W.cell? ⟨b, i, none⟩ = some (.int .i64 (E i)) ∧ W.frozen? ⟨b, i, none⟩ = false ∧ b < W.heap.size ∧ n ≤ c ∧ c ≤ maxLen := by
  obtain ⟨b', c', h1, h2, h3, h4, h5, h6⟩ := RowF.at h hi
  cases h1
  have := h5 i hi 0 _ rfl
  rw [Nat.mul_one, Nat.add_zero] at this
  exact ⟨this, h6 i, h4, h2, h3⟩
theorem RowN.below {W W' : World} {b n c : Nat} {E : Nat → Int} (h : RowN W b n c E) (hb : Below W.heap.size W W') : RowN W' b n c E := RowF.below h hb
theorem RowN.put {W : World} {b n c : Nat} {E : Nat → Int} (h : RowN W b n c E) {i : Nat} (hi : i < n) (v : Int) : RowN (W.setCell ⟨b, i, none⟩ (.int .i64 v)) b n c (updE E i v) := by
  refine RowF.congr (RowF.set h (j := i) (c := 0) rfl hi (by omega) (by omega) (.int .i64 v)) fun j hj => ?_
  unfold updR numR updE
  by_cases e : j = i
  · subst e
    simp
  · simp [e]
theorem RowN.zeros {b n c : Nat} : ∀ (k i : Nat) {W : World} {E : Nat → Int}, i + k ≤ n → RowN W b n c E → ∃ E', RowN (W.setCells b i (List.replicate k (.int .i64 0))) b n c E' ∧ (∀ t, t < i → E' t = E t) ∧ Touch (fun k => k = b) W (W.setCells b i (List.replicate k (.int .i64 0)))
  | 0, i, W, E, hi, h => ⟨E, h, fun _ _ => rfl, Touch.refl _ _⟩
  | k + 1, i, W, E, hi, h => by
    obtain ⟨E', h1, h2, h3⟩ := RowN.zeros k (i + 1) (by omega) (h.put (i := i) (by omega) 0)
    refine ⟨E', h1, fun t ht => ?_, (Touch.setCell W (F := fun k => k = b) rfl i _).trans h3 (fun _ _ h => h)⟩
    rw [h2 t (by omega)]
    unfold updE
    rw [if_neg (by omega)]
theorem RowN.cut {W : World} {b n c : Nat} {E : Nat → Int} (h : RowN W b n c E) {k : Nat} (hk : k ≤ n) : RowN W b k c E := row_cut h hk
theorem RowN.list {W : World} {b n c : Nat} {l : List Int} (hn : l.length = n) (h : RowI W (.slice (some ⟨b, 0, none⟩) n c) l) : RowN W b n c (fun j => l.getD j 0) := by
  subst hn
  exact h
theorem RowN.rowI {W : World} {b n c : Nat} {E : Nat → Int} (h : RowN W b n c E) {l : List Int} (hl : (List.range n).map E = l) : RowI W (.slice (some ⟨b, 0, none⟩) n c) l ∧ l.length = n := by
  subst hl
  have e : ((List.range n).map E).length = n := by simp
  refine ⟨?_, e⟩
  unfold RowI
  rw [e]
  refine RowF.congr h fun j hj => ?_
  unfold numR
  simp [hj]

/-- clear at numbers: zeros from place i on. -/
theorem clear_ints (b i n : Nat) (hn : 0 < n) (W : World) (hc : ∀ t, t < n → (W.cell? ⟨b, i + t, none⟩).isSome = true) (hf : ∀ t, t < n → W.frozen? ⟨b, i + t, none⟩ = false) :
    ∀ ty cap, (Builtin.clear_ #[49] ty #[.slice (some ⟨b, i, none⟩) n cap]).run Tryz.prog W = .ok (.tuple #[]) (W.setCells b i (List.replicate n (.int .i64 0))) := by
  have zv : (zeroValue 3).run Tryz.prog W = .ok (.int .i64 0) W := by kernel_rfl
  have uv : Tryz.prog.underlying 49 = some (.slice 3) := Tryz.underlying49
  have hl : (Builtin.zeroCells ((.int .i64 0 : Value)).cells n).toList = List.replicate n (.int .i64 0) := by
    apply List.ext_getElem
    · simp [Builtin.zeroCells, Value.cells]
    · intro k h1 h2
      simp [Builtin.zeroCells, Value.cells, Nat.mod_one]
  have ho : ∀ v ∈ List.replicate n (Value.int .i64 0), v.oneCell' = true := fun v hv => by rw [List.eq_of_mem_replicate hv]; rfl
  have hst := run_storeCells_cells (P := Tryz.prog) b i (List.replicate n (Value.int .i64 0)) 0 W (by rw [List.length_replicate]; exact hc) (by rw [List.length_replicate]; exact hf) ho
  intro ty cap
  obtain ⟨m, rfl⟩ : ∃ m, n = m + 1 := ⟨n - 1, by omega⟩
  simp only [Nat.add_zero] at hst
  rw [← hl] at hst ⊢
  simp [Builtin.clear_, run_underlying uv, zv, hst]

/-- What has been kept (of q) when j elements have been read. -/
structure KepE (q : Int → Bool) (D : Nat → Int) (n i j : Nat) (E : Nat → Int) : Prop where
  ij : i < j
  jn : j ≤ n
  kept : (List.range i).map E = ((List.range j).map D).filter q
  rest : ∀ t, j ≤ t → E t = D t
theorem mapE_upd (E : Nat → Int) (i : Nat) (v : Int) : (List.range (i + 1)).map (updE E i v) = (List.range i).map E ++ [v] := by
  rw [List.range_succ, List.map_append, List.map_singleton]
  congr 1
  · refine List.map_congr_left fun t ht => ?_
    have : t < i := by simpa using ht
    unfold updE
    rw [if_neg (by omega)]
  · unfold updE
    rw [if_pos rfl]
theorem KepE.keep {q : Int → Bool} {D : Nat → Int} {n i j : Nat} {E : Nat → Int} (h : KepE q D n i j E) (hj : j < n) (hk : q (D j) = true) : KepE q D n (i + 1) (j + 1) (updE E i (D j)) := by
  refine ⟨by have := h.ij; omega, hj, ?_, fun t ht => ?_⟩
  · rw [mapE_upd, h.kept, List.range_succ, List.map_append, List.filter_append]
    simp [hk]
  · unfold updE
    rw [if_neg (by have := h.ij; omega)]
    exact h.rest t (by omega)
theorem KepE.skip {q : Int → Bool} {D : Nat → Int} {n i j : Nat} {E : Nat → Int} (h : KepE q D n i j E) (hj : j < n) (hk : q (D j) = false) : KepE q D n i (j + 1) E := by
  refine ⟨by have := h.ij; omega, hj, ?_, fun t ht => h.rest t (by omega)⟩
  rw [h.kept, List.range_succ, List.map_append, List.filter_append]
  simp [hk]
theorem KepE.start {q : Int → Bool} {D : Nat → Int} {n k : Nat} (hk : k < n) (h1 : q (D k) = false) (h2 : ∀ t, t < k → q (D t) = true) : KepE q D n k (k + 1) D := by
  refine ⟨by omega, hk, ?_, fun t _ => rfl⟩
  rw [List.range_succ, List.map_append, List.filter_append]
  have : ((List.range k).map D).filter q = (List.range k).map D := by
    rw [List.filter_eq_self]
    intro v hv
    simp only [List.mem_map, List.mem_range] at hv
    obtain ⟨t, ht, rfl⟩ := hv
    exact h2 t ht
  rw [this]
  simp [h1]

/-- What the function answers in whatever world differs from w by the row's block alone. -/
def Asks (w : World) (b : Nat) (lb : Array Value) (q : Int → Bool) (n : Nat) (D : Nat → Int) : Prop := ∀ W, Touch (fun k => k = b) w W → ∀ t, t < n → Calls Tryz.prog 56 (#[.int .i64 (D t)] ++ lb) W fun e w' => e = .returned (.bool (!q (D t))) ∧ Below W.heap.size W w'

set_option maxRecDepth 100000 in
set_option maxHeartbeats 4000000 in
theorem indexI_is (b n c : Nat) (D : Nat → Int) (q : Int → Bool) (p0 p1 p2 p3 : Value) (w : World) (hn : n ≤ 100000) (h : RowN w b n c D) (hp : Asks w b #[p0, p1, p2, p3] q n D) :
    Calls Tryz.prog 84 #[.slice (some ⟨b, 0, none⟩) n c, .func (.func 56) #[] #[p0, p1, p2, p3]] w fun e w' => ∃ k : Int, e = .returned (.int .i64 k) ∧ Below w.heap.size w w' ∧
      ((k = -1 ∧ ∀ i, i < n → q (D i) = true) ∨ ∃ i : Nat, k = i ∧ i < n ∧ q (D i) = false ∧ ∀ j, j < i → q (D j) = true) := by
  have HR := Lib.hid h
  have HP := Lib.hid hp
  clear h hp
  go_enter Tryz.func84, Tryz.ntmps84
  go_wp2_with fail
  go_loopg [5, 8] n (fun gg s5 s8 wr => ∃ (i : Nat), s8 = .int .i64 i ∧ i ≤ n ∧ n - i ≤ gg ∧ Hid (Below w.heap.size w wr) ∧ Hid (∀ j, j < i → q (D j) = true))
  case atStart => exact ⟨0, rfl, Nat.zero_le _, by omega, Lib.hid (Below.refl _ _), Lib.hid (fun j hj => by omega)⟩
  case round =>
    obtain ⟨i, rfl, hi, hgg, HB, HQ⟩ := hrel
    by_cases hlt : i < n
    · have hltz : (i : Int) < (n : Int) := by omega
      have hr := HR.out.below HB.out
      obtain ⟨cc, -, hbl, hnc, hcm⟩ := hr.at hlt
      have HC := Lib.hid (HP.out wr (Touch.of_below HB.out) i hlt)
      have HLT := Lib.hid (And.intro hlt (And.intro hi hgg))
      obtain ⟨a, ha⟩ : ∃ a, q (D i) = a := ⟨_, rfl⟩
      have HA := Lib.hid ha
      clear hr ha hi hgg
      go_wp2_with fail
      refine HC.out.mono ?_
      rw [HA.out]
      rintro e w2 ⟨rfl, hb2⟩
      have HB2 := Lib.hid (below_tr HB.out hb2)
      clear hb2 HC cc
      cases a with
      | false =>
        go_wp2_with fail
        go_ret
        exact ⟨_, rfl, HB2.out, .inr ⟨i, rfl, hlt, HA.out, HQ.out⟩⟩
      | true =>
        go_wp2_with fail
        go_roundg (n - (i + 1))
        case measure => have := HLT.out; omega
        case rel => exact ⟨i + 1, by go_num, by have := HLT.out; omega, Nat.le_refl _, HB2, Lib.hid (fun j hj => by
          by_cases e : j = i
          · rw [e]; exact HA.out
          · exact HQ.out j (by omega))⟩
    · have hltz : ¬ (i : Int) < (n : Int) := by omega
      obtain rfl : n = i := by omega
      go_wp2_with fail
      go_ret
      exact ⟨_, rfl, HB.out, .inl ⟨rfl, HQ.out⟩⟩

set_option maxRecDepth 100000 in
set_option maxHeartbeats 4000000 in
theorem deleteN_is (b n c : Nat) (D : Nat → Int) (q : Int → Bool) (p0 p1 p2 p3 : Value) (w : World) (hn : n ≤ 100000) (h : RowN w b n c D) (hp : Asks w b #[p0, p1, p2, p3] q n D) :
    Calls Tryz.prog 54 #[.slice (some ⟨b, 0, none⟩) n c, .func (.func 56) #[] #[p0, p1, p2, p3]] w fun e w' => ∃ m E, e = .returned (.slice (some ⟨b, 0, none⟩) m c) ∧ m ≤ n ∧ (List.range m).map E = ((List.range n).map D).filter q ∧ RowN w' b m c E ∧ Touch (fun k => k = b) w w' := by
  have hI := indexI_is b n c D q p0 p1 p2 p3 w hn h hp
  have HI := Lib.hid hI
  have HR := Lib.hid h
  have HP := Lib.hid hp
  clear h hp hI
  go_enter Tryz.func54, Tryz.ntmps54
  go_wp2_with fail
  refine HI.out.mono ?_
  rintro e w1 ⟨k, rfl, hb1, ⟨rfl, hno⟩ | ⟨k0, rfl, hk0, hk1, hk2⟩⟩
  · go_wp2_with fail
    go_ret
    refine ⟨n, D, rfl, Nat.le_refl _, ?_, HR.out.below hb1, Touch.of_below hb1⟩
    symm
    rw [List.filter_eq_self]
    intro v hv
    simp only [List.mem_map, List.mem_range] at hv
    obtain ⟨t, ht, rfl⟩ := hv
    exact hno t ht
  · have hne : ((k0 : Int) == -1) = false := beq_eq_false_iff_ne.2 (by omega)
    have HK : Hid (KepE q D n k0 (k0 + 1) D) := Lib.hid (KepE.start hk0 hk1 hk2)
    have HB1 : Hid (Touch (fun k => k = b) w w1) := Lib.hid (Touch.of_below hb1)
    have HR1 := Lib.hid (HR.out.below hb1)
    obtain ⟨-, -, -, hnc, hcm⟩ := HR.out.at hk0
    clear hk1 hk2 hb1 HI
    go_wp2_with fail
    go_loopg [5, 6, 7] n (fun gg s5 s6 _ wr => ∃ (i j : Nat) (E : Nat → Int), s5 = .int .i64 i ∧ s6 = .int .i64 j ∧ n - j ≤ gg ∧ Hid (KepE q D n i j E) ∧ Hid (RowN wr b n c E) ∧ Hid (Touch (fun k => k = b) w wr))
    case atStart => exact ⟨k0, k0 + 1, D, rfl, by go_num, by omega, HK, HR1, HB1⟩
    case round =>
      obtain ⟨i, j, E, rfl, rfl, hgg, KI, RE, BE⟩ := hrel
      clear HK HR1 HB1 hne hk0
      have hij := KI.out.ij
      have hjn := KI.out.jn
      by_cases hlt : j < n
      · have hltz : (j : Int) < (n : Int) := by omega
        obtain ⟨v, hv⟩ : ∃ v, D j = v := ⟨_, rfl⟩
        have hE : E j = v := by rw [KI.out.rest j (Nat.le_refl _), hv]
        obtain ⟨cc, -, hbl, -, -⟩ := RE.out.at hlt
        rw [hE] at cc
        have hc := HP.out wr BE.out j hlt
        rw [hv] at hc
        have HC := Lib.hid hc
        have HV := Lib.hid hv
        obtain ⟨a, ha⟩ : ∃ a, q v = a := ⟨_, rfl⟩
        have HA := Lib.hid ha
        clear hv hE hc ha
        go_wp2_with fail
        refine HC.out.mono ?_
        rw [HA.out]
        rintro e w2 ⟨rfl, hb2⟩
        have HB2 := Lib.hid hb2
        clear hb2 HC cc
        cases a with
        | false =>
          go_wp2_with fail
          go_roundg (n - (j + 1))
          case measure => omega
          case rel => exact ⟨i, j + 1, E, rfl, by go_num, Nat.le_refl _, Lib.hid (KI.out.skip hlt (by rw [HV.out]; exact HA.out)), Lib.hid (RE.out.below HB2.out), Lib.hid (BE.out.trans (Touch.of_below HB2.out) (fun _ _ h => h))⟩
        | true =>
          have hr2 := RE.out.below HB2.out
          obtain ⟨dd, df, dl, -, -⟩ := hr2.at (i := i) (by omega)
          have hiz : (i : Int) < (n : Int) := by omega
          have HR2 := Lib.hid hr2
          clear hr2
          go_wp2_with fail
          go_roundg (n - (j + 1))
          case measure => omega
          case rel =>
            refine ⟨i + 1, j + 1, updE E i v, by go_num, by go_num, Nat.le_refl _, Lib.hid ?_, Lib.hid (HR2.out.put (by omega) v), Lib.hid ((BE.out.trans (Touch.of_below HB2.out) (fun _ _ h => h)).trans (Touch.setCell w2 (F := fun k => k = b) rfl i _) (fun _ _ h => h))⟩
            have := KI.out.keep hlt (by rw [HV.out]; exact HA.out)
            rwa [HV.out] at this
      · have hjn' : j = n := by omega
        have hltz : ¬ (n : Int) < (n : Int) := by omega
        subst hjn'
        have hcl := clear_ints b i (j - i) (by omega) wr (fun t ht => by rw [(RE.out.at (i := i + t) (by omega)).1]; rfl) (fun t ht => (RE.out.at (i := i + t) (by omega)).2.1)
        have hiz : (i : Int) < (j : Int) := by omega
        obtain ⟨E', z1, z2, z3⟩ := RE.out.zeros (j - i) i (by omega)
        have HZ := Lib.hid (And.intro z1 (And.intro z2 z3))
        clear z1 z2 z3
        go_wp2
        go_ret
        obtain ⟨z1, z2, z3⟩ := HZ.out
        refine ⟨i, rfl, by omega, E', ?_, z1.cut (by omega), BE.out.trans z3 (fun _ _ h => h)⟩
        rw [← KI.out.kept]
        exact List.map_congr_left fun t ht => z2 t (by simpa using ht)

end Go.Proofs.YtbgnbaogclnpgaaGreat

namespace Go.Proofs.YtbgnbaogclnpgaaGreat
open Go.RowKit
set_option linter.unusedVariables false

set_option maxRecDepth 100000 in
set_option maxHeartbeats 4000000 in
theorem ids1_is (w : World) (h z : Nat) (A : Ab) (F : Nat → Prop) (q : Option Addr) (T : Tb) (a m x y : Int) (hx : I64 x) (hy : I64 y) (hz : z ≤ 90000) (H : Std w h A z F) (hT : TV w (.pointer q) T) (b : Bool) (hb : seenB T A a m x y = b) (g0 g1 g2 g3 : Nat) (l0 : Lit w g0 25 [.pointer (some ⟨h, 0, none⟩)]) (l1 : Lit w g1 27 [.pointer q]) (l2 : Lit w g2 38 [.int .i64 a, .int .i64 m]) (l3 : Lit w g3 3 [.int .i64 x]) :
    Calls Tryz.prog 56 #[.int .i64 y, .pointer (some ⟨g0, 0, none⟩), .pointer (some ⟨g1, 0, none⟩), .pointer (some ⟨g2, 0, none⟩), .pointer (some ⟨g3, 0, none⟩)] w fun e w' => e = .returned (.bool (!b)) ∧ Below w.heap.size w w' := by
  have hcon := vseen_is w h z A F (.pointer q) T a m x y hx hy hz H hT b _ hb rfl
  unfold vw at hcon
  have HCON := Lib.hid hcon
  have c0 := l0.cell (o := 0) rfl
  have d0 := l0.lt
  have c1 := l1.cell (o := 0) rfl
  have d1 := l1.lt
  have c2 := l2.cell (o := 0) rfl
  have c3 := l2.cell (o := 1) rfl
  have d2 := l2.lt
  have c4 := l3.cell (o := 0) rfl
  have d3 := l3.lt
  clear hcon H hT hb l0 l1 l2 l3
  go_enter Tryz.func56, Tryz.ntmps56
  go_wp2_with fail
  refine HCON.out.mono ?_
  rintro e w2 ⟨rfl, hb2⟩
  have HB2 := Lib.hid hb2
  clear hb2 HCON c0 c1 c2 c3 c4 d0 d1 d2 d3
  go_wp2_with fail
  go_ret
  exact ⟨by first | rfl | simp, HB2.out⟩

set_option maxRecDepth 100000 in
theorem indexI_zero (a : Option Addr) (c : Nat) (f : Value) (w : World) :
    Calls Tryz.prog 84 #[.slice a 0 c, f] w fun e w' => e = .returned (.int .i64 (-1)) ∧ w' = w := by
  go_enter Tryz.func84, Tryz.ntmps84
  go_wp2_with fail
  go_loopg [5, 8] 0 (fun gg s5 s8 wr => s8 = .int .i64 0 ∧ wr = w)
  case atStart => exact ⟨rfl, rfl⟩
  case round =>
    obtain ⟨rfl, rfl⟩ := hrel
    go_wp2_with fail
    go_ret
    exact ⟨rfl, rfl⟩

set_option maxRecDepth 100000 in
theorem deleteN_zero (a : Option Addr) (c : Nat) (f : Value) (w : World) :
    Calls Tryz.prog 54 #[.slice a 0 c, f] w fun e w' => e = .returned (.slice a 0 c) ∧ w' = w := by
  have hI := indexI_zero a c f w
  go_enter Tryz.func54, Tryz.ntmps54
  go_wp2_with fail
  refine hI.mono ?_
  rintro e w1 ⟨rfl, rfl⟩
  go_wp2_with fail
  go_ret
  exact ⟨rfl, rfl⟩

theorem range_getD (l : List Int) : (List.range l.length).map (fun j => l.getD j 0) = l := by
  apply List.ext_getElem
  · simp
  · intro i h1 h2
    simp [h2]

set_option maxRecDepth 100000 in
set_option maxHeartbeats 4000000 in
theorem vids_is (w : World) (h z : Nat) (A : Ab) (F : Nat → Prop) (v : Value) (T : Tb) (a m x : Int) (hx : I64 x) (hz : z ≤ 90000) (H : Std w h A z F) (hT : TV w v T) :
    Calls Tryz.prog 22 #[.pointer (some ⟨h, 0, none⟩), v, vw a m, .int .i64 x] w fun e w' => ∃ s l, e = .returned s ∧ A.IsIDs x l ∧ RowI w' s (l.filter fun y => seenB T A a m x y) ∧ (∀ k, s.ownBlock = some k → w.heap.size ≤ k) ∧ Below w.heap.size w w' := by
  have mixed : Tryz.prog.follows Departure.mixedOrders = true := by kernel_rfl
  obtain ⟨q, rfl⟩ := hT.ptr
  obtain ⟨b0, hb0⟩ : ∃ b, w.heap.size = b := ⟨_, rfl⟩
  obtain ⟨V, hV⟩ : ∃ V, (((w.alloc (.cells #[.pointer (some ⟨h, 0, none⟩)] 25)).alloc (.cells #[.pointer q] 27)).alloc (.cells #[.int .i64 a, .int .i64 m] 38)).alloc (.cells #[.int .i64 x] 3) = V := ⟨_, rfl⟩
  obtain ⟨W1, hW1⟩ : ∃ W, w.alloc (.cells #[.pointer (some ⟨h, 0, none⟩)] 25) = W := ⟨_, rfl⟩
  obtain ⟨W2, hW2⟩ : ∃ W, W1.alloc (.cells #[.pointer q] 27) = W := ⟨_, rfl⟩
  obtain ⟨W3, hW3⟩ : ∃ W, W2.alloc (.cells #[.int .i64 a, .int .i64 m] 38) = W := ⟨_, rfl⟩
  have hV' : W3.alloc (.cells #[.int .i64 x] 3) = V := by rw [← hV, ← hW3, ← hW2, ← hW1]
  have s1 : W1.heap.size = b0 + 1 := by rw [← hW1, ← hb0]; simp
  have s2 : W2.heap.size = b0 + 2 := by rw [← hW2]; simp [s1]
  have s3 : W3.heap.size = b0 + 3 := by rw [← hW3]; simp [s2]
  have k1 : Below w.heap.size w W1 := by rw [← hW1]; exact Below.allocs _ _
  have k2 : Below W1.heap.size W1 W2 := by rw [← hW2]; exact Below.allocs _ _
  have k3 : Below W2.heap.size W2 W3 := by rw [← hW3]; exact Below.allocs _ _
  have k4 : Below W3.heap.size W3 V := by rw [← hV']; exact Below.allocs _ _
  have l0 : Lit V b0 25 [.pointer (some ⟨h, 0, none⟩)] := by
    have := Lit.new w 25 [.pointer (some ⟨h, 0, none⟩)]
    rw [hb0] at this
    exact (((show Lit W1 b0 _ _ by rw [← hW1]; exact this).below k2).below k3).below k4
  have l1 : Lit V (b0 + 1) 27 [.pointer q] := by
    have := Lit.new W1 27 [.pointer q]
    rw [s1] at this
    exact ((show Lit W2 (b0 + 1) _ _ by rw [← hW2]; exact this).below k3).below k4
  have l2 : Lit V (b0 + 2) 38 [.int .i64 a, .int .i64 m] := by
    have := Lit.new W2 38 [.int .i64 a, .int .i64 m]
    rw [s2] at this
    exact (show Lit W3 (b0 + 2) _ _ by rw [← hW3]; exact this).below k4
  have l3 : Lit V (b0 + 3) 3 [.int .i64 x] := by
    have := Lit.new W3 3 [.int .i64 x]
    rw [s3] at this
    rw [← hV']; exact this
  have kV := below_tr (below_tr (below_tr k1 k2) k3) k4
  have c0 := l0.cell (o := 0) rfl
  have d0 := l0.lt
  have c3 := l3.cell (o := 0) rfl
  have d3 := l3.lt
  have hids := ids_std V h A z F x hx hz (H.below kV)
  unfold ptrV at hids
  have HIDS := Lib.hid hids
  have HL := Lib.hid (And.intro l0 (And.intro l1 (And.intro l2 l3)))
  have HBV := Lib.hid kV
  have HS := Lib.hid (H.below kV)
  have HT := Lib.hid (hT.below kV)
  have HXY := Lib.hid (And.intro hx hz)
  have HSZ : Hid (b0 + 3 < V.heap.size ∧ w.heap.size = b0) := Lib.hid ⟨d3, hb0⟩
  have HVV := Lib.hid hV
  have HB0 := Lib.hid hb0
  clear l0 l1 l2 l3 kV k1 k2 k3 k4 s1 s2 s3 hV' hW1 hW2 hW3 hids H hT hx hz hV hb0
  unfold vw
  go_enter Tryz.func22, Tryz.ntmps22
  go_upto_region 1 with (fail)
  rw [HVV.out, HB0.out]
  clear HVV HB0
  go_wp2_with fail
  refine HIDS.out.mono ?_
  rintro e w1 ⟨s, rfl, l, hr, hI, hown, hb1⟩
  have hll : l.length ≤ 90000 := Nat.le_trans (ids_len hI) (Nat.le_trans HS.out.len HXY.out.2)
  have HI := Lib.hid hI
  have HOWN := Lib.hid hown
  have HB1 := Lib.hid hb1
  clear HIDS c0 c3 d0 d3
  by_cases hl0 : l = []
  · subst hl0
    obtain ⟨sa, sc, rfl, -, -⟩ := hr.form
    have HR := Lib.hid hr
    have hcon := deleteN_zero sa sc (.func (.func 56) #[] #[.pointer (some ⟨b0, 0, none⟩), .pointer (some ⟨b0 + 1, 0, none⟩), .pointer (some ⟨b0 + 2, 0, none⟩), .pointer (some ⟨b0 + 3, 0, none⟩)]) w1
    have HCON := Lib.hid hcon
    simp only [List.length_nil] at *
    clear hcon hr
    go_wp2_with fail
    refine HCON.out.mono ?_
    rintro e w2 ⟨rfl, rfl⟩
    go_wp2_with fail
    go_ret
    exact ⟨_, [], rfl, HI.out, HR.out, fun k hk => by have := HOWN.out k hk; have := HSZ.out; omega, below_tr HBV.out HB1.out⟩
  · have hpos : 0 < l.length := List.length_pos_iff.2 hl0
    obtain ⟨b, c, rfl, hc1, hc2, hbl, -, -⟩ := RowI.at hr hpos
    obtain ⟨n, hn⟩ : ∃ n, l.length = n := ⟨_, rfl⟩
    rw [hn] at hr hll ⊢
    have hbb : V.heap.size ≤ b := HOWN.out b rfl
    have hrow := RowN.list hn hr
    have hq : Asks w1 b #[.pointer (some ⟨b0, 0, none⟩), .pointer (some ⟨b0 + 1, 0, none⟩), .pointer (some ⟨b0 + 2, 0, none⟩), .pointer (some ⟨b0 + 3, 0, none⟩)] (fun y => seenB T A a m x y) n (fun j => l.getD j 0) := by
      intro W ht t htn
      have hs := HB1.out
      have hbel : Below V.heap.size V W := hs.trans (ht.below (fun k hk => by have h1 : k = b := hk; omega) hs.size)
      obtain ⟨j0, j1, j2, j3⟩ := HL.out
      have hmem : l.getD t 0 ∈ l := by
        rw [List.getD_eq_getElem?_getD, List.getElem?_eq_getElem (by omega)]
        exact List.getElem_mem _
      obtain ⟨p, hp, -, hpi⟩ := (HI.out.2 _).1 hmem
      have hy : I64 (l.getD t 0) := by rw [← hpi]; exact (HS.out.ok.wf _ hp).1.id
      exact ids1_is W h z A F q T a m x _ HXY.out.1 hy HXY.out.2 (HS.out.below hbel) (HT.out.below hbel) _ rfl b0 (b0 + 1) (b0 + 2) (b0 + 3) (j0.below hbel) (j1.below hbel) (j2.below hbel) (j3.below hbel)
    have hcon := deleteN_is b n c (fun j => l.getD j 0) (fun y => seenB T A a m x y) _ _ _ _ w1 (by omega) hrow hq
    have HCON := Lib.hid hcon
    have HLN := Lib.hid hn
    have HBB := Lib.hid hbb
    clear hcon hq hrow hr hn hl0 hpos hbb
    go_wp2_with fail
    refine HCON.out.mono ?_
    rintro e w2 ⟨m2, E, rfl, h1, h2, h3, h4⟩
    rw [← HLN.out, range_getD] at h2
    obtain ⟨r1, r2⟩ := h3.rowI h2
    have HR := Lib.hid r1
    have HT2 := Lib.hid h4
    clear h1 h2 h3 h4 r1 r2 HCON
    go_wp2_with fail
    go_ret
    exact ⟨_, l, rfl, HI.out, HR.out, fun k hk => by have := HOWN.out k hk; have := HSZ.out; omega, below_tr HBV.out (HB1.out.trans (HT2.out.below (fun k hk => by have h1 : k = b := hk; have := HBB.out; omega) HB1.out.size))⟩

end Go.Proofs.YtbgnbaogclnpgaaGreat

namespace Go.Proofs.YtbgnbaogclnpgaaGreat
open Go.RowKit
set_option linter.unusedVariables false

set_option maxRecDepth 100000 in
set_option maxHeartbeats 8000000 in
theorem ints_is (s s' : Value) (l m : List Int) (z0 : Bool) (hz : decide (l = m) = z0) (w : World) (h1 : RowI w s l) (h2 : RowI w s' m) :
    Calls Tryz.prog 23 #[s, s'] w fun e w' => e = .returned (.bool z0) ∧ Below w.heap.size w w' := by
  obtain ⟨n, hn⟩ : ∃ n, l.length = n := ⟨_, rfl⟩
  obtain ⟨k, hk⟩ : ∃ k, m.length = k := ⟨_, rfl⟩
  obtain ⟨a, c, rfl, hnc, hcm⟩ := h1.form
  obtain ⟨a', c', rfl, hnc', hcm'⟩ := h2.form
  rw [hn] at hnc h1 ⊢
  rw [hk] at hnc' h2 ⊢
  have HA := Lib.hid h1
  have HB := Lib.hid h2
  have HN := Lib.hid hn
  have HK := Lib.hid hk
  have HZ := Lib.hid hz
  have hbn : n ≤ 9223372036854775807 := by unfold maxLen at hcm; omega
  clear h1 h2 hnc hcm hnc' hcm'
  by_cases hnk : n = k
  · subst hnk
    clear hn hk hz
    go_enter Tryz.func23, Tryz.ntmps23
    go_wp2_with fail
    go_loopg [5] n (fun gg s5 wr => ∃ p : Nat, s5 = .int .i64 p ∧ p ≤ n ∧ n - p ≤ gg ∧ Hid (l.take p = m.take p) ∧ Hid (Below w.heap.size w wr))
    case atStart => exact ⟨0, rfl, Nat.zero_le _, by omega, Lib.hid rfl, Lib.hid (Below.refl _ _)⟩
    case round =>
      obtain ⟨p, rfl, hpn, hgg, HT, BW⟩ := hrel
      by_cases hlt : p < n
      · have hltz : (p : Int) < (n : Int) := by omega
        have z1 : ¬ n ≤ p := by omega
        obtain ⟨b, c1, e1, -, -, q0, q1, q2⟩ := RowI.at (l := l) (RowF.below HA.out BW.out) (j := p) (by rw [HN.out]; exact hlt)
        rw [HN.out] at e1
        cases e1
        obtain ⟨b', c2, e2, -, -, p0, p1, p2⟩ := RowI.at (l := m) (RowF.below HB.out BW.out) (j := p) (by rw [HK.out]; exact hlt)
        rw [HK.out] at e2
        cases e2
        obtain ⟨x, hx⟩ : ∃ x, l.getD p 0 = x := ⟨_, rfl⟩
        obtain ⟨y, hy⟩ : ∃ y, m.getD p 0 = y := ⟨_, rfl⟩
        have r1 := q1 p (by rw [HN.out]; exact hlt)
        have r2 := p1 p (by rw [HK.out]; exact hlt)
        rw [hx] at r1
        rw [hy] at r2
        have HX : Hid (l[p]? = some x) := Lib.hid (by rw [List.getElem?_eq_getElem (by rw [HN.out]; exact hlt), ← hx]; simp [HN.out, hlt])
        have HY : Hid (m[p]? = some y) := Lib.hid (by rw [List.getElem?_eq_getElem (by rw [HK.out]; exact hlt), ← hy]; simp [HK.out, hlt])
        clear hx hy q1 p1 q2 p2
        by_cases hxy : x = y
        · subst hxy
          go_wp2_with fail
          go_quiet (fail)
          go_wp2_with fail
          go_roundg (n - (p + 1))
          case measure => omega
          case rel => exact ⟨p + 1, by go_num, by omega, Nat.le_refl _, Lib.hid (by rw [List.take_add_one, List.take_add_one, HT.out, HX.out, HY.out]), Lib.hid (BW.out.trans ((drewN_below _ _).mono BW.out.size))⟩
        · have hq : (x == y) = false := by simpa using hxy
          obtain rfl : z0 = false := by
            rw [← HZ.out]
            refine decide_eq_false ?_
            rintro rfl
            rw [HX.out] at HY
            exact hxy (Option.some.inj HY.out)
          go_wp2_with fail
          go_quiet (fail)
          go_wp2_with fail
          go_ret
          exact ⟨rfl, BW.out.trans ((drewN_below _ _).mono BW.out.size)⟩
      · have hltz : ¬ (p : Int) < (n : Int) := by omega
        go_wp2_with fail
        go_ret
        have ht := HT.out
        rw [List.take_of_length_le (by rw [HN.out]; omega), List.take_of_length_le (by rw [HK.out]; omega)] at ht
        obtain rfl : z0 = true := by rw [← HZ.out]; exact decide_eq_true ht
        exact ⟨rfl, BW.out⟩
  · have hne : ¬ (n : Int) = (k : Int) := by omega
    have hz' : z0 = false := by rw [← hz]; exact decide_eq_false (fun e => hnk (by rw [← hn, ← hk, e]))
    subst hz'
    clear hn hk hz HZ
    go_enter Tryz.func23, Tryz.ntmps23
    go_wp2_with fail
    go_ret
    exact ⟨rfl, Below.refl _ _⟩

theorem rd_ids {w : World} {g y : Nat} {A : Ab} {T : Tb} (H : Rd w g A y T) (u : Int) :
    Calls Tryz.prog 57 #[.pointer (some ⟨g, 0, none⟩), .int .i64 u] w fun e w' => ∃ s, e = .returned s ∧ ∃ m, RowI w' s m ∧ A.IsIDs u m ∧ Below w.heap.size w w' := by
  obtain ⟨⟨z, F, ls, gs, gl, R, h1⟩, h2, h3, h4⟩ := H
  exact rids_is w g A z F ls gs gl R u h3 h1
theorem keep_take {p : Int → Bool} {l : List Int} {i : Nat} {v : Int} (h : l[i]? = some v) : (l.take (i + 1)).filter p = (l.take i).filter p ++ (if p v then [v] else []) := by
  rw [List.take_add_one, h, List.filter_append]
  congr 1
  simp only [Option.toList]
  cases e : p v <;> simp [e]

set_option maxRecDepth 100000 in
set_option maxHeartbeats 8000000 in
theorem rvids_is (w : World) (g yt : Nat) (A : Ab) (T : Tb) (a m x : Int) (H : Rd w g A yt T) :
    Calls Tryz.prog 24 #[.pointer (some ⟨g, 0, none⟩), .pointer (some ⟨yt, 0, none⟩), .agg #[.int .i64 a, .int .i64 m], .int .i64 x] w fun e w' => ∃ s l, e = .returned s ∧ A.IsIDs x l ∧ RowI w' s (l.filter fun y => seenB T A a m x y) ∧ Below w.heap.size w w' := by
  obtain ⟨bg, hbg⟩ : ∃ b, w.heap.size = b := ⟨_, rfl⟩
  obtain ⟨V, hV⟩ : ∃ V, w.alloc (.cells #[.int .i64 a, .int .i64 m] 39) = V := ⟨_, rfl⟩
  have hlv : Lit V bg 39 [.int .i64 a, .int .i64 m] := by rw [← hV, ← hbg]; exact Lit.new w _ _
  have hb0 : Below w.heap.size w V := by rw [← hV]; exact Below.allocs _ _
  have HCON := Lib.hid (rd_ids (H.below hb0) x)
  have HH := Lib.hid (H.below hb0)
  have HB0 := Lib.hid hb0
  have HLV := Lib.hid hlv
  have HBG := Lib.hid hbg
  have hz9 := H.2.2.1
  clear H hb0 hlv hbg
  go_enter Tryz.func24, Tryz.ntmps24
  go_upto_region 1 with (fail)
  rw [HBG.out]
  clear hV
  go_wp2_with fail
  refine HCON.out.mono ?_
  rintro e w1 ⟨s1, rfl, l, hr1, hI, hb1⟩
  have hll : l.length ≤ 50000 := Nat.le_trans (ids_len hI) hz9
  obtain ⟨sa0, sc0, hsf, -, -⟩ := hr1.form
  subst hsf
  obtain ⟨n, hn⟩ : ∃ n, l.length = n := ⟨_, rfl⟩
  rw [hn] at hr1 hll ⊢
  have HLN := Lib.hid hn
  have HI := Lib.hid hI
  have HR1 := Lib.hid hr1
  have HB1 := Lib.hid hb1
  clear hr1 hb1 hI hn HCON hz9
  go_wp2_with fail
  go_loopg [9, 11, 12, 13] n (fun gg s9 s11 _ _ wr => ∃ (i : Nat) (oa : Option Addr) (on oc : Nat), s9 = .slice oa on oc ∧ s11 = .int .i64 i ∧ i ≤ n ∧ n - i ≤ gg ∧ Hid (Below w1.heap.size w1 wr) ∧ Hid (RowI wr (.slice oa on oc) ((l.take i).filter fun y => seenB T A a m x y)) ∧ Hid (((l.take i).filter fun y => seenB T A a m x y).length = on) ∧ Hid (∀ k, Value.ownBlock (.slice oa on oc) = some k → w1.heap.size ≤ k))
  case atStart => exact ⟨0, none, 0, 0, rfl, rfl, Nat.zero_le _, by omega, Lib.hid (Below.refl _ _), Lib.hid (RowF.nil _ _ _ _), Lib.hid rfl, Lib.hid (fun k hk => by cases hk)⟩
  case round =>
    obtain ⟨i, oa, on, oc, rfl, rfl, hi, hgg, HB, HR, HON, HOW⟩ := hrel
    by_cases hlt : i < n
    · have hltz : (i : Int) < (n : Int) := by omega
      obtain ⟨lb, lc, hse, hc1, hc2, hlb, hcel, -⟩ := RowI.at (j := i) HR1.out (by rw [HLN.out]; exact hlt)
      rw [HLN.out] at hse hc1
      simp only [Value.slice.injEq] at hse
      obtain ⟨rfl, -, rfl⟩ := hse
      obtain ⟨yi, hyi⟩ : ∃ y, l.getD i 0 = y := ⟨_, rfl⟩
      have hyl : l[i]? = some yi := by rw [← hyi, List.getD_eq_getElem?_getD, List.getElem?_eq_getElem (by rw [HLN.out]; exact hlt)]; rfl
      have HYL := Lib.hid hyl
      have HCELL : Hid (∀ W, Below wr.heap.size wr W → W.cell? ⟨lb, i, none⟩ = some (.int .i64 yi) ∧ lb < W.heap.size) := Lib.hid (fun W hb => by
        have hbx := below_tr HB.out hb
        refine ⟨?_, Nat.lt_of_lt_of_le hlb hbx.size⟩
        have := hcel i (by rw [HLN.out]; exact hlt)
        rw [hyi] at this
        exact (hbx.cell (p := ⟨lb, i, none⟩) hlb).trans this)
      have HLT := Lib.hid (And.intro hlt (And.intro hi hgg))
      have HII : Hid ((0 : Int) ≤ (i : Int) ∧ (i : Int) < (n : Int)) := Lib.hid ⟨by omega, hltz⟩
      have HBV := Lib.hid (below_tr HB1.out HB.out)
      have HLW := Lib.hid (HLV.out.below HBV.out)
      have HHW := Lib.hid (HH.out.below HBV.out)
      obtain ⟨bb, hbb⟩ : ∃ b, seenB T A a m x yi = b := ⟨_, rfl⟩
      obtain ⟨rr, hrr⟩ : ∃ r, seenV T A a m x yi = r := ⟨_, rfl⟩
      have HBB := Lib.hid hbb
      have HRR := Lib.hid hrr
      have HON9 : Hid (on ≤ 50000) := Lib.hid (by
        rw [← HON.out]
        refine Nat.le_trans (List.length_filter_le _ _) ?_
        rw [List.length_take]
        omega)
      clear hcel hyi hyl hbb hrr hgg hi
      go_upto_region 6 with (fail)
      have hdr := below_drw wr
      try simp only [List.append_eq, List.cons_append, List.nil_append]
      refine RX.wp_region_plan (fun w w' => Below w.heap.size w w') [.it (.pointer (some ⟨g, 0, none⟩)), .it (.pointer (some ⟨yt, 0, none⟩)), .it (.agg #[.int .i64 a, .int .i64 m]), .it (.int .i64 x), .it (.slice (some ⟨lb, 0, none⟩) n sc0), .it (.int .i64 i), .it (.pointer (some ⟨lb, i, none⟩)), .it (.int .i64 yi), .it (.tuple #[.int .i64 rr, .bool bb]), .it (.tuple #[.int .i64 rr, .bool bb]), .it (.int .i64 rr), .it (.bool bb), .it (.int .i64 rr), .it (.bool bb)] (by kernel_rfl) (by kernel_rfl) (fun _ => Below.refl _ _) (fun _ _ _ => below_tr) ?_
      refine RX.seqP_value (fun _ => Below.refl _ _) _ (by first | rfl | simp) (fun w' hw' hctx => by (go_simp); (try first | with_reducible rfl | simp)) ?_
      simp only [Act.put, List.setIfInBounds_toArray, List.set_cons_zero, List.set_cons_succ]
      refine RX.seqP_value (fun _ => Below.refl _ _) _ (by first | rfl | simp) (fun w' hw' hctx => by (go_simp); (try first | with_reducible rfl | simp)) ?_
      simp only [Act.put, List.setIfInBounds_toArray, List.set_cons_zero, List.set_cons_succ]
      refine RX.seqP_value (fun _ => Below.refl _ _) _ (by first | rfl | simp) (fun w' hw' hctx => ?_) ?_
      · have v0 := (HLW.out.below (below_tr hdr hw')).cell (o := 0) rfl
        have v1 := (HLW.out.below (below_tr hdr hw')).cell (o := 1) rfl
        have vl := (HLW.out.below (below_tr hdr hw')).lt
        go_simp
        try first | with_reducible rfl | simp
      simp only [Act.put, List.setIfInBounds_toArray, List.set_cons_zero, List.set_cons_succ]
      refine RX.seqP_value (fun _ => Below.refl _ _) _ (by first | rfl | simp) (fun w' hw' hctx => by (go_simp); (try first | with_reducible rfl | simp)) ?_
      simp only [Act.put, List.setIfInBounds_toArray, List.set_cons_zero, List.set_cons_succ]
      refine RX.seqP_value (fun _ => Below.refl _ _) _ (by first | rfl | simp) (fun w' hw' hctx => by (go_simp); (try first | with_reducible rfl | simp)) ?_
      simp only [Act.put, List.setIfInBounds_toArray, List.set_cons_zero, List.set_cons_succ]
      refine RX.seqP_value (fun _ => Below.refl _ _) _ (by first | rfl | simp) (fun w' hw' hctx => by (go_simp); (try first | with_reducible rfl | simp)) ?_
      simp only [Act.put, List.setIfInBounds_toArray, List.set_cons_zero, List.set_cons_succ]
      refine RX.seqP_value (fun _ => Below.refl _ _) _ (by first | rfl | simp) (fun w' hw' hctx => ?_) ?_
      · have q1 := HII.out.1
        have q2 := HII.out.2
        go_simp
        try first | with_reducible rfl | simp
      simp only [Act.put, List.setIfInBounds_toArray, List.set_cons_zero, List.set_cons_succ]
      refine RX.seqP_value (fun _ => Below.refl _ _) _ (by first | rfl | simp) (fun w' hw' hctx => ?_) ?_
      · have cc := (HCELL.out _ (below_tr hdr hw')).1
        have cl := (HCELL.out _ (below_tr hdr hw')).2
        go_simp
        try first | with_reducible rfl | simp
      simp only [Act.put, List.setIfInBounds_toArray, List.set_cons_zero, List.set_cons_succ]
      refine RX.seqP_call (13) #[.pointer (some ⟨g, 0, none⟩), .pointer (some ⟨yt, 0, none⟩), .agg #[.int .i64 a, .int .i64 m], .int .i64 x, .int .i64 yi] (.tuple #[.int .i64 rr, .bool bb]) (by first | rfl | simp) (fun w' hw' hctx => ?_) (fun w' hw' hctx => rvseen_is w' g yt A T a m x yi (HHW.out.below (below_tr hdr hw')) bb rr HBB.out HRR.out) ?_
      · go_simp
      simp only [Act.put, List.setIfInBounds_toArray, List.set_cons_zero, List.set_cons_succ]
      refine RX.seqP_value (fun _ => Below.refl _ _) _ (by first | rfl | simp) (fun w' hw' hctx => by (go_simp); (try first | with_reducible rfl | simp)) ?_
      simp only [Act.put, List.setIfInBounds_toArray, List.set_cons_zero, List.set_cons_succ]
      refine RX.seqP_value (fun _ => Below.refl _ _) _ (by first | rfl | simp) (fun w' hw' hctx => by (go_simp); (try first | with_reducible rfl | simp)) ?_
      simp only [Act.put, List.setIfInBounds_toArray, List.set_cons_zero, List.set_cons_succ]
      refine RX.seqP_value (fun _ => Below.refl _ _) _ (by first | rfl | simp) (fun w' hw' hctx => by (go_simp); (try first | with_reducible rfl | simp)) ?_
      simp only [Act.put, List.setIfInBounds_toArray, List.set_cons_zero, List.set_cons_succ]
      refine RX.seqP_value (fun _ => Below.refl _ _) _ (by first | rfl | simp) (fun w' hw' hctx => by (go_simp); (try first | with_reducible rfl | simp)) ?_
      simp only [Act.put, List.setIfInBounds_toArray, List.set_cons_zero, List.set_cons_succ]
      refine RX.seqP_value (fun _ => Below.refl _ _) _ (by first | rfl | simp) (fun w' hw' hctx => by (go_simp); (try first | with_reducible rfl | simp)) ?_
      simp only [Act.put, List.setIfInBounds_toArray, List.set_cons_zero, List.set_cons_succ]
      refine RX.seqP_nil (fun w2 hR hctx _ => ?_)
      have hb2 := below_tr hdr hR
      clear hctx hR
      have HB2 := Lib.hid (below_tr HB.out hb2)
      have HR2 : Hid (RowI w2 (.slice oa on oc) ((l.take i).filter fun y => seenB T A a m x y)) := Lib.hid (RowF.below HR.out hb2)
      have cc := (HCELL.out w2 hb2).1
      have cl := (HCELL.out w2 hb2).2
      clear hb2 hdr HCELL HLW HHW
      cases bb with
      | true =>
        obtain ⟨a3, c3, W6, hrun, hrow, ht, ho⟩ := row_snoc 49 49 Tryz.underlying49 HR2.out yi (by rw [HON.out]; have := HON9.out; omega)
        rw [HON.out] at hrun hrow ho
        have HRUN := Lib.hid hrun
        have HE6 := Lib.hid (And.intro hrow (And.intro ht ho))
        clear hrun hrow ht ho
        go_wp2_with (first | (at_builtin; refine append_stepW rfl _ _ 49 rfl _ _ _ _ rfl rfl HRUN.out ?_) | fail)
        go_roundg (n - (i + 1))
        case measure => have := HLT.out; omega
        case rel =>
          obtain ⟨hrow, ht, ho⟩ := HE6.out
          have ef : (l.take (i + 1)).filter (fun y => seenB T A a m x y) = (l.take i).filter (fun y => seenB T A a m x y) ++ [yi] := by rw [keep_take HYL.out, HBB.out]; rfl
          exact ⟨i + 1, a3, on + 1, c3, rfl, by go_num, by have := HLT.out; omega, Nat.le_refl _, Lib.hid (HB2.out.trans (ht.below HOW.out HB2.out.size)), Lib.hid (by rw [ef]; exact hrow), Lib.hid (by rw [ef, List.length_append, HON.out]; rfl), Lib.hid (fun k hk => (ho k hk).elim (HOW.out k) (fun e => Nat.le_trans HB2.out.size e))⟩
      | false =>
        go_wp2_with fail
        go_roundg (n - (i + 1))
        case measure => have := HLT.out; omega
        case rel =>
          have ef : (l.take (i + 1)).filter (fun y => seenB T A a m x y) = (l.take i).filter (fun y => seenB T A a m x y) := by rw [keep_take HYL.out, HBB.out]; simp
          exact ⟨i + 1, oa, on, oc, rfl, by go_num, by have := HLT.out; omega, Nat.le_refl _, HB2, Lib.hid (by rw [ef]; exact HR2.out), Lib.hid (by rw [ef]; exact HON.out), HOW⟩
    · have hltz : ¬ (i : Int) < (n : Int) := by omega
      obtain rfl : n = i := by omega
      go_wp2_with fail
      go_ret
      have hfull : l.take n = l := List.take_of_length_le (by rw [HLN.out]; exact Nat.le_refl _)
      have hq := HR.out
      rw [hfull] at hq
      exact ⟨_, rfl, l, HI.out, hq, below_tr HB0.out (below_tr HB1.out HB.out)⟩

end Go.Proofs.YtbgnbaogclnpgaaGreat

namespace Go.Proofs.YtbgnbaogclnpgaaGreat
open Go.RowKit
set_option linter.unusedVariables false

theorem Duo.ref {X X' : Nat → Prop} {w0 w w' : World} {h z t : Nat} {A : Ab} {T : Tb} (H : Duo X w0 w h A z t T) (ht : Touch X w w') (hX : ∀ k, X k → w0.heap.size ≤ k) (hX' : ∀ k, X' k → X k ∨ w.heap.size ≤ k) (hl : ∀ k, X' k → k < w'.heap.size) : Duo X' w0 w' h A z t T := by
  obtain ⟨Fh, Ft, h1, h2, h3, h4, h5, h6, h7⟩ := H
  refine ⟨Fh, Ft, h1.apart ht (fun k hk hx => (h7 k hx).1 hk), h2.stay (ht.stay (fun k hk hx => (h7 k hx).2.1 hk)), h3, h4, h5, h6.trans (ht.below hX h6.size), fun k hk => ?_⟩
  rcases hX' k hk with hk' | hk'
  · exact ⟨(h7 k hk').1, (h7 k hk').2.1, hl k hk⟩
  · exact ⟨fun hf => by have := h1.lt k hf; omega, fun hf => by have := h2.lt k hf; omega, hl k hk⟩
theorem Duo.oks {X : Nat → Prop} {w0 w : World} {h z t : Nat} {A : Ab} {T : Tb} (H : Duo X w0 w h A z t T) : A.Ok ∧ A.pl.length ≤ z ∧ T.Ok := by
  obtain ⟨Fh, Ft, h1, h2, h3, h4, h5, h6, h7⟩ := H
  exact ⟨h1.ok, h1.len, h2.ok⟩

/-- The code's heap h and table t; the document's heap g and table y beside them. -/
def Qd (w0 W : World) (h : Nat) (A : Ab) (z t : Nat) (T : Tb) (g : Nat) (B : Ab) (zr y : Nat) (U : Tb) : Prop := ∃ (F Fx : Nat → Prop) (ls gs : Value) (gl : List Gvn) (R : Nat → Prop), Duo (fun k => F k ∨ Fx k) w0 W h A z t T ∧ Rf W g B zr F ls gs gl R ∧ IsR W y U Fx ∧ (∀ k, F k → w0.heap.size ≤ k ∧ ¬ Fx k) ∧ (∀ k, Fx k → w0.heap.size ≤ k)

section
variable {w0 w w' : World} {h z t g zr y : Nat} {A B B' : Ab} {T U U' : Tb}
theorem Qd.below (H : Qd w0 w h A z t T g B zr y U) (hb : Below w.heap.size w w') : Qd w0 w' h A z t T g B zr y U := by
  obtain ⟨F, Fx, ls, gs, gl, R, h1, h2, h3, h4, h5⟩ := H
  exact ⟨F, Fx, ls, gs, gl, R, h1.below hb, h2.below hb, h3.below hb, h4, h5⟩
theorem Qd.more {z' zr' : Nat} (H : Qd w0 w h A z t T g B zr y U) (h1 : z ≤ z') (h2 : zr ≤ zr') : Qd w0 w h A z' t T g B zr' y U := by
  obtain ⟨F, Fx, ls, gs, gl, R, q1, q2, q3⟩ := H
  exact ⟨F, Fx, ls, gs, gl, R, q1.more h1, q2.more h2, q3⟩
theorem Qd.bel (H : Qd w0 w h A z t T g B zr y U) : Below w0.heap.size w0 w := by
  obtain ⟨F, Fx, ls, gs, gl, R, q1, q2, q3⟩ := H
  exact q1.bel
theorem Qd.duo (H : Qd w0 w h A z t T g B zr y U) : Duo (fun _ => False) w0 w h A z t T := by
  obtain ⟨F, Fx, ls, gs, gl, R, q1, q2, q3⟩ := H
  exact q1.sub (fun _ h => h.elim)
theorem Qd.rd (H : Qd w0 w h A z t T g A zr y T) (hz : z ≤ 50000) (hn : T.n ≤ 1000) : Rd w g A y T := by
  obtain ⟨F, Fx, ls, gs, gl, R, q1, q2, q3, q4, q5⟩ := H
  have := q1.oks.2.1
  exact ⟨⟨zr, F, ls, gs, gl, R, q2⟩, q1.oks.1, by omega, Fx, q3, q1.oks.2.2, hn⟩
/-- The code's side has taken a step. -/
theorem Qd.left {A' : Ab} {T' : Tb} {z' : Nat} {P : World → Prop} (H : Qd w0 w h A z t T g B zr y U) (hc : ∀ X, Duo X w0 w h A z t T → Duo X w0 w' h A' z' t T' ∧ Stay X w w') : Qd w0 w' h A' z' t T' g B zr y U := by
  obtain ⟨F, Fx, ls, gs, gl, R, q1, q2, q3, q4, q5⟩ := H
  obtain ⟨r1, r2⟩ := hc _ q1
  have hF : Stay F w w' := ⟨r2.size, fun k hl hk => r2.block k hl (.inl hk)⟩
  have hX : Stay Fx w w' := ⟨r2.size, fun k hl hk => r2.block k hl (.inr hk)⟩
  exact ⟨F, Fx, ls, gs, gl, R, r1, q2.stay hF, q3.stay hX, q4, q5⟩
/-- The document's heap has taken a step. -/
theorem Qd.heap {F Fx F' R' : Nat → Prop} {ls gs : Value} {gl : List Gvn} {zr' : Nat} (q1 : Duo (fun k => F k ∨ Fx k) w0 w h A z t T) (q3 : IsR w y U Fx) (q4 : ∀ k, F k → w0.heap.size ≤ k ∧ ¬ Fx k) (q5 : ∀ k, Fx k → w0.heap.size ≤ k) (r1 : Rf w' g B' zr' F' ls gs gl R') (r2 : More w.heap.size F F') (r3 : Touch F w w') : Qd w0 w' h A z t T g B' zr' y U := by
  have hb := q1.bel
  have q3' : IsR w' y U Fx := q3.stay (r3.stay (fun k hk hf => (q4 k hf).2 hk))
  refine ⟨F', Fx, ls, gs, gl, R', q1.ref ((Touch.refl _ _).trans r3 (fun k _ hk => .inl hk)) (fun k hk => hk.elim (fun e => (q4 k e).1) (q5 k)) (fun k hk => hk.elim (fun e => (r2.new k e).elim (fun e => .inl (.inl e)) .inr) (fun e => .inl (.inr e))) (fun k hk => hk.elim (r1.lt k) (q3'.lt k)), r1, q3', fun k hk => ?_, q5⟩
  rcases r2.new k hk with e | e
  · exact q4 k e
  · exact ⟨Nat.le_trans hb.size e, fun hf => by have := q3.lt k hf; omega⟩
/-- The document's table has taken a step. -/
theorem Qd.table {F Fx Fx' R : Nat → Prop} {ls gs : Value} {gl : List Gvn} (q1 : Duo (fun k => F k ∨ Fx k) w0 w h A z t T) (q2 : Rf w g B zr F ls gs gl R) (q4 : ∀ k, F k → w0.heap.size ≤ k ∧ ¬ Fx k) (q5 : ∀ k, Fx k → w0.heap.size ≤ k) (r1 : IsR w' y U' Fx') (r2 : ∀ k, Fx' k → Fx k ∨ w.heap.size ≤ k) (r3 : Touch Fx w w') : Qd w0 w' h A z t T g B zr y U' := by
  have hb := q1.bel
  have q2' : Rf w' g B zr F ls gs gl R := q2.stay (r3.stay (fun k hk hf => (q4 k hk).2 hf))
  refine ⟨F, Fx', ls, gs, gl, R, q1.ref ((Touch.refl _ _).trans r3 (fun k _ hk => .inr hk)) (fun k hk => hk.elim (fun e => (q4 k e).1) (q5 k)) (fun k hk => hk.elim (fun e => .inl (.inl e)) (fun e => (r2 k e).elim (fun e => .inl (.inr e)) .inr)) (fun k hk => hk.elim (q2'.lt k) (r1.lt k)), q2', r1, fun k hk => ⟨(q4 k hk).1, fun hf => (r2 k hf).elim (q4 k hk).2 (fun e => by have := q2.lt k hk; omega)⟩, fun k hk => (r2 k hk).elim (q5 k) (fun e => Nat.le_trans hb.size e)⟩

theorem qd_begin (H : Qd w0 w h A z t T g B zr y U) (hU : U.Ok) (hn : U.n ≤ 1000) (p : Int) (hp : I64 p) :
    Calls Tryz.prog 34 #[.pointer (some ⟨y, 0, none⟩), .int .i64 p] w fun e w' => e = .returned (.tuple #[.int .i64 (U.begI p), .int .i64 (U.begE p)]) ∧ Qd w0 w' h A z t T g B zr y (U.begT p) := by
  obtain ⟨F, Fx, ls, gs, gl, R, q1, q2, q3, q4, q5⟩ := H
  refine (begR_is w y U Fx hU hn p hp q3).mono ?_
  rintro e w' ⟨F', rfl, r1, r2, r3⟩
  exact ⟨rfl, Qd.table q1 q2 q4 q5 r1 r2 r3⟩
theorem qd_commit (H : Qd w0 w h A z t T g B zr y U) (hU : U.Ok) (hn : U.n ≤ 1000) (hl : U.last ≤ 1000) (p : Int) (hp : I64 p) :
    Calls Tryz.prog 35 #[.pointer (some ⟨y, 0, none⟩), .int .i64 p] w fun e w' => e = .returned (.int .i64 (U.err p)) ∧ Qd w0 w' h A z t T g B zr y (U.comT p) := by
  obtain ⟨F, Fx, ls, gs, gl, R, q1, q2, q3, q4, q5⟩ := H
  refine (commitR_is w y U Fx hU hn hl p hp q3).mono ?_
  rintro e w' ⟨F', rfl, r1, r2, r3⟩
  exact ⟨rfl, Qd.table q1 q2 q4 q5 r1 r2 r3⟩
theorem qd_abort (H : Qd w0 w h A z t T g B zr y U) (hU : U.Ok) (hn : U.n ≤ 1000) (p : Int) (hp : I64 p) :
    Calls Tryz.prog 36 #[.pointer (some ⟨y, 0, none⟩), .int .i64 p] w fun e w' => e = .returned (.int .i64 (U.err p)) ∧ Qd w0 w' h A z t T g B zr y (U.aboT p) := by
  obtain ⟨F, Fx, ls, gs, gl, R, q1, q2, q3, q4, q5⟩ := H
  refine (abortR_is w y U Fx hU hn p hp q3).mono ?_
  rintro e w' ⟨F', rfl, r1, r2, r3⟩
  exact ⟨rfl, Qd.table q1 q2 q4 q5 r1 r2 r3⟩
theorem qd_put (H : Qd w0 w h A z t T g B zr y U) (hz : zr ≤ 40000) (hB : B.pl.length ≤ 40000) (u : Tup) (a : Option Addr) (c n : Nat) (hn : u.row.length = n) (h9 : n ≤ 1000000) (hr : SlL w a c u.row) :
    Calls Tryz.prog 37 #[.pointer (some ⟨g, 0, none⟩), tupV u (.slice a n c)] w fun e w' => e = .returned (.tuple #[.int .i64 (B.ptV u), .int .i64 (B.ptE u)]) ∧ Qd w0 w' h A z t T g (B.pt u) (zr + 1) y U := by
  obtain ⟨F, Fx, ls, gs, gl, R, q1, q2, q3, q4, q5⟩ := H
  refine (rput_is w g B zr F ls gs gl R u a c n hn h9 hz hB hr q2).mono ?_
  rintro e w' ⟨rfl, F', ls', gs', gl', R', r1, r2, r3⟩
  exact ⟨rfl, Qd.heap q1 q3 q4 q5 r1 r2 r3⟩
theorem qd_kill (H : Qd w0 w h A z t T g B zr y U) (hB : B.pl.length ≤ 40000) (hok : B.Ok) (x av cv : Int) :
    Calls Tryz.prog 38 #[.pointer (some ⟨g, 0, none⟩), .int .i64 x, .int .i64 av, .int .i64 cv] w fun e w' => e = .returned (.int .i64 (B.atE x)) ∧ Qd w0 w' h A z t T g (B.kl x av cv) zr y U := by
  obtain ⟨F, Fx, ls, gs, gl, R, q1, q2, q3, q4, q5⟩ := H
  refine (rkill_is w g B zr F ls gs gl R x av cv (by omega) hok q2).mono ?_
  rintro e w' ⟨rfl, F', ls', r1, r2, r3⟩
  exact ⟨rfl, Qd.heap q1 q3 q4 q5 r1 r2 r3⟩
theorem qd_free (H : Qd w0 w h A z t T g B zr y U) (hB : B.pl.length ≤ 40000) (hok : B.Ok) (x : Int) :
    Calls Tryz.prog 39 #[.pointer (some ⟨g, 0, none⟩), .int .i64 x] w fun e w' => e = .returned (.int .i64 (B.atE x)) ∧ Qd w0 w' h A z t T g (B.fe x) zr y U := by
  obtain ⟨F, Fx, ls, gs, gl, R, q1, q2, q3, q4, q5⟩ := H
  refine (rfree_is w g B zr F ls gs gl R x (by omega) hok q2).mono ?_
  rintro e w' ⟨rfl, F', ls', r1, r2, r3⟩
  exact ⟨rfl, Qd.heap q1 q3 q4 q5 r1 r2 r3⟩
end

set_option maxRecDepth 100000 in
set_option maxHeartbeats 4000000 in
theorem told_is {w0 w : World} {h z t g zr y : Nat} {A B : Ab} {T U : Tb} (H : Qd w0 w h A z t T g B zr y U) (hU : U.Ok) (hn : U.n ≤ 1000) (hl : U.last ≤ 1000) (hBo : B.Ok) (hB : B.pl.length ≤ 40000) (hzr : zr ≤ 40000) (s : Stq) (hs : s.wf) :
    Calls Tryz.prog 11 #[.agg #[.int .u8 s.kind, .int .i64 s.id, .int .i64 s.no, .int .i64 s.row, .int .i64 s.slot], .pointer (some ⟨g, 0, none⟩), .pointer (some ⟨y, 0, none⟩)] w fun e w' => e = .returned (.tuple #[]) ∧ Qd w0 w' h A z t T g (B.stA s) (zr + 1) y (U.stT s) := by
  obtain ⟨gb, hg⟩ : ∃ g, w.heap.size = g := ⟨_, rfl⟩
  obtain ⟨W, hW⟩ : ∃ W, w.alloc (.cells #[.int .u8 s.kind, .int .i64 s.id, .int .i64 s.no, .int .i64 s.row, .int .i64 s.slot] 34) = W := ⟨_, rfl⟩
  have hli : Lit W gb 34 [.int .u8 s.kind, .int .i64 s.id, .int .i64 s.no, .int .i64 s.row, .int .i64 s.slot] := by rw [← hW, ← hg]; exact Lit.new w _ _
  have hb : Below w.heap.size w W := by rw [← hW]; exact Below.allocs _ _
  have c0 := hli.cell (o := 0) rfl
  have c1 := hli.cell (o := 1) rfl
  have c2 := hli.cell (o := 2) rfl
  have c3 := hli.cell (o := 3) rfl
  have c4 := hli.cell (o := 4) rfl
  have cl := hli.lt
  have HD := Lib.hid (H.below hb)
  have HB := Lib.hid hb
  have HW := Lib.hid hW
  have HG := Lib.hid hg
  have HS := Lib.hid hs
  have hk0 := hs.kind.1
  clear hli hb hW hg H hs
  by_cases h0 : s.kind = 0
  · have e1 : B.stA s = B := by unfold Ab.stA; rw [if_pos (by omega)]
    have e2 : U.stT s = U.begT s.id := by unfold Tb.stT; rw [if_pos h0]
    rw [e1, e2]
    have HC := Lib.hid (qd_begin HD.out hU hn s.id HS.out.id)
    rw [h0] at c0
    clear e1 e2 h0 hk0
    go_enter Tryz.func11, Tryz.ntmps11
    go_upto_region 1 with (fail)
    rw [show w.alloc _ = W from HW.out, HG.out]
    clear HW HG
    go_wp2_with fail
    refine HC.out.mono ?_
    rintro e w1 ⟨rfl, q1⟩
    have HE := Lib.hid (q1.more (Nat.le_refl _) (show _ ≤ zr + 1 by omega))
    clear q1 HC c0 c1 c2 c3 c4 cl
    go_wp2_with fail
    go_end0
    exact ⟨rfl, HE.out⟩
  · have n0 : (s.kind == 0) = false := by simpa using h0
    by_cases h1 : s.kind = 1
    · have e1 : B.stA s = B := by unfold Ab.stA; rw [if_pos (by omega)]
      have e2 : U.stT s = U.comT s.id := by unfold Tb.stT; rw [if_neg h0, if_pos h1]
      rw [e1, e2]
      have HC := Lib.hid (qd_commit HD.out hU hn hl s.id HS.out.id)
      rw [h1] at c0
      clear e1 e2 h0 h1 hk0 n0
      go_enter Tryz.func11, Tryz.ntmps11
      go_upto_region 1 with (fail)
      rw [show w.alloc _ = W from HW.out, HG.out]
      clear HW HG
      go_wp2_with fail
      refine HC.out.mono ?_
      rintro e w1 ⟨rfl, q1⟩
      have HE := Lib.hid (q1.more (Nat.le_refl _) (show _ ≤ zr + 1 by omega))
      clear q1 HC c0 c1 c2 c3 c4 cl
      go_wp2_with fail
      go_end0
      exact ⟨rfl, HE.out⟩
    · have n1 : (s.kind == 1) = false := by simpa using h1
      by_cases h2 : s.kind = 2
      · have e1 : B.stA s = B := by unfold Ab.stA; rw [if_pos (by omega)]
        have e2 : U.stT s = U.aboT s.id := by unfold Tb.stT; rw [if_neg h0, if_neg h1, if_pos h2]
        rw [e1, e2]
        have HC := Lib.hid (qd_abort HD.out hU hn s.id HS.out.id)
        rw [h2] at c0
        clear e1 e2 h0 h1 h2 hk0 n0 n1
        go_enter Tryz.func11, Tryz.ntmps11
        go_upto_region 1 with (fail)
        rw [show w.alloc _ = W from HW.out, HG.out]
        clear HW HG
        go_wp2_with fail
        refine HC.out.mono ?_
        rintro e w1 ⟨rfl, q1⟩
        have HE := Lib.hid (q1.more (Nat.le_refl _) (show _ ≤ zr + 1 by omega))
        clear q1 HC c0 c1 c2 c3 c4 cl
        go_wp2_with fail
        go_end0
        exact ⟨rfl, HE.out⟩
      · have n2 : (s.kind == 2) = false := by simpa using h2
        have e2 : U.stT s = U := by unfold Tb.stT; rw [if_neg h0, if_neg h1, if_neg h2]
        rw [e2]
        clear e2
        by_cases h3 : s.kind = 3
        · have e1 : B.stA s = B.pt (tupR s.no s.row s.id s.id) := by unfold Ab.stA; rw [if_neg (by omega), if_pos h3]
          rw [e1]
          obtain ⟨V, hV⟩ : ∃ V, W.alloc (.cells #[.int .u8 1, .int .i64 s.id, .int .i64 0, .string ⟨#[]⟩] 82) = V := ⟨_, rfl⟩
          obtain ⟨gv, hgv⟩ : ∃ g, W.heap.size = g := ⟨_, rfl⟩
          have hbV : Below W.heap.size W V := by rw [← hV]; exact Below.allocs _ _
          have hrow : RowV V (.slice (some ⟨gv, 0, none⟩) 1 1) [valI s.id] := by rw [← hV, ← hgv]; exact lit_rowV W [valI s.id] 1 rfl (by decide)
          obtain ⟨ra, rc, hse, hsl⟩ := hrow.sl (fun x hx => by rw [List.mem_singleton.1 hx]; exact valI_wf HS.out.id)
          simp only [Value.slice.injEq, List.length_singleton] at hse
          obtain ⟨rfl, -, rfl⟩ := hse
          have hcon := qd_put (HD.out.below hbV) hzr hB (tupR s.no s.row s.id s.id) (some ⟨gv, 0, none⟩) 1 1 rfl (by omega) hsl
          unfold tupV tupR at hcon
          have HC := Lib.hid hcon
          have HBV := Lib.hid (below_tr HB.out hbV)
          have HV := Lib.hid hV
          have HGV := Lib.hid hgv
          rw [h3] at c0
          clear e1 h0 h1 h2 h3 hk0 n0 n1 n2 hcon hrow hbV hV hgv
          go_enter Tryz.func11, Tryz.ntmps11
          go_upto_region 1 with (fail)
          rw [show w.alloc _ = W from HW.out, HG.out]
          clear HW HG
          have hV := HV.out
          have hgv := HGV.out
          go_wp2_with fail
          refine HC.out.mono ?_
          rintro e w1 ⟨rfl, q1⟩
          have HE := Lib.hid (q1.more (Nat.le_refl _) (show _ ≤ zr + 1 by omega))
          clear q1 HC c0 c1 c2 c3 c4 cl hV hgv
          go_wp2_with fail
          go_end0
          exact ⟨rfl, HE.out⟩
        · have n3 : (s.kind == 3) = false := by simpa using h3
          by_cases h4 : s.kind = 4
          · have e1 : B.stA s = B.kl s.slot s.id 0 := by unfold Ab.stA; rw [if_neg (by omega), if_neg h3, if_pos h4]
            rw [e1]
            have HC := Lib.hid (qd_kill HD.out hB hBo s.slot s.id 0)
            rw [h4] at c0
            clear e1 h0 h1 h2 h3 h4 hk0 n0 n1 n2 n3
            go_enter Tryz.func11, Tryz.ntmps11
            go_upto_region 1 with (fail)
            rw [show w.alloc _ = W from HW.out, HG.out]
            clear HW HG
            go_wp2_with fail
            refine HC.out.mono ?_
            rintro e w1 ⟨rfl, q1⟩
            have HE := Lib.hid (q1.more (Nat.le_refl _) (show _ ≤ zr + 1 by omega))
            clear q1 HC c0 c1 c2 c3 c4 cl
            go_wp2_with fail
            go_end0
            exact ⟨rfl, HE.out⟩
          · have n4 : (s.kind == 4) = false := by simpa using h4
            have e1 : B.stA s = B.fe s.slot := by unfold Ab.stA; rw [if_neg (by omega), if_neg h3, if_neg h4]
            rw [e1]
            have HC := Lib.hid (qd_free HD.out hB hBo s.slot)
            clear e1 h0 h1 h2 h3 h4 hk0
            go_enter Tryz.func11, Tryz.ntmps11
            go_upto_region 1 with (fail)
            rw [show w.alloc _ = W from HW.out, HG.out]
            clear HW HG
            go_wp2_with fail
            refine HC.out.mono ?_
            rintro e w1 ⟨rfl, q1⟩
            have HE := Lib.hid (q1.more (Nat.le_refl _) (show _ ≤ zr + 1 by omega))
            clear q1 HC c0 c1 c2 c3 c4 cl
            go_wp2_with fail
            go_end0
            exact ⟨rfl, HE.out⟩

end Go.Proofs.YtbgnbaogclnpgaaGreat
