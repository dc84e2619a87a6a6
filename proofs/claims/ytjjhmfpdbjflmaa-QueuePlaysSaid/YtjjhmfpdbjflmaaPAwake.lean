/-
  The examples (stage 14).
-/
import Derived.Test.YtjjhmfpdbjflmaaPPlay
namespace Go.Proofs.Ytjjhmfpdbjflmaa
open Go.RowKit
set_option linter.unusedVariables false

def exL : List Stp := [⟨1, 1, false⟩, ⟨2, 1, false⟩, ⟨3, 2, false⟩, ⟨4, 1, false⟩, ⟨1, 2, false⟩]
def exC : List Value := [.int .i64 1, .int .u8 1, .bool false, .int .i64 2, .int .u8 1, .bool false, .int .i64 3, .int .u8 2, .bool false, .int .i64 4, .int .u8 1, .bool false, .int .i64 1, .int .u8 2, .bool false]
def exY (i : Nat) : List Value := [.bool (decide (0 < i)), .bool (decide (1 < i)), .bool false, .bool false, .bool false]
def exA (i : Nat) : Lk := (Lk.new 2).play (exL.take i)

set_option maxRecDepth 100000 in
set_option maxHeartbeats 8000000 in
theorem awake_is (w : World) : Calls Try.prog 8 #[] w fun e w' => e = .returned (.bool true) ∧ Below w.heap.size w w' := by
  have HN := Lib.hid (new_q 2 w (.inr rfl))
  go_enter Try.func8, Try.ntmps8
  go_wp2_with fail
  refine HN.out.mono ?_
  rintro e w1 ⟨h, rfl, h1, hb1⟩
  have hq : Qu (fun k => False ∨ k = w1.heap.size ∨ k = w1.heap.size + 1) w.heap.size ((w1.alloc (.cells (exY 0).toArray 53)).alloc (.cells exC.toArray 32)) h 0 (exA 0) :=
    h1.apart (Y := fun k => k = w1.heap.size ∨ k = w1.heap.size + 1) (fun k hk => by omega) (by simp [World.size_alloc]; omega) (fun k hk => by simp [World.size_alloc]; omega) (below_tr (Below.allocs _ _) (Below.allocs _ _))
  have hl1 := (Lit.new w1 53 (exY 0)).below (Below.allocs _ (.cells exC.toArray 32))
  have hl2 := Lit.new (w1.alloc (.cells (exY 0).toArray 53)) 32 exC
  have hb2 : Below w.heap.size w ((w1.alloc (.cells (exY 0).toArray 53)).alloc (.cells exC.toArray 32)) := below_tr hb1 (below_tr (Below.allocs _ _) (Below.allocs _ _))
  rw [World.size_alloc] at hl2
  obtain ⟨W2, hW2⟩ : ∃ W, (w1.alloc (.cells (exY 0).toArray 53)).alloc (.cells exC.toArray 32) = W := ⟨_, rfl⟩
  obtain ⟨gy, hgy⟩ : ∃ g, w1.heap.size = g := ⟨_, rfl⟩
  rw [hW2, hgy] at hq hl1
  rw [hW2, hgy] at hl2
  rw [hW2] at hb2
  have HGY : Hid (w.heap.size ≤ gy) := Lib.hid (by rw [← hgy]; exact hb1.size)
  have HI := Lib.hid (And.intro hq (And.intro hl1 (And.intro hl2 hb2)))
  have hW3 : (w1.alloc (.cells #[.bool false, .bool false, .bool false, .bool false, .bool false] 53)).alloc (.cells #[.int .i64 1, .int .u8 1, .bool false, .int .i64 2, .int .u8 1, .bool false, .int .i64 3, .int .u8 2, .bool false, .int .i64 4, .int .u8 1, .bool false, .int .i64 1, .int .u8 2, .bool false] 32) = W2 := by rw [← hW2]; rfl
  have HW2 := Lib.hid hW3
  have HGE := Lib.hid hgy
  clear hb1 h1 HN hq hl1 hl2 hb2 hW2 hW3 hgy
  go_wp2_with fail
  rw [HW2.out, HGE.out]
  clear HW2 HGE
  go_loopg [21] 5 (fun gg s21 wr => ∃ (i : Nat), s21 = .int .i64 i ∧ i ≤ 5 ∧ 5 - i ≤ gg ∧ Hid (Qu (fun k => False ∨ k = gy ∨ k = gy + 1) w.heap.size wr h i (exA i) ∧ Lit wr gy 53 (exY i) ∧ Lit wr (gy + 1) 32 exC ∧ Below w.heap.size w wr))
  case atStart => exact ⟨0, rfl, Nat.zero_le _, by omega, HI⟩
  case round =>
    obtain ⟨i, rfl, hi, hgg, HJ⟩ := hrel
    clear HI
    by_cases hlt : i < 5
    · obtain ⟨st, hst⟩ : ∃ st, exL[i]? = some st := ⟨_, List.getElem?_eq_getElem hlt⟩
      have c0 : wr.cell? ⟨gy + 1, i * 3, none⟩ = some (.int .i64 st.who) := HJ.out.2.2.1.cell (by rcases (show i = 0 ∨ i = 1 ∨ i = 2 ∨ i = 3 ∨ i = 4 by omega) with rfl | rfl | rfl | rfl | rfl <;> cases hst <;> rfl)
      have c1 : wr.cell? ⟨gy + 1, i * 3 + 1, none⟩ = some (.int .u8 st.mode) := HJ.out.2.2.1.cell (by rcases (show i = 0 ∨ i = 1 ∨ i = 2 ∨ i = 3 ∨ i = 4 by omega) with rfl | rfl | rfl | rfl | rfl <;> cases hst <;> rfl)
      have c2 : wr.cell? ⟨gy + 1, i * 3 + 2, none⟩ = some (.bool st.drop) := HJ.out.2.2.1.cell (by rcases (show i = 0 ∨ i = 1 ∨ i = 2 ∨ i = 3 ∨ i = 4 by omega) with rfl | rfl | rfl | rfl | rfl <;> cases hst <;> rfl)
      have cl := HJ.out.2.2.1.lt
      have hltz : (i : Int) < 5 := by omega
      have HLT := Lib.hid (And.intro hlt (And.intro hi (And.intro hgg hst)))
      clear hi hgg hst
      go_wp2_with fail
      obtain ⟨W3, hW3⟩ : ∃ W, wr.alloc (.cells #[.int .i64 st.who, .int .u8 st.mode, .bool st.drop] 32) = W := ⟨_, rfl⟩
      have ha : Below wr.heap.size wr W3 := by rw [← hW3]; exact Below.allocs _ _
      rw [hW3]
      have hbd : I64 st.who ∧ U8 st.mode := by
        have hst := HLT.out.2.2.2
        unfold I64 U8
        rcases (show i = 0 ∨ i = 1 ∨ i = 2 ∨ i = 3 ∨ i = 4 by omega) with rfl | rfl | rfl | rfl | rfl <;> cases hst <;> decide
      obtain ⟨bv, hbv⟩ : ∃ bv, (exA i).askB st.who st.mode = bv := ⟨_, rfl⟩
      have hbe : (exA i).askE st.who st.mode = 0 := by
        have hst := HLT.out.2.2.2
        rcases (show i = 0 ∨ i = 1 ∨ i = 2 ∨ i = 3 ∨ i = 4 by omega) with rfl | rfl | rfl | rfl | rfl <;> cases hst <;> decide +kernel
      have hn1 : (exA i).ask st.who st.mode = exA (i + 1) := by
        have hst := HLT.out.2.2.2
        rcases (show i = 0 ∨ i = 1 ∨ i = 2 ∨ i = 3 ∨ i = 4 by omega) with rfl | rfl | rfl | rfl | rfl <;> cases hst <;> rfl
      have hn2 : (exY i).set i (.bool bv) = exY (i + 1) := by
        have hst := HLT.out.2.2.2
        have e : (exA i).askB st.who st.mode = decide (i < 2) := by
          rcases (show i = 0 ∨ i = 1 ∨ i = 2 ∨ i = 3 ∨ i = 4 by omega) with rfl | rfl | rfl | rfl | rfl <;> cases hst <;> decide +kernel
        rw [← hbv, e]
        clear e
        rcases (show i = 0 ∨ i = 1 ∨ i = 2 ∨ i = 3 ∨ i = 4 by omega) with rfl | rfl | rfl | rfl | rfl <;> cases hst <;> rfl
      have hq3 := HJ.out.1.below ha
      have hcon := ask_q (w := W3) st.who st.mode hbd.1 hbd.2 (by omega) hq3
      rw [hbv, hbe, hn1] at hcon
      have HC := Lib.hid hcon
      have HK := Lib.hid (And.intro (HJ.out.2.1.below ha) (And.intro (HJ.out.2.2.1.below ha) (And.intro (below_tr HJ.out.2.2.2 ha) (And.intro hn2 hq3.nw))))
      clear hW3 ha hbd hbv hbe hn1 hn2 hq3 hcon c0 c1 c2 cl HJ
      refine HC.out.mono ?_
      rintro e w4 ⟨rfl, h4, ht4⟩
      have hst4 := ht4.stay (G := fun k => k = gy ∨ k = gy + 1) (fun k hk hf => hf.2 (.inr hk))
      have hy4 := HK.out.1.stay hst4 (.inl rfl)
      have hs4 := HK.out.2.1.stay hst4 (.inr rfl)
      have hb4 : Below w.heap.size w w4 := HK.out.2.2.1.trans (ht4.below (fun k hk => hk.1) HK.out.2.2.2.2)
      have y0 : ∃ v0, w4.cell? ⟨gy, i, none⟩ = some v0 := by
        have hx : i < (exY i).length := HLT.out.1
        exact ⟨_, hy4.cell (List.getElem?_eq_getElem hx)⟩
      obtain ⟨v0, y0⟩ := y0
      have yl := hy4.lt
      have yf := hy4.fz i
      have HE := Lib.hid (And.intro h4 (And.intro hy4 (And.intro hs4 hb4)))
      clear hst4 hy4 hs4 hb4 h4 ht4 HC
      go_wp2_with fail
      go_roundg (5 - (i + 1))
      case measure => have := HLT.out; omega
      case rel =>
        have hts := Touch.setCell w4 (F := fun k => k = gy) rfl i (.bool bv)
        have hg := HGY.out
        exact ⟨i + 1, by go_num, by have := HLT.out; omega, Nat.le_refl _, Lib.hid ⟨HE.out.1.stay (hts.stay (fun k hk e => hk.2 (.inr (.inl e)))), by rw [← HK.out.2.2.2.1]; exact HE.out.2.1.set i _, HE.out.2.2.1.stay (hts.stay (G := fun k => k = gy + 1) (fun k hk e => by have e : k = gy := e; have hk : k = gy + 1 := hk; omega)) rfl, HE.out.2.2.2.trans (hts.below (fun k e => by have e : k = gy := e; omega) HE.out.2.2.2.size)⟩⟩
    · have hi5 : i = 5 := by omega
      subst hi5
      clear hi hgg hlt
      have HA := Lib.hid (for_q 1 (by omega) HJ.out.1)
      have hltz : ¬ (5 : Int) < 5 := by omega
      go_wp2_with fail
      refine HA.out.mono ?_
      rintro e w3 ⟨v, rfl, hr3, ho3, hb3⟩
      have hr3 : RowI w3 v [2] := by
        have e : (exA 5).whom 1 = [2] := by decide +kernel
        rw [e] at hr3; exact hr3
      have hq3 := HJ.out.1.apart (Y := fun k => v.ownBlock = some k) ho3 hb3.size (fun k hk => hr3.lt k hk) hb3
      have HD := Lib.hid (drop_q 2 (by unfold I64; decide) (by omega) hq3)
      have HY3 := Lib.hid (HJ.out.2.1.below hb3)
      have HB3 := Lib.hid (below_tr HJ.out.2.2.2 hb3)
      have HR3 := Lib.hid hr3
      have HN3 := Lib.hid hq3.nw
      clear hr3 ho3 hb3 hq3 HA HJ
      go_wp2_with fail
      refine HD.out.mono ?_
      rintro e w4 ⟨g, rfl, hr4, ho4, hq4, ht4⟩
      have hr4 : RowI w4 g [1] := by
        have e : (exA 5).dropG 2 = [1] := by decide +kernel
        rw [e] at hr4; exact hr4
      have hst4 := ht4.stay (G := fun k => k = gy ∨ v.ownBlock = some k) (fun k hk hf => hf.2 (hk.elim (fun e => .inl (.inr (.inl e))) (fun e => .inr e)))
      have hy4 := HY3.out.stay hst4 (.inl rfl)
      have HR3' : Hid (RowI w4 v [2]) := Lib.hid (RowF.stay HR3.out hst4 (fun k hk => .inr hk))
      have HR4 := Lib.hid hr4
      have HB4 : Hid (Below w.heap.size w w4) := Lib.hid (HB3.out.trans (ht4.below (fun k hk => hk.1) HN3.out))
      have HQ4 := Lib.hid hq4
      have e2 : Lk.dropE 2 = 0 := by decide +kernel
      have y0 : w4.cell? ⟨gy, 0, none⟩ = some (.bool true) := hy4.cell rfl
      have y1 : w4.cell? ⟨gy, 1, none⟩ = some (.bool true) := hy4.cell rfl
      have y2 : w4.cell? ⟨gy, 2, none⟩ = some (.bool false) := hy4.cell rfl
      have y3 : w4.cell? ⟨gy, 3, none⟩ = some (.bool false) := hy4.cell rfl
      have y4 : w4.cell? ⟨gy, 4, none⟩ = some (.bool false) := hy4.cell rfl
      have yl := hy4.lt
      rw [e2]
      clear hr4 ho4 hq4 ht4 hst4 hy4 HD HR3 HB3 HY3 e2
      have heq : ∀ W, (Op.equalIn 10000 53 (.agg #[.bool true, .bool true, .bool false, .bool false, .bool false]) (.agg #[.bool true, .bool true, .bool false, .bool false, .bool false])).run Try.prog W = .ok true W := fun _ => by kernel_rfl
      go_wp2_with fail
      have hal := Below.allocs w4 (.cells #[.int .i64 2] 3)
      refine (show Calls Try.prog _ _ _ _ from ints_is _ _ [2] [2] true (by decide) _ (RowF.below HR3'.out hal) (lit_rowI _ [2] 1 rfl (by unfold maxLen; omega))).mono ?_
      rintro e w5 ⟨rfl, hbx⟩
      have hbz := below_tr hal hbx
      clear hal hbx
      have HR5 : Hid (RowI w5 g [1]) := Lib.hid (RowF.below HR4.out hbz)
      have HB5 := Lib.hid (below_tr HB4.out hbz)
      have HQ5 := Lib.hid (HQ4.out.below hbz)
      clear hbz HR4 HB4 HQ4 HR3' y0 y1 y2 y3 y4 yl
      go_wp2_with fail
      have hal := Below.allocs w5 (.cells #[.int .i64 1] 3)
      refine (show Calls Try.prog _ _ _ _ from ints_is _ _ [1] [1] true (by decide) _ (RowF.below HR5.out hal) (lit_rowI _ [1] 1 rfl (by unfold maxLen; omega))).mono ?_
      rintro e w6 ⟨rfl, hbx⟩
      have hbz := below_tr hal hbx
      clear hal hbx
      have HB6 := Lib.hid (below_tr HB5.out hbz)
      have HC := Lib.hid (row_q (by omega) (HQ5.out.below hbz))
      clear hbz HR5 HB5 HQ5
      go_wp2_with fail
      refine HC.out.mono ?_
      rintro e w7 ⟨v7, rfl, hr7, -, hb7⟩
      have hr7 : RowI w7 v7 [3, 4] := by
        have e : fsts ((exA 5).drop 2).wt = [3, 4] := by decide +kernel
        rw [e] at hr7; exact hr7
      have HR7 := Lib.hid hr7
      have HB7 := Lib.hid (below_tr HB6.out hb7)
      clear hr7 hb7 HB6 HC
      go_wp2_with fail
      have hal := Below.allocs w7 (.cells #[.int .i64 3, .int .i64 4] 3)
      refine (show Calls Try.prog _ _ _ _ from ints_is _ _ [3, 4] [3, 4] true (by decide) _ (RowF.below HR7.out hal) (lit_rowI _ [3, 4] 2 rfl (by unfold maxLen; omega))).mono ?_
      rintro e w8 ⟨rfl, hbx⟩
      have hbz := below_tr hal hbx
      clear hal hbx
      have HB8 := Lib.hid (below_tr HB7.out hbz)
      clear hbz
      go_wp2_with fail
      go_ret
      exact ⟨rfl, HB8.out⟩

end Go.Proofs.Ytjjhmfpdbjflmaa
