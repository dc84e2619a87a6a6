/-
  The law's own examples: awake; what is asked of nothing: KeyNames' calls.
-/
import Derived.Test.YtenpjfkiehcjlaaGreatDoorKCode4
namespace Go.Proofs.YtenpjfkiehcjlaaGreatDoor
open Go.RowKit

/-- New lists, by the number of their block. -/
theorem newLg (w : World) (g : Nat) (hg : w.heap.size = g) (l : List Val) (hw : ∀ x ∈ l, x.wf) (hl : l.length ≤ 1000000) : SlL (w.alloc (.cells (flatL l).toArray 37)) (some ⟨g, 0, none⟩) l.length l := by
  subst hg; exact newL w l hw hl

theorem newIg (w : World) (g : Nat) (hg : w.heap.size = g) (l : List Int) (hw : ∀ x ∈ l, I64 x) (hl : l.length ≤ 1000000) : SlI (w.alloc (.cells (l.map (Value.int .i64)).toArray 3)) (some ⟨g, 0, none⟩) l.length l := by
  subst hg
  refine ⟨Nat.le_refl _, by unfold maxLen; omega, fun _ => ⟨w.heap.size, 0, rfl, by simp, fun i x hx => ?_⟩, hw⟩
  rw [World.cell?_alloc_at _ _ _ _ (by simp)]
  simp [hx]

def wfB (v : Val) : Bool := decide (0 ≤ v.k ∧ v.k ≤ 255) && (decide (-9223372036854775808 ≤ v.n ∧ v.n ≤ 9223372036854775807) && (decide (-9223372036854775808 ≤ v.u ∧ v.u ≤ 9223372036854775807) && decide (v.t.size ≤ 140737488351232)))

theorem allwf {l : List Val} (h : l.all wfB = true) : ∀ x ∈ l, x.wf := by
  intro x hx
  have := List.all_eq_true.mp h x hx
  simp only [wfB, Bool.and_eq_true, decide_eq_true_eq] at this
  obtain ⟨⟨a, b⟩, c, d, e⟩ := this
  exact ⟨a, b, c, d, e⟩

theorem alli64 {l : List Int} (h : (l.all fun x => decide (-9223372036854775808 ≤ x ∧ x ≤ 9223372036854775807)) = true) : ∀ x ∈ l, I64 x := by
  intro x hx
  have := List.all_eq_true.mp h x hx
  unfold I64
  simpa using this

def vn (n : Int) : Val := ⟨1, n, 0, ⟨#[]⟩⟩
def vx : Val := ⟨3, 0, 0, ⟨#[120]⟩⟩

/-- What key.Of and key.Set hand out, as a slice. -/
theorem Own.slk {W : World} {g c k : Nat} {l : List Val} (h : Own W g l) (hk : l.length = k) (hc : k ≤ c) (hm : c ≤ 1000000) (hw : ∀ x ∈ l, x.wf) : SlL W (some ⟨g, 0, none⟩) c l := h.sl (by omega) (by unfold maxLen; omega) hw

set_option maxRecDepth 100000 in
set_option maxHeartbeats 4000000 in
theorem awake_is (w : World) : Calls Tryz.prog 5 #[] w fun e w' => e = .returned (.bool true) ∧ Below w.heap.size w w' := by
  go_enter Tryz.func5, Tryz.ntmps5
  have B0 : Hid (Below w.heap.size w w) := Lib.hid (Below.refl _ _)
  have hcon := num_is 7 w
  go_wp2_with fail
  refine (show Calls Tryz.prog _ _ _ _ from hcon).mono ?_
  rintro e w1 ⟨rfl, hb1⟩
  have B1 := Lib.hid (below_tr B0.out hb1)
  clear B0
  clear hcon hb1
  have hcon := ltext_is ⟨#[120]⟩ w1
  go_wp2_with fail
  refine (show Calls Tryz.prog _ _ _ _ from hcon).mono ?_
  rintro e w2 ⟨rfl, hb2⟩
  have B2 := Lib.hid (below_tr B1.out hb2)
  clear B1
  clear hcon hb2
  have n3 := newLg w2 (w2.heap.size) (by rfl) [vn 7, Val.zero, vx] (allwf (by decide)) (by simp)
  have n3b := Below.allocs w2 (.cells (flatL [vn 7, Val.zero, vx]).toArray 37)
  have B4 := Lib.hid (below_tr B2.out n3b)
  clear B2
  have R_4 := Lib.hid n3
  clear n3 n3b
  have n5 := newIg (w2.alloc (.cells (flatL [vn 7, Val.zero, vx]).toArray 37)) (w2.heap.size + 1) (by simp) [2, 0] (alli64 (by decide)) (by simp)
  have n5b := Below.allocs (w2.alloc (.cells (flatL [vn 7, Val.zero, vx]).toArray 37)) (.cells (([2, 0] : List Int).map (Value.int .i64)).toArray 3)
  have R_6 := Lib.hid (R_4.out.below n5b)
  have B6 := Lib.hid (below_tr B4.out n5b)
  clear R_4 B4
  have I_6 := Lib.hid n5
  clear n5 n5b
  have hcon := of_is _ _ _ _ 3 2 [vn 7, Val.zero, vx] [2, 0] rfl rfl (by decide) (by decide) _ R_6.out I_6.out
  go_wp2_with fail
  refine (show Calls Tryz.prog _ _ _ _ from hcon).mono ?_
  rintro e w3 ⟨g1, rfl, _, hO, hb3⟩
  have R_7 := Lib.hid (R_6.out.below hb3)
  have I_7 := Lib.hid (I_6.out.below hb3)
  have B7 := Lib.hid (below_tr B6.out hb3)
  clear R_6 I_6 B6
  clear hcon hb3
  have A_n3 := Lib.hid hO
  clear hO
  clear I_7
  have n8 := newIg w3 (w3.heap.size) (by rfl) [1] (alli64 (by decide)) (by simp)
  have n8b := Below.allocs w3 (.cells (([1] : List Int).map (Value.int .i64)).toArray 3)
  have R_9 := Lib.hid (R_7.out.below n8b)
  have A_9 := Lib.hid (A_n3.out.below n8b)
  have B9 := Lib.hid (below_tr B7.out n8b)
  clear R_7 A_n3 B7
  have I_9 := Lib.hid n8
  clear n8 n8b
  have hcon := of_is _ _ _ _ 3 1 [vn 7, Val.zero, vx] [1] rfl rfl (by decide) (by decide) _ R_9.out I_9.out
  go_wp2_with fail
  refine (show Calls Tryz.prog _ _ _ _ from hcon).mono ?_
  rintro e w4 ⟨g2, rfl, _, hO, hb4⟩
  have R_10 := Lib.hid (R_9.out.below hb4)
  have A_10 := Lib.hid (A_9.out.below hb4)
  have I_10 := Lib.hid (I_9.out.below hb4)
  have B10 := Lib.hid (below_tr B9.out hb4)
  clear R_9 A_9 I_9 B9
  clear hcon hb4
  have C_n4 := Lib.hid hO
  clear hO
  clear I_10
  have hcon := num_is 1 w4
  go_wp2_with fail
  refine (show Calls Tryz.prog _ _ _ _ from hcon).mono ?_
  rintro e w5 ⟨rfl, hb5⟩
  have R_11 := Lib.hid (R_10.out.below hb5)
  have A_11 := Lib.hid (A_10.out.below hb5)
  have C_11 := Lib.hid (C_n4.out.below hb5)
  have B11 := Lib.hid (below_tr B10.out hb5)
  clear R_10 A_10 C_n4 B10
  clear hcon hb5
  have hcon := num_is 2 w5
  go_wp2_with fail
  refine (show Calls Tryz.prog _ _ _ _ from hcon).mono ?_
  rintro e w6 ⟨rfl, hb6⟩
  have R_12 := Lib.hid (R_11.out.below hb6)
  have A_12 := Lib.hid (A_11.out.below hb6)
  have C_12 := Lib.hid (C_11.out.below hb6)
  have B12 := Lib.hid (below_tr B11.out hb6)
  clear R_11 A_11 C_11 B11
  clear hcon hb6
  have n13 := newLg w6 (w6.heap.size) (by rfl) [vn 1, vn 2] (allwf (by decide)) (by simp)
  have n13b := Below.allocs w6 (.cells (flatL [vn 1, vn 2]).toArray 37)
  have R_14 := Lib.hid (R_12.out.below n13b)
  have A_14 := Lib.hid (A_12.out.below n13b)
  have C_14 := Lib.hid (C_12.out.below n13b)
  have B14 := Lib.hid (below_tr B12.out n13b)
  clear R_12 A_12 C_12 B12
  have P_14 := Lib.hid n13
  clear n13 n13b
  have n15 := newIg (w6.alloc (.cells (flatL [vn 1, vn 2]).toArray 37)) (w6.heap.size + 1) (by simp) [1] (alli64 (by decide)) (by simp)
  have n15b := Below.allocs (w6.alloc (.cells (flatL [vn 1, vn 2]).toArray 37)) (.cells (([1] : List Int).map (Value.int .i64)).toArray 3)
  have R_16 := Lib.hid (R_14.out.below n15b)
  have A_16 := Lib.hid (A_14.out.below n15b)
  have C_16 := Lib.hid (C_14.out.below n15b)
  have P_16 := Lib.hid (P_14.out.below n15b)
  have B16 := Lib.hid (below_tr B14.out n15b)
  clear R_14 A_14 C_14 P_14 B14
  have I_16 := Lib.hid n15
  clear n15 n15b
  have hcon := num_is 5 ((w6.alloc (.cells (flatL [vn 1, vn 2]).toArray 37)).alloc (.cells (([1] : List Int).map (Value.int .i64)).toArray 3))
  go_wp2_with fail
  refine (show Calls Tryz.prog _ _ _ _ from hcon).mono ?_
  rintro e w7 ⟨rfl, hb7⟩
  have R_17 := Lib.hid (R_16.out.below hb7)
  have A_17 := Lib.hid (A_16.out.below hb7)
  have C_17 := Lib.hid (C_16.out.below hb7)
  have P_17 := Lib.hid (P_16.out.below hb7)
  have I_17 := Lib.hid (I_16.out.below hb7)
  have B17 := Lib.hid (below_tr B16.out hb7)
  clear R_16 A_16 C_16 P_16 I_16 B16
  clear hcon hb7
  have n18 := newLg w7 (w7.heap.size) (by rfl) [vn 5] (allwf (by decide)) (by simp)
  have n18b := Below.allocs w7 (.cells (flatL [vn 5]).toArray 37)
  have R_19 := Lib.hid (R_17.out.below n18b)
  have A_19 := Lib.hid (A_17.out.below n18b)
  have C_19 := Lib.hid (C_17.out.below n18b)
  have P_19 := Lib.hid (P_17.out.below n18b)
  have I_19 := Lib.hid (I_17.out.below n18b)
  have B19 := Lib.hid (below_tr B17.out n18b)
  clear R_17 A_17 C_17 P_17 I_17 B17
  have Q_19 := Lib.hid n18
  clear n18 n18b
  have hcon := set_is _ _ _ _ _ _ 2 1 [vn 1, vn 2] [1] [vn 5] rfl rfl rfl (by decide) (by decide) (by decide) _ P_19.out I_19.out Q_19.out
  go_wp2_with fail
  refine (show Calls Tryz.prog _ _ _ _ from hcon).mono ?_
  rintro e w8 ⟨g3, cap3, rfl, hn3, hm3, _, hO, hb8⟩
  have R_20 := Lib.hid (R_19.out.below hb8)
  have A_20 := Lib.hid (A_19.out.below hb8)
  have C_20 := Lib.hid (C_19.out.below hb8)
  have P_20 := Lib.hid (P_19.out.below hb8)
  have I_20 := Lib.hid (I_19.out.below hb8)
  have Q_20 := Lib.hid (Q_19.out.below hb8)
  have B20 := Lib.hid (below_tr B19.out hb8)
  clear R_19 A_19 C_19 P_19 I_19 Q_19 B19
  clear hcon hb8
  have S_n8 := Lib.hid hO
  clear hO
  clear P_20
  clear I_20
  clear Q_20
  have n21 := newIg w8 (w8.heap.size) (by rfl) [0, 0] (alli64 (by decide)) (by simp)
  have n21b := Below.allocs w8 (.cells (([0, 0] : List Int).map (Value.int .i64)).toArray 3)
  have R_22 := Lib.hid (R_20.out.below n21b)
  have A_22 := Lib.hid (A_20.out.below n21b)
  have C_22 := Lib.hid (C_20.out.below n21b)
  have S_22 := Lib.hid (S_n8.out.below n21b)
  have B22 := Lib.hid (below_tr B20.out n21b)
  clear R_20 A_20 C_20 S_n8 B20
  have I_22 := Lib.hid n21
  clear n21 n21b
  have hcon := of_no (some ⟨w2.heap.size, 0, none⟩) _ 3 _ 3 2 [0, 0] rfl (by decide) (by decide) _ I_22.out
  go_wp2_with fail
  refine (show Calls Tryz.prog _ _ _ _ from hcon).mono ?_
  rintro e w9 ⟨rfl, hb9⟩
  have R_23 := Lib.hid (R_22.out.below hb9)
  have A_23 := Lib.hid (A_22.out.below hb9)
  have C_23 := Lib.hid (C_22.out.below hb9)
  have S_23 := Lib.hid (S_22.out.below hb9)
  have I_23 := Lib.hid (I_22.out.below hb9)
  have B23 := Lib.hid (below_tr B22.out hb9)
  clear R_22 A_22 C_22 S_22 I_22 B22
  clear hcon hb9
  clear I_23
  clear R_23
  have hcon := ltext_is ⟨#[120]⟩ w9
  go_wp2_with fail
  refine (show Calls Tryz.prog _ _ _ _ from hcon).mono ?_
  rintro e w10 ⟨rfl, hb10⟩
  have A_24 := Lib.hid (A_23.out.below hb10)
  have C_24 := Lib.hid (C_23.out.below hb10)
  have S_24 := Lib.hid (S_23.out.below hb10)
  have B24 := Lib.hid (below_tr B23.out hb10)
  clear A_23 C_23 S_23 B23
  clear hcon hb10
  have hcon := num_is 7 w10
  go_wp2_with fail
  refine (show Calls Tryz.prog _ _ _ _ from hcon).mono ?_
  rintro e w11 ⟨rfl, hb11⟩
  have A_25 := Lib.hid (A_24.out.below hb11)
  have C_25 := Lib.hid (C_24.out.below hb11)
  have S_25 := Lib.hid (S_24.out.below hb11)
  have B25 := Lib.hid (below_tr B24.out hb11)
  clear A_24 C_24 S_24 B24
  clear hcon hb11
  have n26 := newLg w11 (w11.heap.size) (by rfl) [vx, vn 7] (allwf (by decide)) (by simp)
  have n26b := Below.allocs w11 (.cells (flatL [vx, vn 7]).toArray 37)
  have A_27 := Lib.hid (A_25.out.below n26b)
  have C_27 := Lib.hid (C_25.out.below n26b)
  have S_27 := Lib.hid (S_25.out.below n26b)
  have B27 := Lib.hid (below_tr B25.out n26b)
  clear A_25 C_25 S_25 B25
  have P_27 := Lib.hid n26
  clear n26 n26b
  have hcon := same4_is (some ⟨g1, 0, none⟩) _ 2 _ 2 2 [vx, vn 7] [vx, vn 7] true rfl rfl (by decide +kernel) _ (A_27.out.slk (k := 2) rfl (by decide) (by decide) (allwf (by decide))) P_27.out
  go_wp2_with fail
  refine (show Calls Tryz.prog _ _ _ _ from hcon).mono ?_
  rintro e w12 ⟨rfl, hb12⟩
  have A_28 := Lib.hid (A_27.out.below hb12)
  have C_28 := Lib.hid (C_27.out.below hb12)
  have S_28 := Lib.hid (S_27.out.below hb12)
  have P_28 := Lib.hid (P_27.out.below hb12)
  have B28 := Lib.hid (below_tr B27.out hb12)
  clear A_27 C_27 S_27 P_27 B27
  clear hcon hb12
  clear P_28
  have hcon := whole_is (some ⟨g1, 0, none⟩) 2 2 [vx, vn 7] true rfl (by decide) (by decide) _ (A_28.out.slk (k := 2) rfl (by decide) (by decide) (allwf (by decide)))
  go_wp2_with fail
  refine (show Calls Tryz.prog _ _ _ _ from hcon).mono ?_
  rintro e w13 ⟨rfl, hb13⟩
  have A_29 := Lib.hid (A_28.out.below hb13)
  have C_29 := Lib.hid (C_28.out.below hb13)
  have S_29 := Lib.hid (S_28.out.below hb13)
  have B29 := Lib.hid (below_tr B28.out hb13)
  clear A_28 C_28 S_28 B28
  clear hcon hb13
  clear A_29
  have hcon := whole_is (some ⟨g2, 0, none⟩) 1 1 [Val.zero] false rfl (by decide) (by decide) _ (C_29.out.slk (k := 1) rfl (by decide) (by decide) (allwf (by decide)))
  go_wp2_with fail
  refine (show Calls Tryz.prog _ _ _ _ from hcon).mono ?_
  rintro e w14 ⟨rfl, hb14⟩
  have C_30 := Lib.hid (C_29.out.below hb14)
  have S_30 := Lib.hid (S_29.out.below hb14)
  have B30 := Lib.hid (below_tr B29.out hb14)
  clear C_29 S_29 B29
  clear hcon hb14
  clear C_30
  have hcon := num_is 1 w14
  go_wp2_with fail
  refine (show Calls Tryz.prog _ _ _ _ from hcon).mono ?_
  rintro e w15 ⟨rfl, hb15⟩
  have S_31 := Lib.hid (S_30.out.below hb15)
  have B31 := Lib.hid (below_tr B30.out hb15)
  clear S_30 B30
  clear hcon hb15
  have hcon := num_is 5 w15
  go_wp2_with fail
  refine (show Calls Tryz.prog _ _ _ _ from hcon).mono ?_
  rintro e w16 ⟨rfl, hb16⟩
  have S_32 := Lib.hid (S_31.out.below hb16)
  have B32 := Lib.hid (below_tr B31.out hb16)
  clear S_31 B31
  clear hcon hb16
  have n33 := newLg w16 (w16.heap.size) (by rfl) [vn 1, vn 5] (allwf (by decide)) (by simp)
  have n33b := Below.allocs w16 (.cells (flatL [vn 1, vn 5]).toArray 37)
  have S_34 := Lib.hid (S_32.out.below n33b)
  have B34 := Lib.hid (below_tr B32.out n33b)
  clear S_32 B32
  have P_34 := Lib.hid n33
  clear n33 n33b
  have hcon := same4_is (some ⟨g3, 0, none⟩) _ cap3 _ 2 2 [vn 1, vn 5] [vn 1, vn 5] true rfl rfl (by decide +kernel) _ (S_34.out.sl (by rw [length_setL]; exact hn3) hm3 (allwf (by decide))) P_34.out
  go_wp2_with fail
  refine (show Calls Tryz.prog _ _ _ _ from hcon).mono ?_
  rintro e w17 ⟨rfl, hb17⟩
  have S_35 := Lib.hid (S_34.out.below hb17)
  have P_35 := Lib.hid (P_34.out.below hb17)
  have B35 := Lib.hid (below_tr B34.out hb17)
  clear S_34 P_34 B34
  clear hcon hb17
  clear P_35
  clear S_35
  have hcon := num_is 7 w17
  go_wp2_with fail
  refine (show Calls Tryz.prog _ _ _ _ from hcon).mono ?_
  rintro e w18 ⟨rfl, hb18⟩
  have B36 := Lib.hid (below_tr B35.out hb18)
  clear B35
  clear hcon hb18
  have hcon := ltext_is ⟨#[120]⟩ w18
  go_wp2_with fail
  refine (show Calls Tryz.prog _ _ _ _ from hcon).mono ?_
  rintro e w19 ⟨rfl, hb19⟩
  have B37 := Lib.hid (below_tr B36.out hb19)
  clear B36
  clear hcon hb19
  have n38 := newLg w19 (w19.heap.size) (by rfl) [vn 7, vx] (allwf (by decide)) (by simp)
  have n38b := Below.allocs w19 (.cells (flatL [vn 7, vx]).toArray 37)
  have B39 := Lib.hid (below_tr B37.out n38b)
  clear B37
  have P_39 := Lib.hid n38
  clear n38 n38b
  have n40 := newIg (w19.alloc (.cells (flatL [vn 7, vx]).toArray 37)) (w19.heap.size + 1) (by simp) [0] (alli64 (by decide)) (by simp)
  have n40b := Below.allocs (w19.alloc (.cells (flatL [vn 7, vx]).toArray 37)) (.cells (([0] : List Int).map (Value.int .i64)).toArray 3)
  have P_41 := Lib.hid (P_39.out.below n40b)
  have B41 := Lib.hid (below_tr B39.out n40b)
  clear P_39 B39
  have I_41 := Lib.hid n40
  clear n40 n40b
  have hcon := num_is 7 ((w19.alloc (.cells (flatL [vn 7, vx]).toArray 37)).alloc (.cells (([0] : List Int).map (Value.int .i64)).toArray 3))
  go_wp2_with fail
  refine (show Calls Tryz.prog _ _ _ _ from hcon).mono ?_
  rintro e w20 ⟨rfl, hb20⟩
  have P_42 := Lib.hid (P_41.out.below hb20)
  have I_42 := Lib.hid (I_41.out.below hb20)
  have B42 := Lib.hid (below_tr B41.out hb20)
  clear P_41 I_41 B41
  clear hcon hb20
  have n43 := newLg w20 (w20.heap.size) (by rfl) [vn 7] (allwf (by decide)) (by simp)
  have n43b := Below.allocs w20 (.cells (flatL [vn 7]).toArray 37)
  have P_44 := Lib.hid (P_42.out.below n43b)
  have I_44 := Lib.hid (I_42.out.below n43b)
  have B44 := Lib.hid (below_tr B42.out n43b)
  clear P_42 I_42 B42
  have Q_44 := Lib.hid n43
  clear n43 n43b
  have hcon := refers_is _ _ _ _ _ _ 2 1 1 [vn 7, vx] [0] [vn 7] true rfl rfl rfl (by decide) (by decide) (by decide) (by decide +kernel) _ P_44.out I_44.out Q_44.out
  go_wp2_with fail
  refine (show Calls Tryz.prog _ _ _ _ from hcon).mono ?_
  rintro e w21 ⟨rfl, hb21⟩
  have P_45 := Lib.hid (P_44.out.below hb21)
  have I_45 := Lib.hid (I_44.out.below hb21)
  have Q_45 := Lib.hid (Q_44.out.below hb21)
  have B45 := Lib.hid (below_tr B44.out hb21)
  clear P_44 I_44 Q_44 B44
  clear hcon hb21
  go_wp2_with fail
  go_ret
  exact ⟨rfl, B45.out⟩

end Go.Proofs.YtenpjfkiehcjlaaGreatDoor
