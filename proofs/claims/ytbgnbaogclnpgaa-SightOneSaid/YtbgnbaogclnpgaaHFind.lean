/-
  find, Len, New, At, Kill: walked (stage 11).
-/
import Derived.Test.YtbgnbaogclnpgaaHClone
import Derived.Test.YtbgnbaogclnpgaaHTake
import Derived.Deep.DeepCutAuto
namespace Go.Proofs.Ytbgnbaogclnpgaa
open Go.RowKit
set_option linter.unusedVariables false

section
variable {w : World} {h : Nat} {s f m : Value} {L : Nat → Lab} {n : Nat} {tup : Nat → Option Tup} {tp : Nat → Nat}

theorem SlP.cell (hs : SlP w L s n tup tp) {i : Nat} (hi : i < n) : ∃ b c, s = .slice (some ⟨b, 0, none⟩) n c ∧ n ≤ c ∧ c ≤ maxLen ∧ b < w.heap.size ∧ w.cell? ⟨b, i, none⟩ = some (ptrO (tup i) (tp i)) ∧ w.frozen? ⟨b, i, none⟩ = false := by
  obtain ⟨b, c, h1, h2, h3, h4, h5, h6⟩ := hs.row.at hi
  exact ⟨b, c, h1, h2, h3, h4, by have := h5 i hi 0 _ rfl; rwa [Nat.mul_one, Nat.add_zero] at this, h6 i⟩
end

set_option maxRecDepth 100000 in
set_option maxHeartbeats 4000000 in
theorem find_in (w : World) (h : Nat) (s f m : Value) (L : Nat → Lab) (n : Nat) (tup : Nat → Option Tup) (tp : Nat → Nat) (i : Nat) (t : Tup) (hl : Lit w h 75 [s, f, m]) (hs : SlP w L s n tup tp) (hi : i < n) (ht : tup i = some t) (hn : n ≤ 1000000) :
    Calls Try.prog 33 #[ptrV h, .int .i64 i] w fun e w' => e = .returned (.tuple #[ptrV (tp i), .int .i64 0]) ∧ w' = w := by
  obtain ⟨b, c, rfl, hnc, hcm, hbl, hc, _⟩ := hs.cell hi
  rw [ht] at hc
  have c0 := hl.cell (o := 0) rfl
  have hhl := hl.lt
  have h0 : ¬ (i : Int) < 0 := by omega
  have h1 : ¬ (n : Int) ≤ (i : Int) := by omega
  have h2 : (i : Int) < (n : Int) := by omega
  have h3 : (0 : Int) ≤ (i : Int) := by omega
  unfold ptrO ptrV at hc
  unfold ptrV
  clear hl hs ht hnc hcm hi hn
  go_enter Try.func33, Try.ntmps33
  go_wp2_with fail
  go_ret2
  exact ⟨rfl, rfl⟩

set_option maxRecDepth 100000 in
set_option maxHeartbeats 4000000 in
theorem find_no (w : World) (h : Nat) (s f m : Value) (L : Nat → Lab) (n : Nat) (tup : Nat → Option Tup) (tp : Nat → Nat) (x : Int) (hl : Lit w h 75 [s, f, m]) (hs : SlP w L s n tup tp) (hx : ∀ i : Nat, x = i → i < n → tup i = none) (hn : n ≤ 1000000) :
    Calls Try.prog 33 #[ptrV h, .int .i64 x] w fun e w' => e = .returned (.tuple #[.pointer none, .int .i64 1]) ∧ w' = w := by
  obtain ⟨a, c, hsl, hnc, hcm⟩ := hs.row.form
  have c0 := hl.cell (o := 0) rfl
  rw [hsl] at c0
  have hhl := hl.lt
  unfold ptrV
  by_cases h0 : x < 0
  · clear hl hs hx hn hnc hcm hsl
    go_enter Try.func33, Try.ntmps33
    go_wp2_with fail
    go_ret2
    exact ⟨rfl, rfl⟩
  · by_cases h1 : (n : Int) ≤ x
    · clear hl hs hx hn hnc hcm hsl
      go_enter Try.func33, Try.ntmps33
      go_wp2_with fail
      go_ret2
      exact ⟨rfl, rfl⟩
    · obtain ⟨i, rfl⟩ : ∃ i : Nat, x = i := ⟨x.toNat, by omega⟩
      have hi : i < n := by omega
      obtain ⟨b, c', e, _, _, hbl, hc, _⟩ := hs.cell hi
      rw [hx i rfl hi] at hc
      unfold ptrO at hc
      rw [hsl] at e
      cases e
      have h2 : (i : Int) < (n : Int) := by omega
      have h3 : (0 : Int) ≤ (i : Int) := by omega
      clear hl hs hx hn hnc hcm hi hsl
      go_enter Try.func33, Try.ntmps33
      go_wp2_with fail
      go_ret2
      exact ⟨rfl, rfl⟩

theorem find_nil (w : World) (x : Int) : Calls Try.prog 33 #[.pointer none, .int .i64 x] w fun e w' => e = .returned (.tuple #[.pointer none, .int .i64 2]) ∧ w' = w := by
  go_enter Try.func33, Try.ntmps33
  go_wp2_with fail
  go_ret2
  exact ⟨rfl, rfl⟩

set_option maxRecDepth 100000 in
theorem len_is (w : World) (h : Nat) (M : Hp) (z : Nat) (L : Nat → Lab) (hz : z ≤ 100000) (H : HpM w h M z L) (k : Int) (hk : (M.n : Int) - M.fn = k) :
    Calls Try.prog 87 #[ptrV h] w fun e w' => e = .returned (.int .i64 k) ∧ Below w.heap.size w w' := by
  obtain ⟨s, f, m, tp, hl, hs, hf, -⟩ := H.ex
  obtain ⟨a, c, rfl, -, -⟩ := hs.row.form
  obtain ⟨a', c', rfl, -, -⟩ := hf.row.form
  have c0 := hl.cell (o := 0) rfl
  have c1 := hl.cell (o := 1) rfl
  have hhl := hl.lt
  have hw : wrap64 ((M.n : Int) - M.fn) = k := by rw [hk]; exact wrOk (by have := H.nz; have := H.fz; omega)
  unfold ptrV
  clear hl hs hf H hk
  go_enter Try.func87, Try.ntmps87
  go_wp2_with fail
  go_quiet (fail)
  go_wp2_with fail
  go_ret
  exact ⟨by show Ending.returned (.int .i64 (wrap64 ((M.n : Int) - M.fn))) = _; rw [hw], drewN_below _ _⟩

theorem len_nil (w : World) : Calls Try.prog 87 #[.pointer none] w fun e w' => e = .returned (.int .i64 0) ∧ w' = w := by
  go_enter Try.func87, Try.ntmps87
  go_wp2_with fail
  go_ret
  exact ⟨rfl, rfl⟩

set_option maxRecDepth 100000 in
theorem inRange_is (w : World) (x : Int) (b : Bool) (hb : (decide (1 ≤ x) && decide (x ≤ 2147483647)) = b) : Calls Try.prog 43 #[.int .i64 x] w fun e w' => e = .returned (.bool b) ∧ w' = w := by
  by_cases h1 : 1 ≤ x
  · rw [decide_eq_true h1, Bool.true_and] at hb
    go_enter Try.func43, Try.ntmps43
    go_wp2_with fail
    go_ret
    exact ⟨by rw [← hb]; rfl, rfl⟩
  · rw [decide_eq_false h1, Bool.false_and] at hb
    subst hb
    go_enter Try.func43, Try.ntmps43
    go_wp2_with fail
    go_ret
    exact ⟨rfl, rfl⟩

/-- New. -/
theorem new_is (w : World) : Calls Try.prog 7 #[] w fun e w' => e = .returned (ptrV w.heap.size) ∧ w' = w.alloc (.cells #[.slice none 0 0, .slice none 0 0, .map none] 75) := by
  go_enter Try.func7, Try.ntmps7
  go_wp2_with fail
  go_ret
  exact ⟨rfl, rfl⟩

def noHp : Hp := ⟨0, fun _ => none, 0, fun _ => 0, fun _ => none⟩
theorem new_hp (w : World) : HpM (w.alloc (.cells #[.slice none 0 0, .slice none 0 0, .map none] 75)) w.heap.size noHp 0 (setL (fun _ => .no) w.heap.size .hp) := by
  refine ⟨fun k hk => ?_, setL_same _ _ _, Nat.le_refl _, Nat.le_refl _, .slice none 0 0, .slice none 0 0, .map none, fun _ => 0, Lit.new w _ _, ⟨RowF.nil _ _ _ _, fun k hk => (by cases hk), fun i t hi => absurd hi (Nat.not_lt_zero i)⟩, ⟨RowF.nil _ _ _ _, fun k hk => (by cases hk)⟩, .inl ⟨rfl, fun _ => rfl⟩⟩
  by_cases e : k = w.heap.size
  · subst e; simp
  · rw [setL_ne _ _ e] at hk; exact absurd rfl hk

/-! ### At, Kill -/

/-- All seven cells of a version are written. -/
def put7 (W : World) (g : Nat) (t : Tup) (s : Value) : World :=
  ((((((W.setCell ⟨g, 0, none⟩ (.int .i64 t.no)).setCell ⟨g, 1, none⟩ (.int .i64 t.id)).setCell ⟨g, 2, none⟩ (.int .i64 t.mn)).setCell ⟨g, 3, none⟩ (.int .i64 t.cm)).setCell ⟨g, 4, none⟩ (.int .i64 t.mx)).setCell ⟨g, 5, none⟩ (.int .i64 t.cx)).setCell ⟨g, 6, none⟩ s

theorem lit_put7 {W : World} {g : Nat} {e : TypeId} {u0 u1 u2 u3 u4 u5 u6 : Value} (h : Lit W g e [u0, u1, u2, u3, u4, u5, u6]) (t : Tup) (s : Value) : Lit (put7 W g t s) g e (tupC t s) := ((((((h.set 0 _).set 1 _).set 2 _).set 3 _).set 4 _).set 5 _).set 6 s
theorem touch_put7 (W : World) (g : Nat) (t : Tup) (s : Value) : Touch (fun k => k = g) W (put7 W g t s) :=
  ((((((Touch.setCell _ (F := fun k => k = g) rfl _ _).trans (Touch.setCell _ (F := fun k => k = g) rfl _ _) (fun _ _ h => h)).trans (Touch.setCell _ (F := fun k => k = g) rfl _ _) (fun _ _ h => h)).trans (Touch.setCell _ (F := fun k => k = g) rfl _ _) (fun _ _ h => h)).trans (Touch.setCell _ (F := fun k => k = g) rfl _ _) (fun _ _ h => h)).trans (Touch.setCell _ (F := fun k => k = g) rfl _ _) (fun _ _ h => h)).trans (Touch.setCell _ (F := fun k => k = g) rfl _ _) (fun _ _ h => h)

def tup0 : Tup := ⟨0, 0, 0, 0, 0, 0, []⟩

set_option maxRecDepth 100000 in
set_option maxHeartbeats 4000000 in
theorem at_is (w : World) (h : Nat) (s f m : Value) (L : Nat → Lab) (n : Nat) (tup : Nat → Option Tup) (tp : Nat → Nat) (i : Nat) (t : Tup) (hw : t.wf) (hl : Lit w h 75 [s, f, m]) (hs : SlP w L s n tup tp) (hi : i < n) (ht : tup i = some t) (hn : n ≤ 1000000) :
    Calls Try.prog 17 #[ptrV h, .int .i64 i] w fun e w' => ∃ s', e = .returned (.tuple #[tupV t s', .bool true]) ∧ RowV w' s' t.row ∧ (∀ k, s'.ownBlock = some k → w.heap.size ≤ k) ∧ Below w.heap.size w w' := by
  obtain ⟨-, s0, h1, h2, -⟩ := hs.at' i t hi ht
  obtain ⟨W1, hW1⟩ : ∃ W1, w.alloc (.cells #[.int .i64 0, .int .i64 0, .int .i64 0, .int .i64 0, .int .i64 0, .int .i64 0, .slice none 0 0] 61) = W1 := ⟨_, rfl⟩
  obtain ⟨g, hg⟩ : ∃ g, w.heap.size = g := ⟨_, rfl⟩
  have hb1 : Below w.heap.size w W1 := by rw [← hW1]; exact Below.allocs _ _
  have hg1 : Lit W1 g 61 [.int .i64 0, .int .i64 0, .int .i64 0, .int .i64 0, .int .i64 0, .int .i64 0, .slice none 0 0] := by rw [← hW1, ← hg]; exact Lit.new w _ _
  have hcon := find_in W1 h s f m L n tup tp i t (hl.below hb1) (hs.stay (Stay.of_below (G := fun _ => True) hb1) (fun _ _ => trivial)) hi ht hn
  have hcon2 := clone_is W1 (tp i) t s0 hw (h1.below hb1) (h2.below hb1)
  have HB1 := Lib.hid hb1
  have HG1 := Lib.hid hg1
  have HW1 := Lib.hid hW1
  have HG := Lib.hid hg
  unfold ptrV at hcon hcon2 ⊢
  clear hl hs hi ht hn hw hb1 hg1 h1 h2 hW1 hg
  go_enter Try.func17, Try.ntmps17
  go_upto_region 1 with (fail)
  rw [HW1.out, HG.out]
  clear HW1
  go_wp2_with fail
  refine hcon.mono ?_
  rintro e w1 ⟨rfl, rfl⟩
  clear hcon
  go_wp2_with fail
  refine hcon2.mono ?_
  rintro e w2 ⟨g', s', rfl, hv, hb2⟩
  clear hcon2
  obtain ⟨a', c', rfl, -, -⟩ := hv.row.form
  obtain ⟨k', hk'⟩ : ∃ k', t.row.length = k' := ⟨_, rfl⟩
  rw [hk'] at hv
  obtain ⟨c0, c1, c2, c3, c4, c5, c6, hgl⟩ := cells7 hv.lit
  have hg2 := HG1.out.below hb2
  obtain ⟨d0, d1, d2, d3, d4, d5, d6, hgl2⟩ : w2.cell? ⟨g, 0, none⟩ = some (.int .i64 0) ∧ w2.cell? ⟨g, 1, none⟩ = some (.int .i64 0) ∧ w2.cell? ⟨g, 2, none⟩ = some (.int .i64 0) ∧ w2.cell? ⟨g, 3, none⟩ = some (.int .i64 0) ∧ w2.cell? ⟨g, 4, none⟩ = some (.int .i64 0) ∧ w2.cell? ⟨g, 5, none⟩ = some (.int .i64 0) ∧ w2.cell? ⟨g, 6, none⟩ = some (.slice none 0 0) ∧ g < w2.heap.size :=
    ⟨hg2.cell rfl, hg2.cell rfl, hg2.cell rfl, hg2.cell rfl, hg2.cell rfl, hg2.cell rfl, hg2.cell rfl, hg2.lt⟩
  have z0 := hg2.fz 0
  have z1 := hg2.fz 1
  have z2 := hg2.fz 2
  have z3 := hg2.fz 3
  have z4 := hg2.fz 4
  have z5 := hg2.fz 5
  have z6 := hg2.fz 6
  have HV := Lib.hid hv
  have HB2 := Lib.hid hb2
  have he := lit_put7 hg2 t (.slice a' k' c')
  have ht7 := touch_put7 w2 g t (.slice a' k' c')
  have HEND : Hid (RowV (put7 w2 g t (.slice a' k' c')) (.slice a' k' c') t.row ∧ (∀ k, Value.ownBlock (.slice a' k' c') = some k → w.heap.size ≤ k) ∧ Below w.heap.size w (put7 w2 g t (.slice a' k' c'))) := Lib.hid (by
    have hgs := HG.out
    have h1 := HB1.out.size
    have hgl := HG1.out.lt
    refine ⟨hv.row.stay (ht7.stay (G := fun k => k ≠ g) (fun k hk e => hk e)) (fun k hk => by have := (hv.own k hk).1; omega), fun k hk => by have := (hv.own k hk).1; omega, ?_⟩
    exact (below_tr HB1.out hb2).trans (ht7.below (fun k hk => by omega) (by have := hb2.size; omega)))
  have HR := Lib.hid (cells7 he)
  unfold put7 at HEND HR
  clear hv hb2 hg2 he ht7
  go_wp2_with fail
  obtain ⟨r0, r1, r2, r3, r4, r5, r6, -⟩ := HR.out
  exact bodyPost_ret (v := .tuple #[tupV t (.slice a' k' c'), .bool true]) (by simp [results, Try.results17, tupV, go_sem, r0, r1, r2, r3, r4, r5, r6]) rfl ⟨_, rfl, HEND.out⟩

theorem at_end {w W1 : World} {g : Nat} (hb1 : Below w.heap.size w W1) (hg : w.heap.size = g) (hg1 : Lit W1 g 61 [.int .i64 0, .int .i64 0, .int .i64 0, .int .i64 0, .int .i64 0, .int .i64 0, .slice none 0 0]) :
    Below w.heap.size w (put7 W1 g tup0 (.slice none 0 0)) := hb1.trans ((touch_put7 W1 g tup0 (.slice none 0 0)).below (fun k hk => by omega) hb1.size)

set_option maxRecDepth 100000 in
set_option maxHeartbeats 4000000 in
theorem at_none (w : World) (hv : Value) (x : Int) (err : Int) (herr : (err != 0) = true)
    (hf : ∀ W, Below w.heap.size w W → Calls Try.prog 33 #[hv, .int .i64 x] W fun e w' => e = .returned (.tuple #[.pointer none, .int .i64 err]) ∧ w' = W) :
    Calls Try.prog 17 #[hv, .int .i64 x] w fun e w' => e = .returned (.tuple #[tupV tup0 (.slice none 0 0), .bool false]) ∧ Below w.heap.size w w' := by
  obtain ⟨W1, hW1⟩ : ∃ W1, w.alloc (.cells #[.int .i64 0, .int .i64 0, .int .i64 0, .int .i64 0, .int .i64 0, .int .i64 0, .slice none 0 0] 61) = W1 := ⟨_, rfl⟩
  obtain ⟨g, hg⟩ : ∃ g, w.heap.size = g := ⟨_, rfl⟩
  have hb1 : Below w.heap.size w W1 := by rw [← hW1]; exact Below.allocs _ _
  have hg2 : Lit W1 g 61 [.int .i64 0, .int .i64 0, .int .i64 0, .int .i64 0, .int .i64 0, .int .i64 0, .slice none 0 0] := by rw [← hW1, ← hg]; exact Lit.new w _ _
  have hcon := hf W1 hb1
  obtain ⟨d0, d1, d2, d3, d4, d5, d6, hgl2⟩ : W1.cell? ⟨g, 0, none⟩ = some (.int .i64 0) ∧ W1.cell? ⟨g, 1, none⟩ = some (.int .i64 0) ∧ W1.cell? ⟨g, 2, none⟩ = some (.int .i64 0) ∧ W1.cell? ⟨g, 3, none⟩ = some (.int .i64 0) ∧ W1.cell? ⟨g, 4, none⟩ = some (.int .i64 0) ∧ W1.cell? ⟨g, 5, none⟩ = some (.int .i64 0) ∧ W1.cell? ⟨g, 6, none⟩ = some (.slice none 0 0) ∧ g < W1.heap.size :=
    ⟨hg2.cell rfl, hg2.cell rfl, hg2.cell rfl, hg2.cell rfl, hg2.cell rfl, hg2.cell rfl, hg2.cell rfl, hg2.lt⟩
  have z0 := hg2.fz 0
  have z1 := hg2.fz 1
  have z2 := hg2.fz 2
  have z3 := hg2.fz 3
  have z4 := hg2.fz 4
  have z5 := hg2.fz 5
  have z6 := hg2.fz 6
  have he := lit_put7 hg2 tup0 (.slice none 0 0)
  have HEND := Lib.hid (at_end hb1 hg hg2)
  have HR := Lib.hid (cells7 he)
  unfold put7 at HEND HR
  have HW1 := Lib.hid hW1
  have HG := Lib.hid hg
  clear he hb1 hg2 hW1 hg hf
  go_enter Try.func17, Try.ntmps17
  go_upto_region 1 with (fail)
  rw [HW1.out, HG.out]
  clear HW1 HG
  go_wp2_with fail
  refine hcon.mono ?_
  rintro e w1 ⟨rfl, rfl⟩
  clear hcon
  go_wp2_with fail
  obtain ⟨r0, r1, r2, r3, r4, r5, r6, -⟩ := HR.out
  unfold tup0 at r0 r1 r2 r3 r4 r5 r6 HEND
  exact bodyPost_ret (v := .tuple #[tupV tup0 (.slice none 0 0), .bool false]) (by simp [results, Try.results17, tupV, tup0, go_sem, r0, r1, r2, r3, r4, r5, r6]) rfl ⟨rfl, HEND.out⟩

end Go.Proofs.Ytbgnbaogclnpgaa
