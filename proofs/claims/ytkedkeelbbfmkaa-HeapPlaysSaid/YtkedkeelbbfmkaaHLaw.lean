/-
  The laws' own helpers of stage 11: Ints, tuple, puts; one heap that is newer than the call's world.
-/
import Derived.Test.YtkedkeelbbfmkaaHStd
namespace Go.Proofs.Ytkedkeelbbfmkaa
open Go.RowKit
set_option linter.unusedVariables false

/-- A literal of numbers. -/
theorem lit_rowI (W : World) (l : List Int) (n : Nat) (hn : l.length = n) (hm : n ≤ maxLen) : RowI (W.alloc (.cells (l.map (Value.int .i64)).toArray 3)) (.slice (some ⟨W.heap.size, 0, none⟩) n n) l := by
  subst hn
  refine RowI.of_own (base := 0) ?_
  have := World.ownsRow_lit (e := 3) (size := 1) (base := 0) W (l.map (Value.int .i64)).toArray l.length (Nat.zero_le _) hm (by simp)
  simpa using this

set_option maxRecDepth 100000 in
set_option maxHeartbeats 1000000 in
theorem ints_is (s s' : Value) (l m : List Int) (z0 : Bool) (hz : decide (l = m) = z0) (w : World) (h1 : RowI w s l) (h2 : RowI w s' m) :
    Calls Try.prog 25 #[s, s'] w fun e w' => e = .returned (.bool z0) ∧ Below w.heap.size w w' := by
  obtain ⟨n, hn⟩ : ∃ n, l.length = n := ⟨_, rfl⟩
  obtain ⟨k, hk⟩ : ∃ k, m.length = k := ⟨_, rfl⟩
  obtain ⟨a, c, rfl, hnc, hcm⟩ := h1.form
  obtain ⟨a', c', rfl, hnc', hcm'⟩ := h2.form
  rw [hn] at hnc h1 ⊢
  rw [hk] at hnc' h2 ⊢
  have HA := Lib.hid h1
  have HB := Lib.hid h2
  have HN := Lib.hid hn
  have HK := Lib.hid hk
  have HZ := Lib.hid hz
  have hbn : n ≤ 9223372036854775807 := by unfold maxLen at hcm; omega
  clear h1 h2 hnc hcm hnc' hcm'
  by_cases hnk : n = k
  · subst hnk
    clear hn hk hz
    go_enter Try.func25, Try.ntmps25
    go_wp2_with fail
    go_loopg [5] n (fun gg s5 wr => ∃ p : Nat, s5 = .int .i64 p ∧ p ≤ n ∧ n - p ≤ gg ∧ Hid (l.take p = m.take p) ∧ Hid (Below w.heap.size w wr))
    case atStart => exact ⟨0, rfl, Nat.zero_le _, by omega, Lib.hid rfl, Lib.hid (Below.refl _ _)⟩
    case round =>
      obtain ⟨p, rfl, hpn, hgg, HT, BW⟩ := hrel
      by_cases hlt : p < n
      · have hltz : (p : Int) < (n : Int) := by omega
        have z1 : ¬ n ≤ p := by omega
        obtain ⟨b, c1, e1, -, -, q0, q1, q2⟩ := RowI.at (l := l) (RowF.below HA.out BW.out) (j := p) (by rw [HN.out]; exact hlt)
        rw [HN.out] at e1
        cases e1
        obtain ⟨b', c2, e2, -, -, p0, p1, p2⟩ := RowI.at (l := m) (RowF.below HB.out BW.out) (j := p) (by rw [HK.out]; exact hlt)
        rw [HK.out] at e2
        cases e2
        obtain ⟨x, hx⟩ : ∃ x, l.getD p 0 = x := ⟨_, rfl⟩
        obtain ⟨y, hy⟩ : ∃ y, m.getD p 0 = y := ⟨_, rfl⟩
        have r1 := q1 p (by rw [HN.out]; exact hlt)
        have r2 := p1 p (by rw [HK.out]; exact hlt)
        rw [hx] at r1
        rw [hy] at r2
        have HX : Hid (l[p]? = some x) := Lib.hid (by rw [List.getElem?_eq_getElem (by rw [HN.out]; exact hlt), ← hx]; simp [HN.out, hlt])
        have HY : Hid (m[p]? = some y) := Lib.hid (by rw [List.getElem?_eq_getElem (by rw [HK.out]; exact hlt), ← hy]; simp [HK.out, hlt])
        clear hx hy q1 p1 q2 p2
        by_cases hxy : x = y
        · subst hxy
          go_wp2_with fail
          go_quiet (fail)
          go_wp2_with fail
          go_roundg (n - (p + 1))
          case measure => omega
          case rel => exact ⟨p + 1, by go_num, by omega, Nat.le_refl _, Lib.hid (by rw [List.take_add_one, List.take_add_one, HT.out, HX.out, HY.out]), Lib.hid (BW.out.trans ((drewN_below _ _).mono BW.out.size))⟩
        · have hq : (x == y) = false := by simpa using hxy
          obtain rfl : z0 = false := by
            rw [← HZ.out]
            refine decide_eq_false ?_
            rintro rfl
            rw [HX.out] at HY
            exact hxy (Option.some.inj HY.out)
          go_wp2_with fail
          go_quiet (fail)
          go_wp2_with fail
          go_ret
          exact ⟨rfl, BW.out.trans ((drewN_below _ _).mono BW.out.size)⟩
      · have hltz : ¬ (p : Int) < (n : Int) := by omega
        go_wp2_with fail
        go_ret
        have ht := HT.out
        rw [List.take_of_length_le (by rw [HN.out]; omega), List.take_of_length_le (by rw [HK.out]; omega)] at ht
        obtain rfl : z0 = true := by rw [← HZ.out]; exact decide_eq_true ht
        exact ⟨rfl, BW.out⟩
  · have hne : ¬ (n : Int) = (k : Int) := by omega
    have hz' : z0 = false := by rw [← hz]; exact decide_eq_false (fun e => hnk (by rw [← hn, ← hk, e]))
    subst hz'
    clear hn hk hz HZ
    go_enter Try.func25, Try.ntmps25
    go_wp2_with fail
    go_ret
    exact ⟨rfl, Below.refl _ _⟩

/-! ### tuple, puts -/

def tup2 (x y : Int) : Tup := ⟨x, y, 3, 0, 0, 0, []⟩
theorem i64_3 : I64 3 := by unfold I64; omega

theorem tup2_wf {x y : Int} (hx : I64 x) (hy : I64 y) : (tup2 x y).wf := ⟨hx, hy, i64_3, i64_0, i64_0, i64_0, fun v hv => (by cases hv), Nat.zero_le _⟩

set_option maxRecDepth 100000 in
set_option maxHeartbeats 4000000 in
theorem tuple_is (x y : Int) (w : World) : Calls Try.prog 11 #[.int .i64 x, .int .i64 y] w fun e w' => e = .returned (tupV (tup2 x y) (.slice none 0 0)) ∧ Below w.heap.size w w' := by
  obtain ⟨W1, hW1⟩ : ∃ W1, w.alloc (.cells #[.int .i64 0, .int .i64 0, .int .i64 0, .int .i64 0, .int .i64 0, .int .i64 0, .slice none 0 0] 28) = W1 := ⟨_, rfl⟩
  obtain ⟨g, hg⟩ : ∃ g, w.heap.size = g := ⟨_, rfl⟩
  have hb1 : Below w.heap.size w W1 := by rw [← hW1]; exact Below.allocs _ _
  have hg2 : Lit W1 g 28 [.int .i64 0, .int .i64 0, .int .i64 0, .int .i64 0, .int .i64 0, .int .i64 0, .slice none 0 0] := by rw [← hW1, ← hg]; exact Lit.new w _ _
  obtain ⟨d0, d1, d2, d3, d4, d5, d6, hgl2⟩ : W1.cell? ⟨g, 0, none⟩ = some (.int .i64 0) ∧ W1.cell? ⟨g, 1, none⟩ = some (.int .i64 0) ∧ W1.cell? ⟨g, 2, none⟩ = some (.int .i64 0) ∧ W1.cell? ⟨g, 3, none⟩ = some (.int .i64 0) ∧ W1.cell? ⟨g, 4, none⟩ = some (.int .i64 0) ∧ W1.cell? ⟨g, 5, none⟩ = some (.int .i64 0) ∧ W1.cell? ⟨g, 6, none⟩ = some (.slice none 0 0) ∧ g < W1.heap.size :=
    ⟨hg2.cell rfl, hg2.cell rfl, hg2.cell rfl, hg2.cell rfl, hg2.cell rfl, hg2.cell rfl, hg2.cell rfl, hg2.lt⟩
  have z0 := hg2.fz 0
  have z1 := hg2.fz 1
  have z2 := hg2.fz 2
  have z3 := hg2.fz 3
  have z4 := hg2.fz 4
  have z5 := hg2.fz 5
  have z6 := hg2.fz 6
  have he := lit_put7 hg2 (tup2 x y) (.slice none 0 0)
  have HEND := Lib.hid (hb1.trans ((touch_put7 W1 g (tup2 x y) (.slice none 0 0)).below (fun k hk => by omega) hb1.size))
  have HR := Lib.hid (cells7 he)
  unfold put7 at HEND HR
  have HW1 := Lib.hid hW1
  have HG := Lib.hid hg
  clear he hb1 hg2 hW1 hg
  go_enter Try.func11, Try.ntmps11
  go_upto_region 1 with (fail)
  rw [HW1.out, HG.out]
  clear HW1 HG
  go_wp2_with fail
  obtain ⟨r0, r1, r2, r3, r4, r5, r6, -⟩ := HR.out
  unfold tup2 at r0 r1 r2 r3 r4 r5 r6 HEND
  exact bodyPost_ret (v := tupV (tup2 x y) (.slice none 0 0)) (by simp [results, Try.results11, tupV, tup2, go_sem, r0, r1, r2, r3, r4, r5, r6]) rfl ⟨rfl, HEND.out⟩

set_option maxRecDepth 100000 in
set_option maxHeartbeats 4000000 in
theorem puts_is (w : World) (h : Nat) (A : Ab) (z : Nat) (F : Nat → Prop) (t : Tup) (s : Value) (slot : Int) (hv : A.ptV t = slot) (he : A.ptE t = 0) (hz : z ≤ 90000) (hw : t.wf) (hr : RowV w s t.row) (H : Std w h A z F) :
    Calls Try.prog 23 #[ptrV h, tupV t s, .int .i64 slot] w fun e w' => e = .returned (.bool true) ∧ ∃ F', Std w' h (A.pt t) (z + 3) F' ∧ More w.heap.size F F' ∧ Touch F w w' := by
  have hb1 := Below.allocs w (.cells (tupC t s).toArray 28)
  have hg2 := Lit.new w 28 (tupC t s)
  have hcon := put_std _ h A z F t s hz hw (hr.below hb1) (H.below hb1)
  rw [hv, he] at hcon
  obtain ⟨W1, hW1⟩ : ∃ W1, w.alloc (.cells (tupC t s).toArray 28) = W1 := ⟨_, rfl⟩
  obtain ⟨g, hg⟩ : ∃ g, w.heap.size = g := ⟨_, rfl⟩
  rw [hW1] at hb1 hg2 hcon
  rw [hg] at hg2
  obtain ⟨a, c, rfl, -, -⟩ := hr.form
  obtain ⟨c0, c1, c2, c3, c4, c5, c6, hgl⟩ := cells7 hg2
  have HB := Lib.hid hb1
  have HW1 := Lib.hid hW1
  have HG := Lib.hid hg
  unfold tupC at HW1
  unfold ptrV tupV at *
  clear hb1 hW1 hg hg2 H hr hw hv he hz
  go_enter Try.func23, Try.ntmps23
  go_upto_region 1 with (fail)
  rw [show w.alloc _ = W1 from HW1.out, HG.out]
  clear HW1
  go_wp2_with fail
  refine hcon.mono ?_
  rintro e w2 ⟨rfl, F', h1, h2, h3⟩
  have HE := Lib.hid (And.intro h1 (And.intro h2 h3))
  clear hcon h1 h2 h3
  go_wp2_with fail
  go_ret
  obtain ⟨h1, h2, h3⟩ := HE.out
  exact ⟨rfl, F', h1, h2.mono HB.out.size, (Touch.of_below HB.out).trans h3 (fun _ _ h => h)⟩

/-! ### One heap, newer than w0 -/

/-- A heap that is newer than w0, apart from the blocks X. -/
def One (X : Nat → Prop) (w0 W : World) (h : Nat) (A : Ab) (z : Nat) : Prop := ∃ F, Std W h A z F ∧ (∀ k, F k → w0.heap.size ≤ k) ∧ Below w0.heap.size w0 W ∧ ∀ k, X k → ¬ F k ∧ k < W.heap.size

section
variable {X : Nat → Prop} {w0 w : World} {h z : Nat} {A : Ab}
theorem One.bel (H : One X w0 w h A z) : Below w0.heap.size w0 w := by obtain ⟨F, h1, h2, h3, h4⟩ := H; exact h3
theorem One.below {w' : World} (H : One X w0 w h A z) (hb : Below w.heap.size w w') : One X w0 w' h A z := by
  obtain ⟨F, h1, h2, h3, h4⟩ := H
  exact ⟨F, h1.below hb, h2, below_tr h3 hb, fun k hk => ⟨(h4 k hk).1, Nat.lt_of_lt_of_le (h4 k hk).2 hb.size⟩⟩
theorem One.ok (H : One X w0 w h A z) : A.Ok := by obtain ⟨F, h1, h2, h3, h4⟩ := H; exact h1.ok
theorem One.len (H : One X w0 w h A z) : A.pl.length ≤ z := by obtain ⟨F, h1, h2, h3, h4⟩ := H; exact h1.len
theorem One.of {w' : World} {A' : Ab} {z' : Nat} {F F' : Nat → Prop} (h2 : ∀ k, F k → w0.heap.size ≤ k) (h3 : Below w0.heap.size w0 w) (q1 : Std w' h A' z' F') (q2 : More w.heap.size F F') (q3 : Touch F w w') (h4 : ∀ k, X k → ¬ F k ∧ k < w.heap.size) : One X w0 w' h A' z' ∧ Stay X w w' :=
  ⟨⟨F', q1, fun k hk => (q2.new k hk).elim (h2 k) (fun e => Nat.le_trans h3.size e), h3.trans (q3.below h2 h3.size), fun k hk => ⟨fun hf => (q2.new k hf).elim (h4 k hk).1 (fun e => by have := (h4 k hk).2; omega), Nat.lt_of_lt_of_le (h4 k hk).2 q3.size⟩⟩, q3.stay (fun k hk => (h4 k hk).1)⟩

theorem one_new (hb : Below w0.heap.size w0 w) (hX : ∀ k, X k → k < w.heap.size) : Calls Try.prog 22 #[] w fun e w' => ∃ h, e = .returned (.pointer (some ⟨h, 0, none⟩)) ∧ One X w0 w' h Ab.new 0 := by
  refine (new_std w).mono ?_
  rintro e w' ⟨h, rfl, F, h1, h2, h3⟩
  exact ⟨h, rfl, F, h1, fun k hk => Nat.le_trans hb.size (h2 k hk), below_tr hb h3, fun k hk => ⟨fun hf => by have := h2 k hf; have := hX k hk; omega, Nat.lt_of_lt_of_le (hX k hk) h3.size⟩⟩

theorem one_next {A' : Ab} {r : Int} (H : One X w0 w h A z) (x : Int) (hz : z ≤ 90000) (hA : A.nx x = A') (hr : A.nxV x = r) :
    Calls Try.prog 16 #[.pointer (some ⟨h, 0, none⟩), .int .i64 x] w fun e w' => e = .returned (.int .i64 r) ∧ One X w0 w' h A' (z + 1) ∧ Stay X w w' := by
  subst hA hr
  obtain ⟨F, h1, h2, h3, h4⟩ := H
  refine (next_std w h A z F x hz h1).mono ?_
  rintro e w' ⟨rfl, F', q1, q2, q3⟩
  exact ⟨rfl, One.of h2 h3 q1 q2 q3 h4⟩

theorem one_put {A' : Ab} {r er : Int} (H : One X w0 w h A z) (t : Tup) (s : Value) (hw : t.wf) (hs : RowV w s t.row) (hz : z ≤ 90000) (hA : A.pt t = A') (hr : A.ptV t = r) (he : A.ptE t = er) :
    Calls Try.prog 10 #[.pointer (some ⟨h, 0, none⟩), tupV t s] w fun e w' => e = .returned (.tuple #[.int .i64 r, .int .i64 er]) ∧ One X w0 w' h A' (z + 3) ∧ Stay X w w' := by
  subst hA hr he
  obtain ⟨F, h1, h2, h3, h4⟩ := H
  refine (put_std w h A z F t s hz hw hs h1).mono ?_
  rintro e w' ⟨rfl, F', q1, q2, q3⟩
  exact ⟨rfl, One.of h2 h3 q1 q2 q3 h4⟩

theorem one_puts {A' : Ab} (H : One X w0 w h A z) (t : Tup) (s : Value) (slot : Int) (hw : t.wf) (hs : RowV w s t.row) (hz : z ≤ 90000) (hA : A.pt t = A') (hr : A.ptV t = slot) (he : A.ptE t = 0) :
    Calls Try.prog 23 #[.pointer (some ⟨h, 0, none⟩), tupV t s, .int .i64 slot] w fun e w' => e = .returned (.bool true) ∧ One X w0 w' h A' (z + 3) ∧ Stay X w w' := by
  subst hA
  obtain ⟨F, h1, h2, h3, h4⟩ := H
  refine (puts_is w h A z F t s slot hr he hz hw hs h1).mono ?_
  rintro e w' ⟨rfl, F', q1, q2, q3⟩
  exact ⟨rfl, One.of h2 h3 q1 q2 q3 h4⟩

theorem one_kill {A' : Ab} {er : Int} (H : One X w0 w h A z) (x a c : Int) (ha : I64 a) (hc : I64 c) (hz : z ≤ 90000) (hA : A.kl x a c = A') (he : A.atE x = er) :
    Calls Try.prog 14 #[.pointer (some ⟨h, 0, none⟩), .int .i64 x, .int .i64 a, .int .i64 c] w fun e w' => e = .returned (.int .i64 er) ∧ One X w0 w' h A' z ∧ Stay X w w' := by
  subst hA he
  obtain ⟨F, h1, h2, h3, h4⟩ := H
  refine (kill_std w h A z F x a c ha hc hz h1).mono ?_
  rintro e w' ⟨rfl, q1, q3⟩
  exact ⟨rfl, One.of h2 h3 q1 (More.refl _ _) q3 h4⟩

theorem one_free {A' : Ab} {er : Int} (H : One X w0 w h A z) (x : Int) (hz : z ≤ 80000) (hA : A.fe x = A') (he : A.atE x = er) :
    Calls Try.prog 15 #[.pointer (some ⟨h, 0, none⟩), .int .i64 x] w fun e w' => e = .returned (.int .i64 er) ∧ One X w0 w' h A' (z + 2) ∧ Stay X w w' := by
  subst hA he
  obtain ⟨F, h1, h2, h3, h4⟩ := H
  refine (free_std w h A z F x hz h1).mono ?_
  rintro e w' ⟨rfl, F', q1, q2, q3⟩
  exact ⟨rfl, One.of h2 h3 q1 q2 q3 h4⟩

theorem one_at {t : Tup} {b : Bool} (H : One X w0 w h A z) (x : Int) (hz : z ≤ 90000) (ht : A.atT x = t) (hb : A.atB x = b) :
    Calls Try.prog 12 #[.pointer (some ⟨h, 0, none⟩), .int .i64 x] w fun e w' => ∃ s, e = .returned (.tuple #[tupV t s, .bool b]) ∧ RowV w' s t.row ∧ (∀ k, s.ownBlock = some k → w.heap.size ≤ k) ∧ One X w0 w' h A z ∧ Below w.heap.size w w' := by
  subst ht hb
  obtain ⟨F, h1, h2, h3, h4⟩ := H
  refine (at_std w h A z F x hz h1).mono ?_
  rintro e w' ⟨s, rfl, q1, q2, q3⟩
  exact ⟨s, rfl, q1, q2, ⟨F, h1.below q3, h2, below_tr h3 q3, fun k hk => ⟨(h4 k hk).1, Nat.lt_of_lt_of_le (h4 k hk).2 q3.size⟩⟩, q3⟩

theorem one_len {n : Int} (H : One X w0 w h A z) (hz : z ≤ 90000) (hn : (A.pl.length : Int) = n) :
    Calls Try.prog 20 #[.pointer (some ⟨h, 0, none⟩)] w fun e w' => e = .returned (.int .i64 n) ∧ One X w0 w' h A z ∧ Below w.heap.size w w' := by
  subst hn
  obtain ⟨F, h1, h2, h3, h4⟩ := H
  refine (len_std w h A z F hz h1).mono ?_
  rintro e w' ⟨rfl, q3⟩
  exact ⟨rfl, ⟨F, h1.below q3, h2, below_tr h3 q3, fun k hk => ⟨(h4 k hk).1, Nat.lt_of_lt_of_le (h4 k hk).2 q3.size⟩⟩, q3⟩

theorem one_slots {l : List Int} (H : One X w0 w h A z) (x y : Int) (hx : I64 x) (hy : I64 y) (hz : z ≤ 90000) (hl : natI (A.slots x y) = l) :
    Calls Try.prog 17 #[.pointer (some ⟨h, 0, none⟩), .int .i64 x, .int .i64 y] w fun e w' => ∃ s, e = .returned s ∧ RowI w' s l ∧ (∀ k, s.ownBlock = some k → w.heap.size ≤ k) ∧ One X w0 w' h A z ∧ Below w.heap.size w w' := by
  subst hl
  obtain ⟨F, h1, h2, h3, h4⟩ := H
  refine (slots_std w h A z F x y hx hy hz h1).mono ?_
  rintro e w' ⟨s, rfl, q1, q2, q3⟩
  exact ⟨s, rfl, q1, q2, ⟨F, h1.below q3, h2, below_tr h3 q3, fun k hk => ⟨(h4 k hk).1, Nat.lt_of_lt_of_le (h4 k hk).2 q3.size⟩⟩, q3⟩

theorem one_ids (H : One X w0 w h A z) (x : Int) (hx : I64 x) (hz : z ≤ 90000) :
    Calls Try.prog 18 #[.pointer (some ⟨h, 0, none⟩), .int .i64 x] w fun e w' => ∃ s, e = .returned s ∧ ∃ l, RowI w' s l ∧ A.IsIDs x l ∧ (∀ k, s.ownBlock = some k → w.heap.size ≤ k) ∧ One X w0 w' h A z ∧ Below w.heap.size w w' := by
  obtain ⟨F, h1, h2, h3, h4⟩ := H
  refine (ids_std w h A z F x hx hz h1).mono ?_
  rintro e w' ⟨s, rfl, l, q1, q0, q2, q3⟩
  exact ⟨s, rfl, l, q1, q0, q2, ⟨F, h1.below q3, h2, below_tr h3 q3, fun k hk => ⟨(h4 k hk).1, Nat.lt_of_lt_of_le (h4 k hk).2 q3.size⟩⟩, q3⟩

theorem one_tables (H : One X w0 w h A z) (hz : z ≤ 90000) :
    Calls Try.prog 19 #[.pointer (some ⟨h, 0, none⟩)] w fun e w' => ∃ s, e = .returned s ∧ ∃ l, RowI w' s l ∧ A.IsTabs l ∧ (∀ k, s.ownBlock = some k → w.heap.size ≤ k) ∧ One X w0 w' h A z ∧ Below w.heap.size w w' := by
  obtain ⟨F, h1, h2, h3, h4⟩ := H
  refine (tables_std w h A z F hz h1).mono ?_
  rintro e w' ⟨s, rfl, l, q1, q0, q2, q3⟩
  exact ⟨s, rfl, l, q1, q0, q2, ⟨F, h1.below q3, h2, below_tr h3 q3, fun k hk => ⟨(h4 k hk).1, Nat.lt_of_lt_of_le (h4 k hk).2 q3.size⟩⟩, q3⟩
/-- Blocks that came behind the heap's are apart from it. -/
theorem One.foreign {w' : World} (H : One X w0 w h A z) (hb : Below w.heap.size w w') (Y : Nat → Prop) (hY : ∀ k, Y k → (X k ∨ w.heap.size ≤ k) ∧ k < w'.heap.size) : One Y w0 w' h A z := by
  obtain ⟨F, h1, h2, h3, h4⟩ := H
  exact ⟨F, h1.below hb, h2, below_tr h3 hb, fun k hk => ⟨fun hf => by
    rcases (hY k hk).1 with e | e
    · exact (h4 k e).1 hf
    · have := h1.lt k hf; omega, (hY k hk).2⟩⟩
/-- A block that is apart is written. -/
theorem One.wrote {w' : World} {Y : Nat → Prop} (H : One X w0 w h A z) (ht : Touch Y w w') (hY : ∀ k, Y k → X k ∧ w0.heap.size ≤ k) : One X w0 w' h A z := by
  obtain ⟨F, h1, h2, h3, h4⟩ := H
  exact ⟨F, h1.apart ht (fun k hk hy => (h4 k (hY k hy).1).1 hk), h2, h3.trans (ht.below (fun k hk => (hY k hk).2) h3.size), fun k hk => ⟨(h4 k hk).1, Nat.lt_of_lt_of_le (h4 k hk).2 ht.size⟩⟩
end

/-- The lists that rise and have the same numbers are the same. -/
theorem Ab.IsIDs.eq {A : Ab} {x : Int} {l m : List Int} (h : A.IsIDs x l) (h2 : A.IsIDs x m) : l = m := rise_eq h.1 h2.1 fun y => (h.2 y).trans (h2.2 y).symm
theorem Ab.IsTabs.eq {A : Ab} {l m : List Int} (h : A.IsTabs l) (h2 : A.IsTabs m) : l = m := rise_eq h.1 h2.1 fun y => (h.2 y).trans (h2.2 y).symm

/-! ### Closed lists -/

theorem isIDs_of {A : Ab} {x : Int} {l : List Int} (h : l.Pairwise (· < ·) ∧ (∀ y ∈ l, y ∈ (A.pl.filter fun p => decide (p.2.no = x)).map fun p => p.2.id) ∧ ∀ y ∈ (A.pl.filter fun p => decide (p.2.no = x)).map fun p => p.2.id, y ∈ l) : A.IsIDs x l :=
  ⟨h.1, fun y => ⟨fun hy => by
    obtain ⟨p, hp, e⟩ := List.mem_map.1 (h.2.1 y hy)
    obtain ⟨h1, h2⟩ := List.mem_filter.1 hp
    exact ⟨p, h1, by simpa using h2, e⟩, fun ⟨p, hp, e1, e2⟩ => h.2.2 y (List.mem_map.2 ⟨p, List.mem_filter.2 ⟨hp, by simp [e1]⟩, e2⟩)⟩⟩
theorem isTabs_of {A : Ab} {l : List Int} (h : l.Pairwise (· < ·) ∧ (∀ y ∈ l, y ∈ A.pl.map fun p => p.2.no) ∧ ∀ y ∈ A.pl.map fun p => p.2.no, y ∈ l) : A.IsTabs l :=
  ⟨h.1, fun y => ⟨fun hy => by
    obtain ⟨p, hp, e⟩ := List.mem_map.1 (h.2.1 y hy)
    exact ⟨p, hp, e⟩, fun ⟨p, hp, e1⟩ => h.2.2 y (List.mem_map.2 ⟨p, hp, e1⟩)⟩⟩

theorem one_ids_eq {X : Nat → Prop} {w0 w : World} {h z : Nat} {A : Ab} {l : List Int} (H : One X w0 w h A z) (x : Int) (hx : I64 x) (hz : z ≤ 90000) (hl : A.IsIDs x l) :
    Calls Try.prog 18 #[.pointer (some ⟨h, 0, none⟩), .int .i64 x] w fun e w' => ∃ s, e = .returned s ∧ RowI w' s l ∧ (∀ k, s.ownBlock = some k → w.heap.size ≤ k) ∧ One X w0 w' h A z ∧ Below w.heap.size w w' := by
  refine (one_ids H x hx hz).mono ?_
  rintro e w' ⟨s, rfl, m, q1, q2, q3⟩
  rw [q2.eq hl] at q1
  exact ⟨s, rfl, q1, q3⟩
theorem one_tables_eq {X : Nat → Prop} {w0 w : World} {h z : Nat} {A : Ab} {l : List Int} (H : One X w0 w h A z) (hz : z ≤ 90000) (hl : A.IsTabs l) :
    Calls Try.prog 19 #[.pointer (some ⟨h, 0, none⟩)] w fun e w' => ∃ s, e = .returned s ∧ RowI w' s l ∧ (∀ k, s.ownBlock = some k → w.heap.size ≤ k) ∧ One X w0 w' h A z ∧ Below w.heap.size w w' := by
  refine (one_tables H hz).mono ?_
  rintro e w' ⟨s, rfl, m, q1, q2, q3⟩
  rw [q2.eq hl] at q1
  exact ⟨s, rfl, q1, q3⟩
theorem bel_step {w0 w w' : World} (h : Below w0.heap.size w0 w) (h2 : Below w.heap.size w w') : Below w0.heap.size w0 w' := below_tr h h2
/-- A literal of values. -/
theorem lit_rowV (W : World) (l : List Val) (n : Nat) (hn : l.length = n) (hm : n ≤ maxLen) : RowV (W.alloc (.cells (flatL l).toArray 43)) (.slice (some ⟨W.heap.size, 0, none⟩) n n) l := by
  subst hn
  refine RowV.of_own (base := 0) ?_
  have := World.ownsRow_lit (e := 43) (size := 4) (base := 0) W (flatL l).toArray l.length (Nat.zero_le _) hm (by simp [flatL_len])
  simpa using this

/-! ### Nil -/

theorem nil_put (w : World) (t : Tup) (s : Value) : Calls Try.prog 10 #[.pointer none, tupV t s] w fun e w' => e = .returned (.tuple #[.int .i64 0, .int .i64 2]) ∧ Below w.heap.size w w' := put_nil w t s
theorem nil_at (w : World) (x : Int) : Calls Try.prog 12 #[.pointer none, .int .i64 x] w fun e w' => e = .returned (.tuple #[tupV tup0 (.slice none 0 0), .bool false]) ∧ Below w.heap.size w w' := at_none w (.pointer none) x 2 (by decide) (fun W _ => find_nil W x)
theorem nil_kill (w : World) (x a c : Int) : Calls Try.prog 14 #[.pointer none, .int .i64 x, .int .i64 a, .int .i64 c] w fun e w' => e = .returned (.int .i64 2) ∧ Below w.heap.size w w' :=
  (kill_no w (.pointer none) x a c 2 (by decide) (find_nil w x)).mono fun e w' h => ⟨h.1, by rw [h.2]; exact Below.refl _ _⟩
theorem nil_free (w : World) (x : Int) : Calls Try.prog 15 #[.pointer none, .int .i64 x] w fun e w' => e = .returned (.int .i64 2) ∧ Below w.heap.size w w' :=
  (free_no w (.pointer none) x 2 (by decide) (find_nil w x)).mono fun e w' h => ⟨h.1, by rw [h.2]; exact Below.refl _ _⟩
theorem nil_next (w : World) (x : Int) : Calls Try.prog 16 #[.pointer none, .int .i64 x] w fun e w' => e = .returned (.int .i64 0) ∧ Below w.heap.size w w' := (next_nil w x).mono fun e w' h => ⟨h.1, by rw [h.2]; exact Below.refl _ _⟩
theorem nil_slots (w : World) (x y : Int) (hy : I64 y) : Calls Try.prog 17 #[.pointer none, .int .i64 x, .int .i64 y] w fun e w' => ∃ a c, e = .returned (.slice a 0 c) ∧ Below w.heap.size w w' := by
  refine (slots_is (.pointer none) x y (.map none) (fun _ => []) 0 (by omega) w hy (index_nil w x) (.inl ⟨rfl, fun _ => rfl⟩) (.inl rfl) (fun _ => Nat.le_refl _)).mono ?_
  rintro e w' ⟨s, rfl, h1, h2, h3⟩
  obtain ⟨a, c, rfl, -, -⟩ := h1.form
  exact ⟨a, c, rfl, h3⟩
theorem nil_ids (w : World) (x : Int) : Calls Try.prog 18 #[.pointer none, .int .i64 x] w fun e w' => ∃ a c, e = .returned (.slice a 0 c) ∧ Below w.heap.size w w' := by
  refine (ids_is (.pointer none) x (.map none) (fun _ => []) 0 (by omega) w (index_nil w x) (.inl ⟨rfl, fun _ => rfl⟩)).mono ?_
  rintro e w' ⟨s, rfl, l, h1, h2, h3, h4, h5⟩
  obtain rfl : l = [] := List.eq_nil_iff_forall_not_mem.2 fun y hy => ((h3 y).1 hy).2 rfl
  obtain ⟨a, c, rfl, -, -⟩ := h1.form
  exact ⟨a, c, rfl, h5⟩
theorem nil_tables (w : World) : Calls Try.prog 19 #[.pointer none] w fun e w' => e = .returned (.slice none 0 0) ∧ Below w.heap.size w w' := (tables_nil w).mono fun e w' h => ⟨h.1, by rw [h.2]; exact Below.refl _ _⟩
theorem nil_len (w : World) : Calls Try.prog 20 #[.pointer none] w fun e w' => e = .returned (.int .i64 0) ∧ Below w.heap.size w w' := (len_nil w).mono fun e w' h => ⟨h.1, by rw [h.2]; exact Below.refl _ _⟩
theorem nil_copy (w : World) : Calls Try.prog 21 #[.pointer none] w fun e w' => e = .returned (.pointer none) ∧ Below w.heap.size w w' := (copy_nil w).mono fun e w' h => ⟨h.1, by rw [h.2]; exact Below.refl _ _⟩

end Go.Proofs.Ytkedkeelbbfmkaa
