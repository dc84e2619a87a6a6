/-
  A table of transactions in memory (stage 9).
-/
import Derived.Test.YtbgnbaogclnpgaaYMath
import Derived.Test.YtbgnbaogclnpgaaHMem
namespace Go.Proofs.Ytbgnbaogclnpgaa
open Go.RowKit
set_option linter.unusedVariables false


/-- The record of the transaction j + 1. -/
def recT (T : Tb) (j : Nat) : List Value := [.int .u8 (T.st (j + 1)), .int .i64 (T.top (j + 1)), .int .i64 (T.num (j + 1)), .int .i64 (T.y (j + 1)), .int .i64 (T.old (j + 1))]

/-- At block t lies the table T; it may be written into blocks of F. -/
structure Tab (W : World) (t : Nat) (T : Tb) (F : Nat → Prop) : Prop where
  ft : F t
  lt : ∀ k, F k → k < W.heap.size
  ex : ∃ s, Lit W t 78 [s, .int .i64 T.last] ∧ RowF 81 5 W s T.n (recT T) ∧ ∀ k, s.ownBlock = some k → F k ∧ k ≠ t

section
variable {W W' : World} {t : Nat} {T : Tb} {F : Nat → Prop}

theorem Tab.stay (h : Tab W t T F) (hs : Stay F W W') : Tab W' t T F := by
  obtain ⟨s, h1, h2, h3⟩ := h.ex
  exact ⟨h.ft, fun k hk => Nat.lt_of_lt_of_le (h.lt k hk) hs.size, s, h1.stay hs h.ft, h2.stay hs (fun k hk => (h3 k hk).1), h3⟩

theorem Tab.below (h : Tab W t T F) (hb : Below W.heap.size W W') : Tab W' t T F := h.stay (Stay.of_below hb)

/-- What the walk needs of a table: its two cells, and its records. -/
theorem Tab.open (h : Tab W t T F) : ∃ a c, t < W.heap.size ∧ W.cell? ⟨t, 0, none⟩ = some (.slice a T.n c) ∧ W.cell? ⟨t, 1, none⟩ = some (.int .i64 T.last) ∧ (∀ o, W.frozen? ⟨t, o, none⟩ = false) ∧ T.n ≤ c ∧ c ≤ maxLen := by
  obtain ⟨s, h1, h2, h3⟩ := h.ex
  obtain ⟨a, c, rfl, hc, hm⟩ := h2.form
  exact ⟨a, c, h1.lt, h1.cell rfl, h1.cell rfl, h1.fz, hc, hm⟩

/-- The block of the records. -/
theorem Tab.open1 (h : Tab W t T F) (hn : 0 < T.n) : ∃ b c, t < W.heap.size ∧ W.cell? ⟨t, 0, none⟩ = some (.slice (some ⟨b, 0, none⟩) T.n c) ∧ W.cell? ⟨t, 1, none⟩ = some (.int .i64 T.last) ∧ (∀ o, W.frozen? ⟨t, o, none⟩ = false) ∧ T.n ≤ c ∧ c ≤ maxLen ∧
    b < W.heap.size ∧ b ≠ t ∧ F b ∧ (∀ j, j < T.n → W.cell? ⟨b, j * 5, none⟩ = some (.int .u8 (T.st (j + 1))) ∧ W.cell? ⟨b, j * 5 + 1, none⟩ = some (.int .i64 (T.top (j + 1))) ∧ W.cell? ⟨b, j * 5 + 2, none⟩ = some (.int .i64 (T.num (j + 1))) ∧
      W.cell? ⟨b, j * 5 + 3, none⟩ = some (.int .i64 (T.y (j + 1))) ∧ W.cell? ⟨b, j * 5 + 4, none⟩ = some (.int .i64 (T.old (j + 1)))) ∧ ∀ o, W.frozen? ⟨b, o, none⟩ = false := by
  obtain ⟨s, h1, h2, h3⟩ := h.ex
  obtain ⟨b, c, rfl, hc, hm, hb, hat, hf⟩ := h2.at hn
  have h4 := h3 b rfl
  exact ⟨b, c, h1.lt, h1.cell rfl, h1.cell rfl, h1.fz, hc, hm, hb, h4.2, h4.1, fun j hj => ⟨hat j hj 0 _ rfl, hat j hj 1 _ rfl, hat j hj 2 _ rfl, hat j hj 3 _ rfl, hat j hj 4 _ rfl⟩, hf⟩

end

/-- At block t lies the table T, and it is as tables are. -/
structure Is (W : World) (t : Nat) (T : Tb) (F : Nat → Prop) : Prop where
  ok : T.Ok
  tab : Tab W t T F

theorem Is.stay {W W' : World} {t : Nat} {T : Tb} {F : Nat → Prop} (h : Is W t T F) (hs : Stay F W W') : Is W' t T F := ⟨h.ok, h.tab.stay hs⟩
theorem Is.below {W W' : World} {t : Nat} {T : Tb} {F : Nat → Prop} (h : Is W t T F) (hb : Below W.heap.size W W') : Is W' t T F := ⟨h.ok, h.tab.below hb⟩
theorem Is.lt {W : World} {t : Nat} {T : Tb} {F : Nat → Prop} (h : Is W t T F) : ∀ k, F k → k < W.heap.size := h.tab.lt
theorem Is.ft {W : World} {t : Nat} {T : Tb} {F : Nat → Prop} (h : Is W t T F) : F t := h.tab.ft

/-- A function of a transaction; 0, if there is none. -/
def Tb.g (T : Tb) (f : Nat → Nat) (id : Int) : Int := if 1 ≤ id ∧ id ≤ T.n then f id.toNat else 0
theorem Tb.g_in {T : Tb} {f : Nat → Nat} {id : Int} (h : 1 ≤ id ∧ id ≤ T.n) : T.g f id = f id.toNat := by unfold Tb.g; rw [if_pos h]
theorem Tb.g_out {T : Tb} {f : Nat → Nat} {id : Int} (h : ¬ (1 ≤ id ∧ id ≤ T.n)) : T.g f id = 0 := by unfold Tb.g; rw [if_neg h]

def getV (T : Tb) (id : Int) : Value := .agg #[.int .u8 (T.g T.st id), .int .i64 (T.g T.top id), .int .i64 (T.g T.num id), .int .i64 (T.g T.y id), .int .i64 (T.g T.old id)]

set_option maxRecDepth 100000 in
theorem tlen_is (w : World) (t : Nat) (T : Tb) (F : Nat → Prop) (h : Tab w t T F) : Calls Try.prog 57 #[ptrV t] w fun e w' => e = .returned (.int .i64 T.n) ∧ Below w.heap.size w w' := by
  obtain ⟨a, c, hlt, h0, h1, hf, hnc, hcm⟩ := h.open
  have hB := Below.refl w.heap.size w
  unfold ptrV
  clear h
  go_enter Try.func57, Try.ntmps57
  go_wp2_with fail
  go_ret
  exact ⟨rfl, hB⟩

set_option maxRecDepth 100000 in
theorem last_is (w : World) (t : Nat) (T : Tb) (F : Nat → Prop) (h : Tab w t T F) : Calls Try.prog 23 #[ptrV t] w fun e w' => e = .returned (.int .i64 T.last) ∧ Below w.heap.size w w' := by
  obtain ⟨a, c, hlt, h0, h1, hf, hnc, hcm⟩ := h.open
  have hB := Below.refl w.heap.size w
  unfold ptrV
  clear h
  go_enter Try.func23, Try.ntmps23
  go_wp2_with fail
  go_ret
  exact ⟨rfl, hB⟩

theorem tlen_nil (w : World) : Calls Try.prog 57 #[.pointer none] w fun e w' => e = .returned (.int .i64 0) ∧ Below w.heap.size w w' := by
  have hB := Below.refl w.heap.size w
  go_enter Try.func57, Try.ntmps57
  go_wp2_with fail
  go_ret
  exact ⟨rfl, hB⟩

theorem last_nil (w : World) : Calls Try.prog 23 #[.pointer none] w fun e w' => e = .returned (.int .i64 0) ∧ Below w.heap.size w w' := by
  have hB := Below.refl w.heap.size w
  go_enter Try.func23, Try.ntmps23
  go_wp2_with fail
  go_ret
  exact ⟨rfl, hB⟩

theorem wr {n : Int} (h : -9223372036854775808 ≤ n ∧ n ≤ 9223372036854775807) : wrap64 n = n := by first | exact wrap64_in n h | (unfold wrap64; omega)

/-- A block of zeros of a transaction. -/
theorem zero_new (w : World) : Lit (w.alloc (.cells #[.int .u8 0, .int .i64 0, .int .i64 0, .int .i64 0, .int .i64 0] 81)) w.heap.size 81 [.int .u8 0, .int .i64 0, .int .i64 0, .int .i64 0, .int .i64 0] := Lit.new w _ _

/-- All five cells of a record are written. -/
def put5 (W : World) (g : Nat) (v0 v1 v2 v3 v4 : Value) : World := ((((W.setCell ⟨g, 0, none⟩ v0).setCell ⟨g, 1, none⟩ v1).setCell ⟨g, 2, none⟩ v2).setCell ⟨g, 3, none⟩ v3).setCell ⟨g, 4, none⟩ v4

theorem lit_put5 {W : World} {g : Nat} {e : TypeId} {u0 u1 u2 u3 u4 : Value} (h : Lit W g e [u0, u1, u2, u3, u4]) (v0 v1 v2 v3 v4 : Value) : Lit (put5 W g v0 v1 v2 v3 v4) g e [v0, v1, v2, v3, v4] := ((((h.set 0 v0).set 1 v1).set 2 v2).set 3 v3).set 4 v4
theorem below_put5 {B : Nat} {a W : World} (h : Below B a W) {g : Nat} (hg : B ≤ g) (v0 v1 v2 v3 v4 : Value) : Below B a (put5 W g v0 v1 v2 v3 v4) := ((((h.setCell (p := ⟨g, 0, none⟩) hg v0).setCell (p := ⟨g, 1, none⟩) hg v1).setCell (p := ⟨g, 2, none⟩) hg v2).setCell (p := ⟨g, 3, none⟩) hg v3).setCell (p := ⟨g, 4, none⟩) hg v4

set_option maxRecDepth 100000 in
set_option maxHeartbeats 1000000 in
theorem tget_is (w : World) (t : Nat) (T : Tb) (F : Nat → Prop) (id : Int) (hi : I64 id) (h : Tab w t T F) : Calls Try.prog 41 #[ptrV t, .int .i64 id] w fun e w' => e = .returned (getV T id) ∧ Below w.heap.size w w' := by
  have hz := zero_new w
  have hb1 := Below.allocs w (.cells #[.int .u8 0, .int .i64 0, .int .i64 0, .int .i64 0, .int .i64 0] 81)
  have h1 := h.below hb1
  have hlen := tlen_is _ t T F h1
  unfold ptrV at hlen ⊢
  have HL : Hid (Calls Try.prog 57 #[.pointer (some ⟨t, 0, none⟩)] (w.alloc (.cells #[.int .u8 0, .int .i64 0, .int .i64 0, .int .i64 0, .int .i64 0] 81)) fun e w' => e = .returned (.int .i64 T.n) ∧ Below (w.alloc (.cells #[.int .u8 0, .int .i64 0, .int .i64 0, .int .i64 0, .int .i64 0] 81)).heap.size (w.alloc (.cells #[.int .u8 0, .int .i64 0, .int .i64 0, .int .i64 0, .int .i64 0] 81)) w') := Lib.hid hlen
  have H1 := Lib.hid h1
  have HZ := Lib.hid hz
  have HB := Lib.hid hb1
  clear hlen h1 hz hb1 h
  by_cases hin : 1 ≤ id ∧ id ≤ T.n
  · obtain ⟨k, rfl⟩ : ∃ k : Nat, id = (k : Int) + 1 := ⟨(id - 1).toNat, by omega⟩
    have hk : k < T.n := by omega
    have hv : getV T ((k : Int) + 1) = .agg #[.int .u8 (T.st (k + 1)), .int .i64 (T.top (k + 1)), .int .i64 (T.num (k + 1)), .int .i64 (T.y (k + 1)), .int .i64 (T.old (k + 1))] := by
      unfold getV
      simp only [Tb.g_in hin, show ((k : Int) + 1).toNat = k + 1 by omega]
    rw [hv]
    have hlt0 : ¬ ((k : Int) + 1 < 1) := by omega
    have hgt : ¬ ((T.n : Int) < (k : Int) + 1) := by omega
    have hw1 : wrap64 (k : Int) = k := wr (by unfold I64 at hi; omega)
    have hkn : (k : Int) < T.n := by omega
    have hk0 : (0 : Int) ≤ k := by omega
    clear hv
    go_enter Try.func41, Try.ntmps41
    go_wp2_with fail
    refine HL.out.mono ?_
    rintro e w1 ⟨rfl, hb2⟩
    obtain ⟨b, c, htl, c0, _, _, hnc, hcm, hbl, _, _, hat, _⟩ := (H1.out.below hb2).open1 (by omega)
    obtain ⟨q0, q1, q2, q3, q4⟩ := hat k hk
    have hz := HZ.out.below hb2
    have z0 := hz.cell (o := 0) rfl
    have z1 := hz.cell (o := 1) rfl
    have z2 := hz.cell (o := 2) rfl
    have z3 := hz.cell (o := 3) rfl
    have z4 := hz.cell (o := 4) rfl
    have f0 := hz.fz 0
    have f1 := hz.fz 1
    have f2 := hz.fz 2
    have f3 := hz.fz 3
    have f4 := hz.fz 4
    have HE : Hid (Below w.heap.size w w1) := Lib.hid (below_tr HB.out hb2)
    clear hat hb2 HB HZ H1 HL
    have he := lit_put5 hz (.int .u8 (T.st (k + 1))) (.int .i64 (T.top (k + 1))) (.int .i64 (T.num (k + 1))) (.int .i64 (T.y (k + 1))) (.int .i64 (T.old (k + 1)))
    have hbe := below_put5 HE.out (Nat.le_refl _) (.int .u8 (T.st (k + 1))) (.int .i64 (T.top (k + 1))) (.int .i64 (T.num (k + 1))) (.int .i64 (T.y (k + 1))) (.int .i64 (T.old (k + 1)))
    have r0 := he.cell (o := 0) rfl
    have r1 := he.cell (o := 1) rfl
    have r2 := he.cell (o := 2) rfl
    have r3 := he.cell (o := 3) rfl
    have r4 := he.cell (o := 4) rfl
    unfold put5 at hbe r0 r1 r2 r3 r4
    have HE2 := Lib.hid hbe
    have HR := Lib.hid (And.intro r0 (And.intro r1 (And.intro r2 (And.intro r3 r4))))
    clear he hbe hz HE r0 r1 r2 r3 r4
    go_wp2_with fail
    obtain ⟨r0, r1, r2, r3, r4⟩ := HR.out
    exact bodyPost_ret (v := .agg #[.int .u8 (T.st (k + 1)), .int .i64 (T.top (k + 1)), .int .i64 (T.num (k + 1)), .int .i64 (T.y (k + 1)), .int .i64 (T.old (k + 1))]) (by simp [results, Try.results41, go_sem, r0, r1, r2, r3, r4]) rfl ⟨rfl, HE2.out⟩
  · have hv : getV T id = .agg #[.int .u8 0, .int .i64 0, .int .i64 0, .int .i64 0, .int .i64 0] := by
      unfold getV
      simp only [Tb.g_out hin]
    rw [hv]
    clear hv
    by_cases hlt0 : id < 1
    · obtain ⟨W1, hW⟩ : ∃ W1, w.alloc (.cells #[.int .u8 0, .int .i64 0, .int .i64 0, .int .i64 0, .int .i64 0] 81) = W1 := ⟨_, rfl⟩
      rw [hW] at HZ HB
      have hz := HZ.out
      have z0 := hz.cell (o := 0) rfl
      have z1 := hz.cell (o := 1) rfl
      have z2 := hz.cell (o := 2) rfl
      have z3 := hz.cell (o := 3) rfl
      have z4 := hz.cell (o := 4) rfl
      have f0 := hz.fz 0
      have f1 := hz.fz 1
      have f2 := hz.fz 2
      have f3 := hz.fz 3
      have f4 := hz.fz 4
      have HE : Hid (Below w.heap.size w W1) := Lib.hid HB.out
      clear HB HZ H1 HL
      go_enter Try.func41, Try.ntmps41
      have he := lit_put5 hz (.int .u8 0) (.int .i64 0) (.int .i64 0) (.int .i64 0) (.int .i64 0)
      have hbe := below_put5 HE.out (Nat.le_refl _) (.int .u8 0) (.int .i64 0) (.int .i64 0) (.int .i64 0) (.int .i64 0)
      have r0 := he.cell (o := 0) rfl
      have r1 := he.cell (o := 1) rfl
      have r2 := he.cell (o := 2) rfl
      have r3 := he.cell (o := 3) rfl
      have r4 := he.cell (o := 4) rfl
      unfold put5 at hbe r0 r1 r2 r3 r4
      have HE2 := Lib.hid hbe
      have HR := Lib.hid (And.intro r0 (And.intro r1 (And.intro r2 (And.intro r3 r4))))
      clear he hbe hz HE r0 r1 r2 r3 r4
      go_wp2_with fail
      obtain ⟨r0, r1, r2, r3, r4⟩ := HR.out
      exact bodyPost_ret (v := .agg #[.int .u8 0, .int .i64 0, .int .i64 0, .int .i64 0, .int .i64 0]) (by simp [results, Try.results41, go_sem, r0, r1, r2, r3, r4]) rfl ⟨rfl, HE2.out⟩
    · have hgt : (T.n : Int) < id := by omega
      go_enter Try.func41, Try.ntmps41
      go_wp2_with fail
      refine HL.out.mono ?_
      rintro e w1 ⟨rfl, hb2⟩
      have hz := HZ.out.below hb2
      have z0 := hz.cell (o := 0) rfl
      have z1 := hz.cell (o := 1) rfl
      have z2 := hz.cell (o := 2) rfl
      have z3 := hz.cell (o := 3) rfl
      have z4 := hz.cell (o := 4) rfl
      have f0 := hz.fz 0
      have f1 := hz.fz 1
      have f2 := hz.fz 2
      have f3 := hz.fz 3
      have f4 := hz.fz 4
      have HE : Hid (Below w.heap.size w w1) := Lib.hid (below_tr HB.out hb2)
      clear hb2 HB HZ H1 HL
      have he := lit_put5 hz (.int .u8 0) (.int .i64 0) (.int .i64 0) (.int .i64 0) (.int .i64 0)
      have hbe := below_put5 HE.out (Nat.le_refl _) (.int .u8 0) (.int .i64 0) (.int .i64 0) (.int .i64 0) (.int .i64 0)
      have r0 := he.cell (o := 0) rfl
      have r1 := he.cell (o := 1) rfl
      have r2 := he.cell (o := 2) rfl
      have r3 := he.cell (o := 3) rfl
      have r4 := he.cell (o := 4) rfl
      unfold put5 at hbe r0 r1 r2 r3 r4
      have HE2 := Lib.hid hbe
      have HR := Lib.hid (And.intro r0 (And.intro r1 (And.intro r2 (And.intro r3 r4))))
      clear he hbe hz HE r0 r1 r2 r3 r4
      go_wp2_with fail
      obtain ⟨r0, r1, r2, r3, r4⟩ := HR.out
      exact bodyPost_ret (v := .agg #[.int .u8 0, .int .i64 0, .int .i64 0, .int .i64 0, .int .i64 0]) (by simp [results, Try.results41, go_sem, r0, r1, r2, r3, r4]) rfl ⟨rfl, HE2.out⟩

set_option maxRecDepth 100000 in
set_option maxHeartbeats 1000000 in
theorem get_nil (w : World) (id : Int) : Calls Try.prog 41 #[.pointer none, .int .i64 id] w fun e w' => e = .returned (.agg #[.int .u8 0, .int .i64 0, .int .i64 0, .int .i64 0, .int .i64 0]) ∧ Below w.heap.size w w' := by
  have hz := zero_new w
  have hb1 := Below.allocs w (.cells #[.int .u8 0, .int .i64 0, .int .i64 0, .int .i64 0, .int .i64 0] 81)
  have hlen := tlen_nil (w.alloc (.cells #[.int .u8 0, .int .i64 0, .int .i64 0, .int .i64 0, .int .i64 0] 81))
  have HL : Hid (Calls Try.prog 57 #[.pointer none] (w.alloc (.cells #[.int .u8 0, .int .i64 0, .int .i64 0, .int .i64 0, .int .i64 0] 81)) fun e w' => e = .returned (.int .i64 0) ∧ Below (w.alloc (.cells #[.int .u8 0, .int .i64 0, .int .i64 0, .int .i64 0, .int .i64 0] 81)).heap.size (w.alloc (.cells #[.int .u8 0, .int .i64 0, .int .i64 0, .int .i64 0, .int .i64 0] 81)) w') := Lib.hid hlen
  have HZ := Lib.hid hz
  have HB := Lib.hid hb1
  clear hlen hz hb1
  by_cases hlt0 : id < 1
  · obtain ⟨W1, hW⟩ : ∃ W1, w.alloc (.cells #[.int .u8 0, .int .i64 0, .int .i64 0, .int .i64 0, .int .i64 0] 81) = W1 := ⟨_, rfl⟩
    rw [hW] at HZ HB
    have hz := HZ.out
    have z0 := hz.cell (o := 0) rfl
    have z1 := hz.cell (o := 1) rfl
    have z2 := hz.cell (o := 2) rfl
    have z3 := hz.cell (o := 3) rfl
    have z4 := hz.cell (o := 4) rfl
    have f0 := hz.fz 0
    have f1 := hz.fz 1
    have f2 := hz.fz 2
    have f3 := hz.fz 3
    have f4 := hz.fz 4
    have HE : Hid (Below w.heap.size w W1) := Lib.hid HB.out
    clear HB HZ HL
    go_enter Try.func41, Try.ntmps41
    have he := lit_put5 hz (.int .u8 0) (.int .i64 0) (.int .i64 0) (.int .i64 0) (.int .i64 0)
    have hbe := below_put5 HE.out (Nat.le_refl _) (.int .u8 0) (.int .i64 0) (.int .i64 0) (.int .i64 0) (.int .i64 0)
    have r0 := he.cell (o := 0) rfl
    have r1 := he.cell (o := 1) rfl
    have r2 := he.cell (o := 2) rfl
    have r3 := he.cell (o := 3) rfl
    have r4 := he.cell (o := 4) rfl
    unfold put5 at hbe r0 r1 r2 r3 r4
    have HE2 := Lib.hid hbe
    have HR := Lib.hid (And.intro r0 (And.intro r1 (And.intro r2 (And.intro r3 r4))))
    clear he hbe hz HE r0 r1 r2 r3 r4
    go_wp2_with fail
    obtain ⟨r0, r1, r2, r3, r4⟩ := HR.out
    exact bodyPost_ret (v := .agg #[.int .u8 0, .int .i64 0, .int .i64 0, .int .i64 0, .int .i64 0]) (by simp [results, Try.results41, go_sem, r0, r1, r2, r3, r4]) rfl ⟨rfl, HE2.out⟩
  · have hgt : (0 : Int) < id := by omega
    go_enter Try.func41, Try.ntmps41
    go_wp2_with fail
    refine HL.out.mono ?_
    rintro e w1 ⟨rfl, hb2⟩
    have hz := HZ.out.below hb2
    have z0 := hz.cell (o := 0) rfl
    have z1 := hz.cell (o := 1) rfl
    have z2 := hz.cell (o := 2) rfl
    have z3 := hz.cell (o := 3) rfl
    have z4 := hz.cell (o := 4) rfl
    have f0 := hz.fz 0
    have f1 := hz.fz 1
    have f2 := hz.fz 2
    have f3 := hz.fz 3
    have f4 := hz.fz 4
    have HE : Hid (Below w.heap.size w w1) := Lib.hid (below_tr HB.out hb2)
    clear hb2 HB HZ HL
    have he := lit_put5 hz (.int .u8 0) (.int .i64 0) (.int .i64 0) (.int .i64 0) (.int .i64 0)
    have hbe := below_put5 HE.out (Nat.le_refl _) (.int .u8 0) (.int .i64 0) (.int .i64 0) (.int .i64 0) (.int .i64 0)
    have r0 := he.cell (o := 0) rfl
    have r1 := he.cell (o := 1) rfl
    have r2 := he.cell (o := 2) rfl
    have r3 := he.cell (o := 3) rfl
    have r4 := he.cell (o := 4) rfl
    unfold put5 at hbe r0 r1 r2 r3 r4
    have HE2 := Lib.hid hbe
    have HR := Lib.hid (And.intro r0 (And.intro r1 (And.intro r2 (And.intro r3 r4))))
    clear he hbe hz HE r0 r1 r2 r3 r4
    go_wp2_with fail
    obtain ⟨r0, r1, r2, r3, r4⟩ := HR.out
    exact bodyPost_ret (v := .agg #[.int .u8 0, .int .i64 0, .int .i64 0, .int .i64 0, .int .i64 0]) (by simp [results, Try.results41, go_sem, r0, r1, r2, r3, r4]) rfl ⟨rfl, HE2.out⟩

end Go.Proofs.Ytbgnbaogclnpgaa
