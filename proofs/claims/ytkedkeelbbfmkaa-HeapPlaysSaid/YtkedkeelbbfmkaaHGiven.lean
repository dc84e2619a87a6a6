/-
  given: a tuple, its row of its own (stage 11).
-/
import Derived.Test.YtkedkeelbbfmkaaHSame
namespace Go.Proofs.Ytkedkeelbbfmkaa
open Go.RowKit
set_option linter.unusedVariables false

/-- A copy of a row, made by append onto an empty one. -/
theorem one_appR {W : World} {a : Option Addr} {c : Nat} {l : List Val} (h1 : SlL W a c l) (hl : l.length ≤ 1000000) :
    ∃ a1 c1 W1, (Builtin.append_ #[26, 26] 26 #[.slice (some ⟨W.heap.size, 0, none⟩) 0 0, .slice a l.length c]).run Try.prog (W.alloc (.cells #[] 43)) = .ok (.slice a1 l.length c1) W1 ∧ RowV W1 (.slice a1 l.length c1) l ∧ (∀ k, Value.ownBlock (.slice a1 l.length c1) = some k → W.heap.size ≤ k) ∧ Below W.heap.size W W1 := by
  have hal := Below.allocs W (.cells #[] 43)
  have ho := World.ownsRow_made (base := W.heap.size) (e := 43) (size := 4) W #[] 0 (Nat.le_refl _) (Nat.zero_le _) (by simp)
  obtain ⟨s1, W1, hr1, ho1, hb1, ⟨a1, c1, rfl⟩, _⟩ := app_run (W := W.alloc (.cells #[] 43)) (base := W.heap.size) (l := []) (m := l) hal.size ho (h1.below hal) (by simp; omega) (fun _ h => absurd h List.not_mem_nil)
  rw [List.nil_append] at hr1 ho1
  exact ⟨a1, c1, W1, hr1, RowV.of_own ho1, own_ge ho1, hal.trans hb1⟩

set_option maxRecDepth 100000 in
set_option maxHeartbeats 4000000 in
theorem given_is (w : World) (t : Tup) (ra : Option Addr) (rc n : Nat) (hn : t.row.length = n) (hl : n ≤ 1000000) (hr : SlL w ra rc t.row) :
    Calls Try.prog 56 #[tupV t (.slice ra n rc)] w fun e w' => ∃ s, e = .returned (tupV t s) ∧ RowV w' s t.row ∧ (∀ k, s.ownBlock = some k → w.heap.size ≤ k) ∧ Below w.heap.size w w' := by
  have b1 := Below.allocs w (.cells (tupC t (.slice ra n rc)).toArray 46)
  have l1 := Lit.new w 46 (tupC t (.slice ra n rc))
  obtain ⟨g1, hg1⟩ : ∃ g, w.heap.size = g := ⟨_, rfl⟩
  have hs1 : (w.alloc (.cells (tupC t (.slice ra n rc)).toArray 46)).heap.size = g1 + 1 := by rw [← hg1]; simp
  obtain ⟨W1, hW1⟩ : ∃ W, w.alloc (.cells (tupC t (.slice ra n rc)).toArray 46) = W := ⟨_, rfl⟩
  rw [hW1] at b1 l1 hs1
  rw [hg1] at l1
  have b2 := Below.allocs W1 (.cells #[.int .i64 0, .int .i64 0, .int .i64 0, .int .i64 0, .int .i64 0, .int .i64 0, .slice none 0 0] 28)
  have l2 := Lit.new W1 28 [.int .i64 0, .int .i64 0, .int .i64 0, .int .i64 0, .int .i64 0, .int .i64 0, .slice none 0 0]
  have hs2 : (W1.alloc (.cells #[.int .i64 0, .int .i64 0, .int .i64 0, .int .i64 0, .int .i64 0, .int .i64 0, .slice none 0 0] 28)).heap.size = g1 + 2 := by rw [World.size_alloc, hs1]
  obtain ⟨W2, hW2⟩ : ∃ W, W1.alloc (.cells #[.int .i64 0, .int .i64 0, .int .i64 0, .int .i64 0, .int .i64 0, .int .i64 0, .slice none 0 0] 28) = W := ⟨_, rfl⟩
  rw [hW2] at b2 hs2
  rw [show W1.alloc (.cells [Value.int .i64 0, .int .i64 0, .int .i64 0, .int .i64 0, .int .i64 0, .int .i64 0, .slice none 0 0].toArray 28) = W2 from hW2, hs1] at l2
  have hb2 := below_tr b1 b2
  obtain ⟨a1, c1, W3, hrun, hrow, hown, hb3⟩ := one_appR (hr.below hb2) (by omega)
  rw [hn] at hrun hrow hown
  rw [hs2] at hown
  have l1' := (l1.below b2).below hb3
  have l2' := l2.below hb3
  have hset := Touch.setCell W3 (F := fun k => k = g1) rfl 6 (.slice a1 n c1)
  have l14 := l1'.set 6 (.slice a1 n c1)
  have l24 := l2'.stay (hset.stay (G := fun k => k ≠ g1) (fun k hk e => hk e)) (by omega)
  have r4 := RowF.stay hrow (hset.stay (G := fun k => k ≠ g1) (fun k hk e => hk e)) (fun k hk => by have := hown k hk; omega)
  have hb4 := (below_tr hb2 hb3).trans (hset.below (fun k hk => by omega) (below_tr hb2 hb3).size)
  have c6 := (l1.below b2).cell (o := 6) rfl
  have f6 := l1'.fz 6
  have c63 := l1'.cell (o := 6) rfl
  have c63 : W3.cell? ⟨g1, 6, none⟩ = some (.slice ra n rc) := c63
  have hg1l := (l1.below b2).lt
  obtain ⟨W4, hW4⟩ : ∃ W, W3.setCell ⟨g1, 6, none⟩ (.slice a1 n c1) = W := ⟨_, rfl⟩
  rw [hW4] at l14 l24 r4 hb4
  have l14 : Lit W4 g1 46 (tupC t (.slice a1 n c1)) := l14
  obtain ⟨k0, k1, k2, k3, k4, k5, k6, kl⟩ : W4.cell? ⟨g1, 0, none⟩ = some (.int .i64 t.no) ∧ W4.cell? ⟨g1, 1, none⟩ = some (.int .i64 t.id) ∧ W4.cell? ⟨g1, 2, none⟩ = some (.int .i64 t.mn) ∧ W4.cell? ⟨g1, 3, none⟩ = some (.int .i64 t.cm) ∧ W4.cell? ⟨g1, 4, none⟩ = some (.int .i64 t.mx) ∧ W4.cell? ⟨g1, 5, none⟩ = some (.int .i64 t.cx) ∧ W4.cell? ⟨g1, 6, none⟩ = some (.slice a1 n c1) ∧ g1 < W4.heap.size :=
    ⟨l14.cell rfl, l14.cell rfl, l14.cell rfl, l14.cell rfl, l14.cell rfl, l14.cell rfl, l14.cell rfl, l14.lt⟩
  obtain ⟨d0, d1, d2, d3, d4, d5, d6, dl⟩ : W4.cell? ⟨g1 + 1, 0, none⟩ = some (.int .i64 0) ∧ W4.cell? ⟨g1 + 1, 1, none⟩ = some (.int .i64 0) ∧ W4.cell? ⟨g1 + 1, 2, none⟩ = some (.int .i64 0) ∧ W4.cell? ⟨g1 + 1, 3, none⟩ = some (.int .i64 0) ∧ W4.cell? ⟨g1 + 1, 4, none⟩ = some (.int .i64 0) ∧ W4.cell? ⟨g1 + 1, 5, none⟩ = some (.int .i64 0) ∧ W4.cell? ⟨g1 + 1, 6, none⟩ = some (.slice none 0 0) ∧ g1 + 1 < W4.heap.size :=
    ⟨l24.cell rfl, l24.cell rfl, l24.cell rfl, l24.cell rfl, l24.cell rfl, l24.cell rfl, l24.cell rfl, l24.lt⟩
  have z0 := l24.fz 0
  have z1 := l24.fz 1
  have z2 := l24.fz 2
  have z3 := l24.fz 3
  have z4 := l24.fz 4
  have z5 := l24.fz 5
  have z6 := l24.fz 6
  have he := lit_put7 l24 t (.slice a1 n c1)
  have ht7 := touch_put7 W4 (g1 + 1) t (.slice a1 n c1)
  have r5 := RowF.stay r4 (ht7.stay (G := fun k => k ≠ g1 + 1) (fun k hk e => hk e)) (fun k hk => by have := hown k hk; omega)
  have HEND := Lib.hid (And.intro (hb4.trans (ht7.below (fun k hk => by omega) hb4.size)) (And.intro r5 (fun k hk => (by have := hown k hk; omega : w.heap.size ≤ k))))
  have HR := Lib.hid (cells7 he)
  unfold put7 at HEND HR
  have HW1 := Lib.hid hW1
  have HW2 := Lib.hid hW2
  have HW4 := Lib.hid hW4
  have HG1 := Lib.hid hg1
  have HS1 := Lib.hid hs1
  have HS2 := Lib.hid hs2
  have HRUN := Lib.hid hrun
  unfold tupC at HW1
  unfold tupV
  clear b1 b2 l1 l2 l1' l2' l14 l24 r4 r5 hb2 hb3 hb4 hset hW1 hW2 hW4 hg1 hs1 hs2 hr hn hrun hrow hown he ht7
  go_enter Try.func56, Try.ntmps56
  go_upto_region 1 with (fail)
  rw [show w.alloc _ = W1 from HW1.out, HG1.out]
  try rw [HS1.out]
  rw [show W1.alloc _ = W2 from HW2.out]
  go_upto_region 2 with (first | (at_builtin; refine append_stepW rfl _ _ 26 rfl _ _ _ _ rfl rfl HRUN.out ?_) | go_in)
  rw [HW4.out]
  clear HW1 HW2 HW4 HG1 HS1 HS2 HRUN c6 f6 c63 hg1l
  go_wp2_with fail
  obtain ⟨q1, q2, q3⟩ := HEND.out
  obtain ⟨r0, r1, r2, r3, r4, r5, r6, -⟩ := HR.out
  exact bodyPost_ret (v := tupV t (.slice a1 n c1)) (by simp [results, Try.results56, tupV, go_sem, r0, r1, r2, r3, r4, r5, r6]) rfl ⟨_, rfl, q2, q3, q1⟩

end Go.Proofs.Ytkedkeelbbfmkaa
